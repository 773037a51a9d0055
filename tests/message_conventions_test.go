package tests

import (
	"math/rand/v2"
	"slices"
	"testing"

	"loop.example/processengine/impl"
)

var (
	roomSub    = sub(-5, -5, -5)
	roomLetter = letter(-5, -5, -5)
)

// postQuestion is what is asked about a post office.
type postQuestion struct {
	letter impl.Letter
	sub    impl.Sub
	now    int
}

// postAnswers are the results of all functions for a post office.
type postAnswers struct {
	posts   []impl.Post
	numbers []int
}

func askPost(x impl.Post, q postQuestion) postAnswers {
	sent, owner, okSent := impl.SendLetter(x, q.letter)
	waited, gets, okWaited := impl.WaitLetter(x, q.sub)
	return postAnswers{
		posts:   []impl.Post{sent, waited, impl.DropLetters(x, q.now)},
		numbers: []int{bit(impl.ValidPost(x)), owner, bit(okSent), bit(gets), bit(okWaited)},
	}
}

// wantedAnswers returns what askPost has to return.
func wantedAnswers(x impl.Post, q postQuestion) postAnswers {
	sent, owner, okSent := wantedSend(x, q.letter)
	waited, gets, okWaited := wantedWait(x, q.sub)
	return postAnswers{
		posts:   []impl.Post{sent, waited, wantedDrop(x, q.now)},
		numbers: []int{bit(wantedPost(x)), owner, bit(okSent), bit(gets), bit(okWaited)},
	}
}

func (a postAnswers) copied() postAnswers {
	b := postAnswers{numbers: slices.Clone(a.numbers)}
	for _, x := range a.posts {
		b.posts = append(b.posts, copyPost(x))
	}
	return b
}

func (a postAnswers) spoil() {
	for _, x := range a.posts {
		spoil(x.Subs, sub(-7, -7, -7))
		spoil(x.Letters, letter(-7, -7, -7))
	}
}

// samePostAnswers reports whether results are the same, where a nil slice is an empty one.
func samePostAnswers(a postAnswers, b postAnswers) bool {
	return slices.EqualFunc(a.posts, b.posts, samePost) && slices.Equal(a.numbers, b.numbers)
}

func randomPostQuestion(r *rand.Rand) postQuestion {
	l, s := askedMail(r)
	return postQuestion{l, s, []int{0, l.Until, l.Until + 1, r.IntN(10), anyNumber(r)}[r.IntN(5)]}
}

func TestMessageFunctionsLeaveTheirArguments(t *testing.T) {
	withPosts(t, func(r *rand.Rand, x impl.Post) {
		if r.IntN(8) == 0 {
			x = alteredPost(r, x)
		}
		q := randomPostQuestion(r)
		y := impl.Post{Subs: withRoom(x.Subs, roomSub), Letters: withRoom(x.Letters, roomLetter)}
		first := askPost(y, q)
		want := first.copied()
		first.spoil()
		if !sameRoom(y.Subs, x.Subs, roomSub) || !sameRoom(y.Letters, x.Letters, roomLetter) {
			t.Fatalf("%v has become %v by %v", x, y, q)
		}
		if !samePostAnswers(askPost(y, q), want) {
			t.Fatalf("the second results for %v, %v differ", x, q)
		}
	})
}

// wantPostsApart fails if post offices share memory, for each of their lists is written over and then has to be as it was written.
func wantPostsApart(t *testing.T, what any, list []impl.Post) {
	t.Helper()
	for i, x := range list {
		spoil(x.Subs, sub(i, -7, -7))
		spoil(x.Letters, letter(i, -7, -7))
	}
	for i, x := range list {
		badSub := func(s impl.Sub) bool { return s != sub(i, -7, -7) }
		badLetter := func(l impl.Letter) bool { return l != letter(i, -7, -7) }
		if slices.ContainsFunc(x.Subs[:cap(x.Subs)], badSub) || slices.ContainsFunc(x.Letters[:cap(x.Letters)], badLetter) {
			t.Fatalf("%v: the post office %d shares memory with another one", what, i)
		}
	}
}

func TestPostsShareNoMemory(t *testing.T) {
	withPosts(t, func(r *rand.Rand, x impl.Post) {
		y := impl.Post{Subs: withRoom(x.Subs, roomSub), Letters: withRoom(x.Letters, roomLetter)}
		q := randomPostQuestion(r)
		first, second := askPost(y, q), askPost(y, q)
		wantPostsApart(t, x, slices.Concat([]impl.Post{y}, first.posts, second.posts))
	})
}

func TestEmptyAndNilPostsAreTheSame(t *testing.T) {
	r := newRandom(29)
	empty := impl.Post{Subs: []impl.Sub{}, Letters: []impl.Letter{}}
	for range 1000 {
		if q := randomPostQuestion(r); !samePostAnswers(askPost(impl.Post{}, q), askPost(empty, q)) {
			t.Fatalf("an empty post office is not as none for %v", q)
		}
	}
	withPosts(t, func(r *rand.Rand, x impl.Post) {
		q := randomPostQuestion(r)
		if !samePostAnswers(askPost(impl.Post{Subs: x.Subs}, q), askPost(impl.Post{Subs: x.Subs, Letters: []impl.Letter{}}, q)) {
			t.Fatalf("no letters in %v are not as none for %v", x, q)
		}
		if !samePostAnswers(askPost(impl.Post{Letters: x.Letters}, q), askPost(impl.Post{Subs: []impl.Sub{}, Letters: x.Letters}, q)) {
			t.Fatalf("no subscriptions in %v are not as none for %v", x, q)
		}
	})
}

// TestMessageFunctionsReturnForEveryArgument fails by a panic if they do not.
func TestMessageFunctionsReturnForEveryArgument(t *testing.T) {
	r := newRandom(30)
	valid := 0
	for range 50000 {
		var x impl.Post
		for range r.IntN(4) * r.IntN(5) {
			x.Subs = append(x.Subs, impl.Sub{Owner: anyNumber(r), Name: anyNumber(r), Key: anyNumber(r)})
		}
		for range r.IntN(4) * r.IntN(5) {
			x.Letters = append(x.Letters, impl.Letter{Name: anyNumber(r), Key: anyNumber(r), Until: anyNumber(r)})
		}
		q := postQuestion{impl.Letter{Name: anyNumber(r), Key: anyNumber(r), Until: anyNumber(r)}, impl.Sub{Owner: anyNumber(r), Name: anyNumber(r), Key: anyNumber(r)}, anyNumber(r)}
		if got, want := askPost(x, q), wantedAnswers(x, q); !samePostAnswers(got, want) {
			t.Fatalf("%v with %v: %v, want %v", x, q, got, want)
		}
		valid += bit(impl.ValidPost(x))
	}
	if valid < 2000 {
		t.Errorf("%d valid post offices test too little", valid)
	}
}
