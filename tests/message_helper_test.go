package tests

import (
	"math/rand/v2"
	"slices"
	"sync"
	"testing"

	"loop.example/processengine/impl"
)

func letter(name int, key int, until int) impl.Letter {
	return impl.Letter{Name: name, Key: key, Until: until}
}

func sub(owner int, name int, key int) impl.Sub {
	return impl.Sub{Owner: owner, Name: name, Key: key}
}

// subs returns a post office with some subscriptions, and no letters.
func subs(list ...impl.Sub) impl.Post { return impl.Post{Subs: list} }

// letters returns a post office with some letters, and no subscriptions.
func letters(list ...impl.Letter) impl.Post { return impl.Post{Letters: list} }

// copyPost returns a post office that shares no memory with another one.
func copyPost(x impl.Post) impl.Post {
	return impl.Post{Subs: slices.Clone(x.Subs), Letters: slices.Clone(x.Letters)}
}

// samePost reports whether two post offices are the same, where a nil slice is an empty one.
func samePost(x impl.Post, y impl.Post) bool {
	return slices.Equal(x.Subs, y.Subs) && slices.Equal(x.Letters, y.Letters)
}

// isNoPost reports whether a post office is the zero value.
func isNoPost(x impl.Post) bool { return x.Subs == nil && x.Letters == nil }

// nameAndKey returns the name and the key of one of nine addresses, at and between the limits.
func nameAndKey(i int) (name int, key int) {
	return []int{0, 4, impl.MaxName}[i%3], []int{0, 50, impl.MaxKey}[i/3]
}

func randomSub(r *rand.Rand) impl.Sub {
	name, key := nameAndKey(r.IntN(9))
	return sub(r.IntN(impl.MaxOwner+1), name, key)
}

func randomLetter(r *rand.Rand) impl.Letter {
	name, key := nameAndKey(r.IntN(9))
	return letter(name, key, []int{0, 1, r.IntN(10), r.IntN(impl.MaxClock + 1), impl.MaxClock}[r.IntN(5)])
}

// randomPost returns a valid post office, in which most addresses are those of several subscriptions or letters.
func randomPost(r *rand.Rand) impl.Post {
	var x impl.Post
	lies := map[[2]int]bool{} // whether letters, and not subscriptions, have a name and a key
	for i := range 9 {
		name, key := nameAndKey(i)
		lies[[2]int{name, key}] = r.IntN(2) == 0
	}
	for range r.IntN(20) + r.IntN(20) {
		s, l := randomSub(r), randomLetter(r)
		if len(x.Subs) < impl.MaxSubs && !lies[[2]int{s.Name, s.Key}] {
			x.Subs = append(x.Subs, s)
		}
		if len(x.Letters) < impl.MaxLetters && lies[[2]int{l.Name, l.Key}] {
			x.Letters = append(x.Letters, l)
		}
	}
	return x
}

// alteredPost returns a post office with one thing changed, so that often it is not valid any more.
func alteredPost(r *rand.Rand, x impl.Post) impl.Post {
	y := copyPost(x)
	n := extremes[r.IntN(len(extremes))]
	switch k := r.IntN(8); {
	case k == 0:
		y.Subs = append(y.Subs, randomSub(r))
	case k == 1:
		y.Letters = append(y.Letters, randomLetter(r))
	case k <= 4 && len(y.Subs) > 0:
		s := &y.Subs[r.IntN(len(y.Subs))]
		*[]*int{&s.Owner, &s.Name, &s.Key}[k-2] = n
	case k > 4 && len(y.Letters) > 0:
		l := &y.Letters[r.IntN(len(y.Letters))]
		*[]*int{&l.Name, &l.Key, &l.Until}[k-5] = n
	}
	return y
}

// posts returns many valid post offices. Nobody may change them.
var posts = sync.OnceValue(func() []impl.Post {
	r := newRandom(21)
	list := []impl.Post{{}, fullPost()}
	for range 5000 {
		list = append(list, randomPost(r))
	}
	return list
})

// withPosts calls a function with many valid post offices.
func withPosts(t *testing.T, f func(r *rand.Rand, x impl.Post)) {
	t.Helper()
	r := newRandom(22)
	for _, x := range posts() {
		f(r, x)
	}
}

// fullPost returns a post office with as many subscriptions and letters as the limits allow.
func fullPost() impl.Post {
	var x impl.Post
	for i := range 10 {
		x.Subs = append(x.Subs, sub(i, i, 10*i))
		x.Letters = append(x.Letters, letter(i, 10*i+1, 1000*i))
	}
	return x
}

// waitsFor returns the owners of the subscriptions with a name and a key, in order.
func waitsFor(x impl.Post, name int, key int) []int {
	var list []int
	for _, s := range x.Subs {
		if s.Name == name && s.Key == key {
			list = append(list, s.Owner)
		}
	}
	return list
}

// liesFor returns the letters with a name and a key, in order.
func liesFor(x impl.Post, name int, key int) []impl.Letter {
	var list []impl.Letter
	for _, l := range x.Letters {
		if l.Name == name && l.Key == key {
			list = append(list, l)
		}
	}
	return list
}

func wantSent(t *testing.T, what string, x impl.Post, l impl.Letter, want impl.Post, wantOwner int) {
	t.Helper()
	if y, owner, ok := impl.SendLetter(x, l); !ok || owner != wantOwner || !samePost(y, want) {
		t.Errorf("%s: SendLetter(%v, %v) = %v, %d, %v, want %v, %d", what, x, l, y, owner, ok, want, wantOwner)
	}
}

func wantNotSent(t *testing.T, what string, x impl.Post, l impl.Letter) {
	t.Helper()
	if y, owner, ok := impl.SendLetter(x, l); ok || owner != -1 || !isNoPost(y) {
		t.Errorf("%s: SendLetter(%v, %v) = %v, %d, %v", what, x, l, y, owner, ok)
	}
}

func wantWaited(t *testing.T, what string, x impl.Post, s impl.Sub, want impl.Post, wantGets bool) {
	t.Helper()
	if y, gets, ok := impl.WaitLetter(x, s); !ok || gets != wantGets || !samePost(y, want) {
		t.Errorf("%s: WaitLetter(%v, %v) = %v, %v, %v, want %v, %v", what, x, s, y, gets, ok, want, wantGets)
	}
}

func wantNotWaited(t *testing.T, what string, x impl.Post, s impl.Sub) {
	t.Helper()
	if y, gets, ok := impl.WaitLetter(x, s); ok || gets || !isNoPost(y) {
		t.Errorf("%s: WaitLetter(%v, %v) = %v, %v, %v", what, x, s, y, gets, ok)
	}
}
