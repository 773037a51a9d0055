package tests

import (
	"math"
	"math/rand/v2"
	"slices"
	"testing"

	"loop.example/processengine/impl"
)

func TestMessageConstants(t *testing.T) {
	wantList(t, "limits", []int{impl.MaxOwner, impl.MaxKey, impl.MaxSubs, impl.MaxLetters}, 9, 99, 10, 10)
}

// outside are numbers outside a range that begins with 0.
func outside(most int) []int { return []int{math.MinInt, -1, most + 1, math.MaxInt} }

// badSubs returns subscriptions that no valid post office has.
func badSubs() []impl.Sub {
	var list []impl.Sub
	for _, n := range outside(9) {
		list = append(list, sub(n, 1, 7), sub(3, n, 7))
	}
	for _, n := range outside(99) {
		list = append(list, sub(3, 1, n))
	}
	return list
}

// badLetters returns letters that no valid post office has.
func badLetters() []impl.Letter {
	var list []impl.Letter
	for _, n := range outside(9) {
		list = append(list, letter(n, 7, 50))
	}
	for _, n := range outside(99) {
		list = append(list, letter(1, n, 50))
	}
	for _, n := range outside(9999) {
		list = append(list, letter(1, 7, n))
	}
	return list
}

func wantValidPost(t *testing.T, what string, x impl.Post, want bool) {
	t.Helper()
	if got := impl.ValidPost(x); got != want {
		t.Errorf("%s: ValidPost(%v) = %v", what, x, got)
	}
}

func TestValidPost(t *testing.T) {
	wantValidPost(t, "nothing", impl.Post{}, true)
	wantValidPost(t, "empty lists", impl.Post{Subs: []impl.Sub{}, Letters: []impl.Letter{}}, true)
	wantValidPost(t, "the least numbers", subs(sub(0, 0, 0)), true)
	wantValidPost(t, "the greatest numbers", subs(sub(9, 9, 99)), true)
	wantValidPost(t, "the least numbers", letters(letter(0, 0, 0)), true)
	wantValidPost(t, "the greatest numbers", letters(letter(9, 99, 9999)), true)
	wantValidPost(t, "the same subscription twice", subs(sub(3, 1, 7), sub(3, 1, 7)), true)
	wantValidPost(t, "several owners for the same name and key", subs(sub(3, 1, 7), sub(2, 1, 7), sub(4, 1, 7)), true)
	wantValidPost(t, "the same letter twice", letters(letter(1, 7, 50), letter(1, 7, 50)), true)
	wantValidPost(t, "several letters with the same name and key", letters(letter(1, 7, 50), letter(1, 7, 3), letter(1, 7, 9)), true)
	wantValidPost(t, "as many as the limits", fullPost(), true)
	wantValidPost(t, "the same as often as the limit", subs(slices.Repeat([]impl.Sub{sub(3, 1, 7)}, 10)...), true)
	wantValidPost(t, "the same as often as the limit", letters(slices.Repeat([]impl.Letter{letter(1, 7, 50)}, 10)...), true)
	for _, many := range []int{11, 12, 100000} {
		wantValidPost(t, "too many subscriptions", subs(slices.Repeat([]impl.Sub{sub(3, 1, 7)}, many)...), false)
		wantValidPost(t, "too many letters", letters(slices.Repeat([]impl.Letter{letter(1, 7, 50)}, many)...), false)
	}
	for _, s := range badSubs() {
		for i := range 3 {
			wantValidPost(t, "a bad subscription", subs(slices.Insert([]impl.Sub{sub(3, 1, 7), sub(0, 0, 0)}, i, s)...), false)
		}
	}
	for _, l := range badLetters() {
		for i := range 3 {
			wantValidPost(t, "a bad letter", letters(slices.Insert([]impl.Letter{letter(1, 7, 50), letter(0, 0, 0)}, i, l)...), false)
		}
	}
}

func TestNobodyWaitsForWhatIsThere(t *testing.T) {
	some := impl.Post{Subs: []impl.Sub{sub(3, 1, 7), sub(4, 2, 8)}, Letters: []impl.Letter{letter(1, 8, 50), letter(2, 7, 50), letter(7, 1, 50)}}
	wantValidPost(t, "the same names, and the same keys, but not both", some, true)
	for _, s := range []impl.Sub{sub(0, 1, 8), sub(9, 2, 7), sub(5, 7, 1)} {
		for i := range 3 {
			x := copyPost(some)
			x.Subs = slices.Insert(x.Subs, i, s)
			wantValidPost(t, "a subscription for a letter", x, false)
			wantBadPost(t, x)
		}
	}
	// Names and keys are two numbers, not one.
	wantValidPost(t, "numbers that follow each other", impl.Post{Subs: []impl.Sub{sub(0, 1, 0)}, Letters: []impl.Letter{letter(0, 10, 0), letter(0, 99, 0), letter(2, 0, 0)}}, true)
	for i := range 10 {
		full := fullPost()
		full.Letters[9-i] = letter(i, 10*i, 0)
		wantValidPost(t, "as many as the limits, with a subscription for a letter", full, false)
	}
}

// wantBadPost fails if a function succeeds for a post office that is not valid.
func wantBadPost(t *testing.T, x impl.Post) {
	t.Helper()
	wantValidPost(t, "a bad one", x, false)
	for _, l := range []impl.Letter{{}, letter(1, 7, 50), letter(9, 99, 9999), letter(3, 3, 3), letter(10, 0, 0)} {
		wantNotSent(t, "a post office that is not valid", x, l)
	}
	for _, s := range []impl.Sub{{}, sub(3, 1, 7), sub(9, 9, 99), sub(3, 3, 3), sub(0, 10, 0)} {
		wantNotWaited(t, "a post office that is not valid", x, s)
	}
	for _, l := range x.Letters[:min(20, len(x.Letters))] {
		wantNotSent(t, "a post office that is not valid", x, l)
		wantNotWaited(t, "a post office that is not valid", x, sub(3, l.Name, l.Key))
	}
	for _, s := range x.Subs[:min(20, len(x.Subs))] {
		wantNotSent(t, "a post office that is not valid", x, letter(s.Name, s.Key, 50))
		wantNotWaited(t, "a post office that is not valid", x, s)
	}
	for _, now := range extremes {
		if y := impl.DropLetters(x, now); !isNoPost(y) {
			t.Errorf("DropLetters(%v, %d) = %v", x, now, y)
		}
	}
}

func TestPostOfficesThatAreNotValid(t *testing.T) {
	wantBadPost(t, subs(slices.Repeat([]impl.Sub{sub(3, 1, 7)}, 11)...))
	wantBadPost(t, letters(slices.Repeat([]impl.Letter{letter(1, 7, 50)}, 11)...))
	for _, s := range badSubs() {
		wantBadPost(t, subs(sub(3, 1, 7), s))
		wantBadPost(t, impl.Post{Subs: []impl.Sub{s}, Letters: []impl.Letter{letter(3, 3, 9999)}})
	}
	for _, l := range badLetters() {
		wantBadPost(t, letters(l, letter(1, 7, 50)))
		wantBadPost(t, impl.Post{Subs: []impl.Sub{sub(3, 3, 3)}, Letters: []impl.Letter{l}})
	}
	wantBadPost(t, impl.Post{Subs: []impl.Sub{sub(0, 0, 0)}, Letters: []impl.Letter{letter(0, 0, 0)}})
}

func TestSendLetterToWhoWaits(t *testing.T) {
	one := impl.Post{Subs: []impl.Sub{sub(3, 1, 7)}, Letters: []impl.Letter{letter(1, 8, 50)}}
	wantSent(t, "one who waits", one, letter(1, 7, 50), letters(letter(1, 8, 50)), 3)
	wantSent(t, "the owner 0", subs(sub(0, 0, 0)), letter(0, 0, 0), impl.Post{}, 0)
	wantSent(t, "the greatest numbers", subs(sub(9, 9, 99)), letter(9, 99, 9999), impl.Post{}, 9)
	several := subs(sub(5, 1, 8), sub(3, 1, 7), sub(2, 2, 7), sub(1, 1, 7), sub(3, 1, 7))
	wantSent(t, "several who wait", several, letter(1, 7, 0), subs(sub(5, 1, 8), sub(2, 2, 7), sub(1, 1, 7), sub(3, 1, 7)), 3)
	wantSent(t, "several who wait, for others", several, letter(2, 7, 0), subs(sub(5, 1, 8), sub(3, 1, 7), sub(1, 1, 7), sub(3, 1, 7)), 2)
	next := several
	for _, owner := range []int{3, 1, 3, -1, -1} {
		y, got, ok := impl.SendLetter(next, letter(1, 7, 9))
		if !ok || got != owner {
			t.Errorf("SendLetter(%v) = %v, %d, %v, want %d", next, y, got, ok, owner)
		}
		next = y
	}
	if want := (impl.Post{Subs: []impl.Sub{sub(5, 1, 8), sub(2, 2, 7)}, Letters: []impl.Letter{letter(1, 7, 9), letter(1, 7, 9)}}); !samePost(next, want) {
		t.Errorf("five letters lead to %v, want %v", next, want)
	}
	// No letter is put anywhere, so that a full post office is no hindrance.
	for i := range 10 {
		full := fullPost()
		want := copyPost(full)
		want.Subs = slices.Delete(want.Subs, i, i+1)
		wantSent(t, "a full post office", full, letter(i, 10*i, 50), want, i)
	}
}

func TestSendBadLetterToWhoWaits(t *testing.T) {
	one := subs(sub(3, 1, 7))
	for _, l := range badLetters() {
		wantNotSent(t, "a bad letter, one who waits", one, l)
		wantNotSent(t, "a bad letter, several who wait", subs(sub(3, 1, 7), sub(4, 1, 7)), l)
		wantNotSent(t, "a bad letter, one who waits beside others", impl.Post{Subs: []impl.Sub{sub(4, 2, 7), sub(3, 1, 7)}, Letters: []impl.Letter{letter(1, 8, 50)}}, l)
	}
	for _, until := range outside(9999) {
		for i := range 10 {
			wantNotSent(t, "a time outside its range, a full post office", fullPost(), letter(i, 10*i, until))
		}
	}
	for _, until := range []int{0, 1, 9998, 9999} {
		wantSent(t, "a time in its range", one, letter(1, 7, until), impl.Post{}, 3)
	}
}

func TestSendLetterToNobody(t *testing.T) {
	wantSent(t, "an empty post office", impl.Post{}, letter(1, 7, 50), letters(letter(1, 7, 50)), -1)
	wantSent(t, "the least numbers", impl.Post{}, letter(0, 0, 0), letters(letter(0, 0, 0)), -1)
	wantSent(t, "the greatest numbers", impl.Post{}, letter(9, 99, 9999), letters(letter(9, 99, 9999)), -1)
	x := impl.Post{Subs: []impl.Sub{sub(3, 1, 7)}, Letters: []impl.Letter{letter(1, 8, 50), letter(2, 7, 3)}}
	for _, l := range []impl.Letter{letter(2, 7, 1), letter(1, 8, 9), letter(2, 7, 3), letter(7, 1, 0), letter(0, 17, 0)} {
		wantSent(t, "nobody who waits", x, l, impl.Post{Subs: x.Subs, Letters: slices.Concat(x.Letters, []impl.Letter{l})}, -1)
	}
	for _, l := range badLetters() {
		wantNotSent(t, "a letter that is not valid", impl.Post{}, l)
		wantNotSent(t, "a letter that is not valid", subs(sub(3, 2, 7)), l)
		wantNotSent(t, "a letter that is not valid", letters(letter(1, 7, 50)), l)
	}
	full := fullPost()
	wantNotSent(t, "a full post office", full, letter(1, 7, 50))
	wantNotSent(t, "a full post office that has the letter", full, full.Letters[0])
	less := copyPost(full)
	less.Letters = less.Letters[:9]
	wantSent(t, "a post office that is nearly full", less, full.Letters[9], full, -1)
}

func TestWaitLetterThatIsThere(t *testing.T) {
	one := impl.Post{Subs: []impl.Sub{sub(3, 1, 8)}, Letters: []impl.Letter{letter(1, 7, 50)}}
	wantWaited(t, "one letter", one, sub(4, 1, 7), subs(sub(3, 1, 8)), true)
	wantWaited(t, "the least numbers", letters(letter(0, 0, 0)), sub(0, 0, 0), impl.Post{}, true)
	wantWaited(t, "the greatest numbers", letters(letter(9, 99, 9999)), sub(9, 9, 99), impl.Post{}, true)
	several := letters(letter(1, 8, 1), letter(1, 7, 30), letter(2, 7, 2), letter(1, 7, 10), letter(1, 7, 20))
	wantWaited(t, "several letters", several, sub(4, 1, 7), letters(letter(1, 8, 1), letter(2, 7, 2), letter(1, 7, 10), letter(1, 7, 20)), true)
	wantWaited(t, "several letters for others", several, sub(4, 2, 7), letters(letter(1, 8, 1), letter(1, 7, 30), letter(1, 7, 10), letter(1, 7, 20)), true)
	next := several
	for i, gets := range []bool{true, true, true, false, false} {
		y, got, ok := impl.WaitLetter(next, sub(i, 1, 7))
		if !ok || got != gets {
			t.Errorf("WaitLetter(%v) = %v, %v, %v, want %v", next, y, got, ok, gets)
		}
		next = y
	}
	if want := (impl.Post{Subs: []impl.Sub{sub(3, 1, 7), sub(4, 1, 7)}, Letters: []impl.Letter{letter(1, 8, 1), letter(2, 7, 2)}}); !samePost(next, want) {
		t.Errorf("five who wait lead to %v, want %v", next, want)
	}
	// No subscription is put anywhere, so that a full post office is no hindrance.
	for i := range 10 {
		full := fullPost()
		want := copyPost(full)
		want.Letters = slices.Delete(want.Letters, i, i+1)
		wantWaited(t, "a full post office", full, sub(9-i, i, 10*i+1), want, true)
	}
}

func TestBadSubWaitsForLetterThatIsThere(t *testing.T) {
	one := letters(letter(1, 7, 50))
	for _, s := range badSubs() {
		wantNotWaited(t, "a bad subscription, one letter", one, s)
		wantNotWaited(t, "a bad subscription, several letters", letters(letter(1, 7, 50), letter(1, 7, 9)), s)
		wantNotWaited(t, "a bad subscription, one letter beside others", impl.Post{Subs: []impl.Sub{sub(3, 1, 8)}, Letters: []impl.Letter{letter(2, 7, 50), letter(1, 7, 50), letter(3, 7, 50)}}, s)
	}
	for _, owner := range outside(9) {
		for i := range 10 {
			wantNotWaited(t, "an owner outside its range, a full post office", fullPost(), sub(owner, i, 10*i+1))
		}
	}
	for _, owner := range []int{0, 1, 8, 9} {
		wantWaited(t, "an owner in its range", one, sub(owner, 1, 7), impl.Post{}, true)
	}
}

func TestWaitLetterThatIsNotThere(t *testing.T) {
	wantWaited(t, "an empty post office", impl.Post{}, sub(3, 1, 7), subs(sub(3, 1, 7)), false)
	wantWaited(t, "the least numbers", impl.Post{}, sub(0, 0, 0), subs(sub(0, 0, 0)), false)
	wantWaited(t, "the greatest numbers", impl.Post{}, sub(9, 9, 99), subs(sub(9, 9, 99)), false)
	x := impl.Post{Subs: []impl.Sub{sub(3, 1, 8), sub(2, 2, 7)}, Letters: []impl.Letter{letter(1, 7, 50)}}
	for _, s := range []impl.Sub{sub(3, 1, 8), sub(4, 1, 8), sub(1, 2, 7), sub(1, 7, 1), sub(7, 1, 50), sub(0, 0, 17)} {
		wantWaited(t, "no such letter", x, s, impl.Post{Subs: slices.Concat(x.Subs, []impl.Sub{s}), Letters: x.Letters}, false)
	}
	for _, s := range badSubs() {
		wantNotWaited(t, "a subscription that is not valid", impl.Post{}, s)
		wantNotWaited(t, "a subscription that is not valid", letters(letter(2, 7, 50)), s)
		wantNotWaited(t, "a subscription that is not valid", subs(sub(3, 1, 7)), s)
	}
	full := fullPost()
	wantNotWaited(t, "a full post office", full, sub(3, 1, 7))
	wantNotWaited(t, "a full post office that has the subscription", full, full.Subs[0])
	less := copyPost(full)
	less.Subs = less.Subs[:9]
	wantWaited(t, "a post office that is nearly full", less, full.Subs[9], full, false)
}

func TestDropLetters(t *testing.T) {
	x := impl.Post{Subs: []impl.Sub{sub(3, 1, 8), sub(2, 1, 8)}, Letters: []impl.Letter{letter(1, 7, 50), letter(2, 7, 49), letter(1, 7, 51), letter(3, 7, 0), letter(4, 7, 9999), letter(1, 7, 50)}}
	until := func(least int) impl.Post {
		y := impl.Post{Subs: x.Subs}
		for _, l := range x.Letters {
			if l.Until >= least {
				y.Letters = append(y.Letters, l)
			}
		}
		return y
	}
	for now, many := range map[int]int{math.MinInt: 6, -1: 6, 0: 6, 1: 5, 49: 5, 50: 4, 51: 2, 52: 1, 9999: 1, 10000: 0, math.MaxInt: 0} {
		y := impl.DropLetters(x, now)
		if !samePost(y, until(now)) || len(y.Letters) != many {
			t.Errorf("DropLetters(%v, %d) = %v, want %d letters", x, now, y, many)
		}
	}
	for _, now := range extremes {
		if y := impl.DropLetters(impl.Post{}, now); !samePost(y, impl.Post{}) {
			t.Errorf("DropLetters of nothing at %d = %v", now, y)
		}
		if y := impl.DropLetters(subs(sub(3, 1, 7)), now); !samePost(y, subs(sub(3, 1, 7))) {
			t.Errorf("DropLetters of a subscription at %d = %v", now, y)
		}
	}
	full := fullPost() // the letter i has the time 1000*i
	for i := range 10 {
		if y := impl.DropLetters(full, 1000*i); len(y.Letters) != 10-i || len(y.Subs) != 10 {
			t.Errorf("DropLetters(%v, %d) = %v", full, 1000*i, y)
		}
	}
}

// TestRandomPosts compares the functions for many post offices, valid or not, with what they have to be.
func TestRandomPosts(t *testing.T) {
	var gets, nobody, waits, failed, badLetter, badSub int
	withPosts(t, func(r *rand.Rand, x impl.Post) {
		for range 3 {
			if r.IntN(2) == 0 {
				x = alteredPost(r, x)
			}
			if got, want := impl.ValidPost(x), wantedPost(x); got != want {
				t.Fatalf("ValidPost(%v) = %v", x, got)
			}
			l, s := askedMail(r)
			post, owner, ok := impl.SendLetter(x, l)
			wantPost, wantOwner, wantOk := wantedSend(x, l)
			if !samePost(post, wantPost) || owner != wantOwner || ok != wantOk {
				t.Fatalf("SendLetter(%v, %v) = %v, %d, %v, want %v, %d, %v", x, l, post, owner, ok, wantPost, wantOwner, wantOk)
			}
			gets += bit(owner >= 0)
			nobody += bit(ok && owner < 0)
			failed += bit(!ok)
			post, now, ok := impl.WaitLetter(x, s)
			wantPost, wantNow, wantOk := wantedWait(x, s)
			if !samePost(post, wantPost) || now != wantNow || ok != wantOk {
				t.Fatalf("WaitLetter(%v, %v) = %v, %v, %v, want %v, %v, %v", x, s, post, now, ok, wantPost, wantNow, wantOk)
			}
			waits += bit(ok && !now)
			badLetter += bit(!wantedPost(letters(l)) && wantedPost(x) && len(waitsFor(x, l.Name, l.Key)) > 0)
			badSub += bit(!wantedPost(subs(s)) && wantedPost(x) && len(liesFor(x, s.Name, s.Key)) > 0)
			for _, at := range []int{l.Until, l.Until + 1, anyNumber(r), r.IntN(12)} {
				if y, want := impl.DropLetters(x, at), wantedDrop(x, at); !samePost(y, want) {
					t.Fatalf("DropLetters(%v, %d) = %v, want %v", x, at, y, want)
				}
			}
		}
	})
	if min(gets, nobody, waits, failed) < 1000 {
		t.Errorf("%d letters that somebody gets, %d that nobody gets, %d who wait and %d failures test too little", gets, nobody, waits, failed)
	}
	if min(badLetter, badSub) < 100 {
		t.Errorf("%d bad letters that somebody waits for, and %d bad subscriptions for what is there, test too little", badLetter, badSub)
	}
}

// askedMail returns a letter and a subscription, some of which are not valid.
func askedMail(r *rand.Rand) (impl.Letter, impl.Sub) {
	l, s := randomLetter(r), randomSub(r)
	switch r.IntN(12) {
	case 0:
		l = impl.Letter{Name: anyNumber(r), Key: anyNumber(r), Until: anyNumber(r)}
		s = impl.Sub{Owner: anyNumber(r), Name: anyNumber(r), Key: anyNumber(r)}
	case 1, 2, 3: // with a name and a key for which somebody may wait, or that may be there
		l.Until, s.Owner = anyNumber(r), anyNumber(r)
	}
	return l, s
}
