package tests

import (
	"math/rand/v2"
	"slices"
	"testing"

	"loop.example/processengine/impl"
)

// withSent calls a function with many letters that are sent, the post offices before and behind, and who gets them.
func withSent(t *testing.T, f func(r *rand.Rand, x impl.Post, l impl.Letter, y impl.Post, owner int)) {
	t.Helper()
	somebody, nobody := 0, 0
	withPosts(t, func(r *rand.Rand, x impl.Post) {
		for range 3 {
			l := randomLetter(r)
			if y, owner, ok := impl.SendLetter(x, l); ok {
				f(r, x, l, y, owner)
				somebody += bit(owner >= 0)
				nobody += bit(owner < 0)
			}
		}
	})
	if min(somebody, nobody) < 1000 {
		t.Errorf("%d letters that somebody gets, and %d that nobody gets, test too little", somebody, nobody)
	}
}

// withWaited calls a function with many who wait, the post offices before and behind, and whether they get a letter.
func withWaited(t *testing.T, f func(r *rand.Rand, x impl.Post, s impl.Sub, y impl.Post, gets bool)) {
	t.Helper()
	got, waiting := 0, 0
	withPosts(t, func(r *rand.Rand, x impl.Post) {
		for range 3 {
			s := randomSub(r)
			if y, gets, ok := impl.WaitLetter(x, s); ok {
				f(r, x, s, y, gets)
				got += bit(gets)
				waiting += bit(!gets)
			}
		}
	})
	if min(got, waiting) < 1000 {
		t.Errorf("%d who get a letter, and %d who wait, test too little", got, waiting)
	}
}

// wantNoBadLetter fails if a letter with a name, a key and a time outside its range is sent.
func wantNoBadLetter(t *testing.T, x impl.Post, name int, key int) {
	t.Helper()
	for _, until := range outside(impl.MaxClock) {
		wantNotSent(t, "a time outside its range", x, letter(name, key, until))
	}
}

// wantNoBadSub fails if an owner outside its range waits for a letter with a name and a key.
func wantNoBadSub(t *testing.T, x impl.Post, name int, key int) {
	t.Helper()
	for _, owner := range outside(impl.MaxOwner) {
		wantNotWaited(t, "an owner outside its range", x, sub(owner, name, key))
	}
}

func TestPromise50NobodyWaitsForWhatIsThere(t *testing.T) {
	shorter := 0
	withPosts(t, func(r *rand.Rand, x impl.Post) {
		for y := copyPost(x); len(y.Letters) > 0; shorter++ {
			if !impl.ValidPost(y) {
				t.Fatalf("%v is not valid", y)
			}
			y.Letters = y.Letters[:len(y.Letters)-1]
			if !impl.ValidPost(y) {
				t.Fatalf("%v is not valid, but with a letter more it is", y)
			}
			for _, s := range x.Subs { // nor is it with a letter for which somebody waits
				z := copyPost(y)
				z.Letters = append(z.Letters, letter(s.Name, s.Key, 0))
				if impl.ValidPost(z) {
					t.Fatalf("%v is valid", z)
				}
			}
		}
	})
	if shorter < 5000 {
		t.Errorf("%d post offices with letters test too little", shorter)
	}
}

func TestPromise51LettersAreNotLost(t *testing.T) {
	withSent(t, func(r *rand.Rand, x impl.Post, l impl.Letter, y impl.Post, owner int) {
		wantNoBadLetter(t, x, l.Name, l.Key)
		if owner == -1 {
			if !slices.Equal(y.Subs, x.Subs) || !slices.Equal(y.Letters, slices.Concat(x.Letters, []impl.Letter{l})) {
				t.Fatalf("%v, which nobody gets, makes %v of %v", l, y, x)
			}
			return
		}
		if len(y.Subs) != len(x.Subs)-1 || !slices.Equal(y.Letters, x.Letters) {
			t.Fatalf("%v, which %d gets, makes %v of %v", l, owner, y, x)
		}
		i := slices.Index(x.Subs, sub(owner, l.Name, l.Key))
		if i < 0 || !slices.Equal(y.Subs, slices.Concat(x.Subs[:i], x.Subs[i+1:])) {
			t.Fatalf("%v, which %d gets, makes %v of %v", l, owner, y, x)
		}
	})
}

func TestPromise52LettersFindWhoWaitsLater(t *testing.T) {
	withSent(t, func(r *rand.Rand, x impl.Post, l impl.Letter, y impl.Post, owner int) {
		wantNoBadLetter(t, x, l.Name, l.Key)
		if owner != -1 {
			return
		}
		wantNoBadSub(t, y, l.Name, l.Key)
		z, gets, ok := impl.WaitLetter(y, sub(r.IntN(impl.MaxOwner+1), l.Name, l.Key))
		if !ok || !gets || len(z.Letters) != len(y.Letters)-1 || len(z.Subs) != len(y.Subs) {
			t.Fatalf("who waits for %v in %v finds %v, %v, %v", l, y, z, gets, ok)
		}
		if len(liesFor(x, l.Name, l.Key)) == 0 && !samePost(z, x) {
			t.Fatalf("who waits for %v, which is new in %v, makes %v of it", l, y, z)
		}
	})
}

func TestPromise53WhoWaitsGetsOneLetter(t *testing.T) {
	withWaited(t, func(r *rand.Rand, x impl.Post, s impl.Sub, y impl.Post, gets bool) {
		wantNoBadSub(t, x, s.Name, s.Key)
		if !gets {
			if !slices.Equal(y.Letters, x.Letters) || !slices.Equal(y.Subs, slices.Concat(x.Subs, []impl.Sub{s})) {
				t.Fatalf("%v, who gets none, makes %v of %v", s, y, x)
			}
			return
		}
		i := slices.IndexFunc(x.Letters, func(l impl.Letter) bool { return l.Name == s.Name && l.Key == s.Key })
		if i < 0 || !slices.Equal(y.Subs, x.Subs) || !slices.Equal(y.Letters, slices.Concat(x.Letters[:i], x.Letters[i+1:])) {
			t.Fatalf("%v, who gets a letter, makes %v of %v", s, y, x)
		}
	})
}

func TestPromise54WhoWaitsFirstGetsFirst(t *testing.T) {
	several := 0
	withWaited(t, func(r *rand.Rand, x impl.Post, s impl.Sub, y impl.Post, gets bool) {
		wantNoBadSub(t, x, s.Name, s.Key)
		if gets {
			return
		}
		wantNoBadLetter(t, y, s.Name, s.Key)
		owners := append(waitsFor(x, s.Name, s.Key), s.Owner)
		for i := range owners {
			z, owner, ok := impl.SendLetter(y, letter(s.Name, s.Key, r.IntN(impl.MaxClock+1)))
			if !ok || owner != owners[i] || len(z.Subs) != len(y.Subs)-1 {
				t.Fatalf("a letter goes to %d in %v, want one after the other of %v", owner, y, owners)
			}
			y = z
		}
		if !samePost(y, impl.Post{Subs: slices.DeleteFunc(slices.Clone(x.Subs), func(w impl.Sub) bool { return w.Name == s.Name && w.Key == s.Key }), Letters: x.Letters}) {
			t.Fatalf("letters for all of %v make %v of %v", owners, y, x)
		}
		several += bit(len(owners) > 1)
	})
	if several < 500 {
		t.Errorf("%d names and keys for which several wait test too little", several)
	}
}

func TestPromise55OldLettersAreDropped(t *testing.T) {
	dropped := 0
	withPosts(t, func(r *rand.Rand, x impl.Post) {
		times := []int{-1, 0, 1, impl.MaxClock, impl.MaxClock + 1, r.IntN(impl.MaxClock), extremes[r.IntN(len(extremes))]}
		for _, l := range x.Letters {
			times = append(times, l.Until, l.Until+1)
		}
		for _, now := range times {
			var want []impl.Letter
			for _, l := range x.Letters {
				if l.Until >= now {
					want = append(want, l)
				}
			}
			y := impl.DropLetters(x, now)
			if !slices.Equal(y.Letters, want) || !slices.Equal(y.Subs, x.Subs) {
				t.Fatalf("DropLetters(%v, %d) = %v, want the letters %v", x, now, y, want)
			}
			dropped += bit(len(want) > 0 && len(want) < len(x.Letters))
		}
	})
	if dropped < 5000 {
		t.Errorf("%d times at which some letters are old test too little", dropped)
	}
}

func TestPromise140LettersGoToWhoWaitsForThem(t *testing.T) {
	several := 0
	withPosts(t, func(r *rand.Rand, x impl.Post) {
		for i := range 9 {
			name, key := nameAndKey(i)
			wantNoBadLetter(t, x, name, key)
			owners := waitsFor(x, name, key)
			_, owner, ok := impl.SendLetter(x, letter(name, key, r.IntN(impl.MaxClock+1)))
			if len(owners) > 0 && (!ok || owner != owners[0]) {
				t.Fatalf("a letter %d, %d goes to %d, %v in %v, want %d", name, key, owner, ok, x, owners[0])
			}
			if len(owners) == 0 && owner != -1 {
				t.Fatalf("a letter %d, %d goes to %d, %v in %v, where nobody waits for it", name, key, owner, ok, x)
			}
			several += bit(len(owners) > 1 && owners[0] != owners[len(owners)-1])
		}
	})
	if several < 1000 {
		t.Errorf("%d names and keys for which several wait test too little", several)
	}
}

func TestPromise141MoreLettersAreOldLater(t *testing.T) {
	fewer := 0
	withPosts(t, func(r *rand.Rand, x impl.Post) {
		if y := impl.DropLetters(x, 0); !samePost(y, x) {
			t.Fatalf("DropLetters(%v, 0) = %v", x, y)
		}
		times := []int{0, 1, 2, 5, r.IntN(impl.MaxClock), impl.MaxClock, impl.MaxClock + 1}
		slices.Sort(times)
		for i, now := range times[1:] {
			before, behind := impl.DropLetters(x, times[i]), impl.DropLetters(x, now)
			if len(behind.Letters) > len(before.Letters) || !samePost(impl.DropLetters(before, now), behind) {
				t.Fatalf("%v has %v at %d, but %v at %d", x, before.Letters, times[i], behind.Letters, now)
			}
			fewer += bit(len(behind.Letters) < len(before.Letters))
		}
		if y := impl.DropLetters(x, impl.MaxClock+1); len(y.Letters) != 0 {
			t.Fatalf("DropLetters of %v behind all times has %v", x, y.Letters)
		}
	})
	if fewer < 5000 {
		t.Errorf("%d later times with fewer letters test too little", fewer)
	}
}

func TestPromise166OneLetterIsForOne(t *testing.T) {
	only := 0
	withWaited(t, func(r *rand.Rand, x impl.Post, s impl.Sub, y impl.Post, gets bool) {
		for many := len(liesFor(x, s.Name, s.Key)); many > 0; many-- {
			if !gets {
				t.Fatalf("%v gets none of %d letters in %v", s, many, x)
			}
			wantNoBadSub(t, x, s.Name, s.Key)
			again := sub(r.IntN(impl.MaxOwner+1), s.Name, s.Key)
			z, more, ok := impl.WaitLetter(y, again)
			if ok && more != (many > 1) {
				t.Fatalf("behind %v, who gets one of %d letters, %v gets one in %v: %v", s, many, again, y, more)
			}
			if !ok && len(y.Subs) < impl.MaxSubs {
				t.Fatalf("%v cannot wait in %v", again, y)
			}
			only += bit(ok && !more)
			x, y, gets = y, z, more
		}
	})
	if only < 500 {
		t.Errorf("%d only letters test too little", only)
	}
}
