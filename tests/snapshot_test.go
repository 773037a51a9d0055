package tests

import (
	"math/rand/v2"
	"slices"
	"testing"

	"loop.example/processengine/impl"
)

func TestSnapshotConstants(t *testing.T) {
	wantList(t, "limits", []int{impl.MaxSnap, impl.StateSize}, 999, 10007)
}

func TestValidSnap(t *testing.T) {
	wantValidSnap(t, "the zero value", impl.Snap{}, true)
	wantValidSnap(t, "an empty rest", impl.Snap{Rest: []impl.Entry{}}, true)
	wantValidSnap(t, "all at the limits", snap(999, 9, 10006, longLog(16, 9)...), true)
	wantValidSnap(t, "the limits without a rest", snap(999, 9, 10006), true)
	wantValidSnap(t, "a number behind the limit", snap(1000, 9, 10006), false)
	wantValidSnap(t, "a term behind the limit", snap(999, 10, 10006), false)
	wantValidSnap(t, "a state behind the limit", snap(999, 9, 10007), false)
	wantValidSnap(t, "entries behind the greatest number", snap(999, 0, 0, fullLog()...), true)
	wantValidSnap(t, "a term and a state of no entries", snap(0, 5, 7), true)
	wantValidSnap(t, "no term of an entry", snap(5, 0, 7), true)
	wantValidSnap(t, "as many entries as a log may have", snap(5, 1, 7, fullLog()...), true)
	wantValidSnap(t, "one more", snap(5, 1, 7, longLog(17, 1)...), false)
	wantValidSnap(t, "a rest that is no log", snap(5, 1, 7, logOfTerms(2, 1)...), false)
	for term := range 10 {
		for first := 1; first <= 9; first++ {
			wantValidSnap(t, "a first term", snap(5, term, 7, logOfTerms(first)...), first >= term)
			wantValidSnap(t, "a first term and a greater one", snap(5, term, 7, logOfTerms(first, 9)...), first >= term)
		}
	}
	for _, s := range badSnaps() {
		wantValidSnap(t, "a bad one", s, false)
	}
}

func TestSnapshotsThatAreNotValid(t *testing.T) {
	some := []impl.Snap{{}, snap(2, 1, 3, logOfTerms(1, 2)...), snap(999, 9, 10006), snap(5, 1, 7, fullLog()...)}
	for _, bad := range badSnaps() {
		wantState(t, "a bad one", bad, -1)
		for _, many := range append(outside(len(bad.Rest)), 0, 1, 2, len(bad.Rest)) {
			wantNotCompacted(t, "a bad one", bad, many)
		}
		for _, s := range append(some, bad) {
			wantInstalled(t, "to a bad one", bad, s, impl.Snap{})
			wantInstalled(t, "a bad one", s, bad, impl.Snap{})
		}
	}
	// The rest counts although it is not sent.
	wantInstalled(t, "a rest that is no log", snap(9, 2, 7), snap(5, 2, 7, logOfTerms(3, 2)...), impl.Snap{})
	wantInstalled(t, "a rest with a term that is less", snap(2, 1, 7), snap(5, 2, 7, entry(1, 5)), impl.Snap{})
}

func TestStateOf(t *testing.T) {
	wantState(t, "the zero value", impl.Snap{}, 0)
	wantState(t, "without a rest", snap(7, 3, 1234), 1234)
	wantState(t, "the greatest state without a rest", snap(7, 3, 10006), 10006)
	wantState(t, "an empty rest", impl.Snap{State: 9, Rest: []impl.Entry{}}, 9)
	wantState(t, "one entry", snap(0, 0, 0, entry(1, 5)), 5)
	wantState(t, "one entry behind a state", snap(2, 1, 3, entry(1, 5)), 98)
	wantState(t, "two entries", snap(2, 1, 3, entry(1, 5), entry(2, 7)), 3045)
	wantState(t, "two entries in the other order", snap(2, 1, 3, entry(1, 7), entry(2, 5)), 3105)
	wantState(t, "just less than the number of states", snap(2, 1, 322, entry(1, 24)), 10006)
	wantState(t, "the number of states", snap(2, 1, 322, entry(1, 25)), 0)
	wantState(t, "more than the number of states", snap(2, 1, 322, entry(1, 26)), 1)
	wantState(t, "far more than the number of states", snap(2, 1, 10006, entry(1, 0)), 9976) // -31
	wantState(t, "entries of other terms", snap(2, 1, 3, entry(5, 5), entry(9, 7)), 3045)
	wantState(t, "another number", snap(999, 0, 3, entry(1, 5), entry(2, 7)), 3045)
	wantState(t, "operations that are 0", snap(0, 0, 0, entry(1, 0), entry(1, 0)), 0)
	wantState(t, "the last operation counts once", snap(0, 0, 0, entry(1, 0), entry(1, 99)), 99)
	wantState(t, "the first operation", snap(0, 0, 0, entry(1, 1), entry(1, 0), entry(1, 0)), 961)
}

func TestCompactLog(t *testing.T) {
	s := snap(2, 1, 3, entry(1, 5), entry(2, 7), entry(2, 9))
	wantCompacted(t, "none", s, 0, s)
	wantCompacted(t, "one", s, 1, snap(3, 1, 98, entry(2, 7), entry(2, 9)))
	wantCompacted(t, "two", s, 2, snap(4, 2, 3045, entry(2, 9)))
	wantCompacted(t, "all", s, 3, snap(5, 2, 4341)) // 31*3045 + 9 is 94404, and 9*10007 is 90063
	for _, many := range append(outside(3), 5, 16, 17) {
		wantNotCompacted(t, "another number of entries", s, many)
	}
	for _, empty := range []impl.Snap{{}, {Rest: []impl.Entry{}}, snap(7, 3, 1234), snap(999, 9, 10006)} {
		wantCompacted(t, "none of an empty rest", empty, 0, empty)
		for _, many := range outside(0) {
			wantNotCompacted(t, "another number of an empty rest", empty, many)
		}
	}
	wantCompacted(t, "a term that is greater", snap(2, 0, 3, entry(9, 5)), 1, snap(3, 9, 98))
	wantCompacted(t, "the term of the last one that is compacted", snap(0, 0, 0, entry(1, 1), entry(4, 2), entry(8, 3)), 2, snap(2, 4, 33, entry(8, 3)))
	full := snap(5, 1, 7, fullLog()...)
	for many := range 17 {
		got, ok := impl.CompactLog(full, many)
		if !ok || got.Number != 5+many || !slices.Equal(got.Rest, full.Rest[many:]) {
			t.Errorf("CompactLog(%v, %d) = %v, %v", full, many, got, ok)
		}
	}
	wantNotCompacted(t, "more than a full rest", full, 17)
}

func TestCompactLogUpToTheLimit(t *testing.T) {
	for left := range 18 { // so many numbers are left
		s := snap(999-left, 1, 7, fullLog()...)
		for many := range 17 {
			if many > left {
				wantNotCompacted(t, "a number behind the limit", s, many)
				continue
			}
			next, ok := impl.CompactLog(s, many)
			if !ok || next.Number != 999-left+many {
				t.Errorf("CompactLog(%v, %d) = %v, %v", s, many, next, ok)
			}
		}
	}
	wantCompacted(t, "up to the greatest number", snap(998, 1, 3, entry(1, 5)), 1, snap(999, 1, 98))
	wantNotCompacted(t, "behind the greatest number", snap(999, 1, 3, entry(1, 5)), 1)
	wantCompacted(t, "none at the greatest number", snap(999, 1, 3, entry(1, 5)), 0, snap(999, 1, 3, entry(1, 5)))
}

func TestInstallSnap(t *testing.T) {
	own := snap(2, 1, 3, entry(1, 5), entry(2, 7), entry(2, 9), entry(4, 11))
	for number := range 3 { // old ones, and one with the same number
		for _, term := range []int{0, 1, 2, 9} {
			wantInstalled(t, "one that is not newer", own, snap(number, term, 77), own)
			wantInstalled(t, "one that is not newer, with a rest", own, snap(number, term, 77, entry(9, 1)), own)
		}
	}
	wantInstalled(t, "the first one of the rest", own, snap(3, 1, 77), snap(3, 1, 77, own.Rest[1:]...))
	wantInstalled(t, "the second one of the rest", own, snap(4, 2, 77), snap(4, 2, 77, own.Rest[2:]...))
	wantInstalled(t, "the last but one of the rest", own, snap(5, 2, 77), snap(5, 2, 77, own.Rest[3]))
	wantInstalled(t, "the last one of the rest", own, snap(6, 4, 77), snap(6, 4, 77))
	wantInstalled(t, "just behind the rest", own, snap(7, 4, 77), snap(7, 4, 77))
	wantInstalled(t, "just behind the rest, without a term", own, snap(7, 0, 77), snap(7, 0, 77))
	wantInstalled(t, "far behind the rest", own, snap(999, 9, 77), snap(999, 9, 77))
	for number, term := range []int{3: 1, 4: 2, 5: 2, 6: 4} {
		for other := range 10 {
			if number > 2 && other != term {
				wantInstalled(t, "another term", own, snap(number, other, 77), snap(number, other, 77))
				wantInstalled(t, "another term, with a rest", own, snap(number, other, 77, entry(9, 1)), snap(number, other, 77))
			}
		}
	}
	wantInstalled(t, "the sent rest does not count", own, snap(4, 2, 77, entry(3, 50), entry(3, 51), entry(9, 52)), snap(4, 2, 77, own.Rest[2:]...))
	wantInstalled(t, "the sent rest does not count behind the own one", own, snap(7, 4, 77, entry(9, 50)), snap(7, 4, 77))
	wantInstalled(t, "to itself", own, own, own)
	wantInstalled(t, "to nothing", impl.Snap{}, snap(1, 1, 5, entry(1, 6)), snap(1, 1, 5))
	wantInstalled(t, "nothing", own, impl.Snap{}, own)
	wantInstalled(t, "nothing to nothing", impl.Snap{}, impl.Snap{}, impl.Snap{})
	wantInstalled(t, "an empty rest and none", impl.Snap{Number: 5, Rest: []impl.Entry{}}, impl.Snap{Number: 6}, snap(6, 0, 0))
	wantInstalled(t, "to a server whose entry before the rest has the term", snap(5, 3, 1, entry(4, 1)), snap(6, 3, 2), snap(6, 3, 2))
	wantInstalled(t, "a sent number of the limit, with another term", snap(990, 1, 7, longLog(16, 3)...), snap(999, 4, 8), snap(999, 4, 8))
	wantInstalled(t, "an entry with the number of the limit", snap(990, 1, 7, longLog(16, 3)...), snap(999, 3, 8), snap(999, 3, 8, longLog(16, 3)[9:]...))
	wantInstalled(t, "a state that is another one", snap(2, 1, 3, entry(1, 5)), snap(3, 1, 0), snap(3, 1, 0))
}

// alteredSnap returns a snapshot with one thing changed, so that often it is not valid any more.
func alteredSnap(r *rand.Rand, s impl.Snap) impl.Snap {
	next := withRest(s, s.Rest)
	switch r.IntN(4) {
	case 0:
		next.Number = []int{anyNumber(r), impl.MaxSnap + r.IntN(3)}[r.IntN(2)]
	case 1:
		next.Term = anyNumber(r)
	case 2:
		next.State = []int{anyNumber(r), impl.StateSize - 1 + r.IntN(3)}[r.IntN(2)]
	case 3:
		next.Rest = alteredLog(r, s.Rest)
	}
	return next
}

// TestRandomSnaps compares the functions for many snapshots, valid or not, with what they have to be.
func TestRandomSnaps(t *testing.T) {
	valid, bad := 0, 0
	withSnaps(t, func(r *rand.Rand, s impl.Snap) {
		for range 4 {
			own, sent := s, sentTo(r, s)
			switch r.IntN(6) {
			case 0:
				own = alteredSnap(r, own)
			case 1:
				sent = alteredSnap(r, sent)
			}
			wantValidSnap(t, "a random one", own, wantedSnap(own))
			wantState(t, "a random one", own, wantedState(own))
			many := []int{r.IntN(len(own.Rest) + 1), r.IntN(20) - 2, anyNumber(r)}[r.IntN(3)]
			if want, ok := wantedCompact(own, many); ok {
				wantCompacted(t, "a random one", own, many, want)
			} else {
				wantNotCompacted(t, "a random one", own, many)
			}
			wantInstalled(t, "random ones", own, sent, wantedInstall(own, sent))
			wantInstalled(t, "random ones in the other order", sent, own, wantedInstall(sent, own))
			valid += bit(wantedSnap(own) && wantedSnap(sent))
			bad += bit(!wantedSnap(own) || !wantedSnap(sent))
		}
		if t.Failed() {
			t.FailNow()
		}
	})
	if min(valid, bad) < 1000 {
		t.Errorf("%d valid pairs and %d others test too little", valid, bad)
	}
}

// TestSmallSnaps compares what is sent between all pairs of small snapshots with what it has to be.
func TestSmallSnaps(t *testing.T) {
	var small []impl.Snap
	for _, log := range smallLogs(2) {
		for number := range 4 {
			for term := range 4 {
				small = append(small, snap(number, term, number+10*term, log...))
			}
		}
	}
	for _, own := range small {
		wantState(t, "a small one", own, wantedState(own))
		for many := -1; many <= 3; many++ {
			got, ok := impl.CompactLog(own, many)
			if want, wantOk := wantedCompact(own, many); ok != wantOk || !sameSnap(got, want) {
				t.Fatalf("CompactLog(%v, %d) = %v, %v, want %v, %v", own, many, got, ok, want, wantOk)
			}
		}
		for _, sent := range small {
			if got, want := impl.InstallSnap(own, sent), wantedInstall(own, sent); !sameSnap(got, want) {
				t.Fatalf("InstallSnap(%v, %v) = %v, want %v", own, sent, got, want)
			}
		}
	}
}
