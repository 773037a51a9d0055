package tests

import (
	"math/rand/v2"
	"slices"
	"testing"

	"loop.example/processengine/impl"
)

func TestPromise92SnapshotsCanLoseEntries(t *testing.T) {
	shorter := 0
	withSnaps(t, func(r *rand.Rand, s impl.Snap) {
		for next := s; ; shorter++ {
			if !impl.ValidSnap(next) {
				t.Fatalf("%v is not valid", next)
			}
			// Nor may anything else of it be out of its range.
			wantValidSnap(t, "a number behind the limit", snap(impl.MaxSnap+1, next.Term, next.State, next.Rest...), false)
			wantValidSnap(t, "a state behind the limit", snap(next.Number, next.Term, impl.StateSize, next.Rest...), false)
			wantValidSnap(t, "a term behind the limit", snap(next.Number, impl.MaxTerm+1, next.State), false)
			if len(next.Rest) == 0 {
				break
			}
			if first := next.Rest[0].Term; first < impl.MaxTerm {
				wantValidSnap(t, "a first term that is less", snap(next.Number, first+1, next.State, next.Rest...), false)
			}
			next = withRest(next, next.Rest[:len(next.Rest)-1])
		}
		if t.Failed() {
			t.FailNow()
		}
	})
	if shorter < 5000 {
		t.Errorf("%d snapshots with entries test too little", shorter)
	}
	wantBadSnapsFail(t, impl.ValidSnap)
}

func TestPromise93StatesFollowEntryByEntry(t *testing.T) {
	r := newRandom(62)
	for state := range impl.StateSize {
		s := snap(r.IntN(impl.MaxSnap+1), r.IntN(impl.MaxTerm+1), state)
		if wantState(t, "without a rest", s, state); t.Failed() {
			t.FailNow()
		}
	}
	withSnaps(t, func(r *rand.Rand, s impl.Snap) {
		wantState(t, "without its rest", withRest(s, nil), s.State)
		state := s.State
		for many := range len(s.Rest) + 1 {
			got := impl.StateOf(withRest(s, s.Rest[:many]))
			if got < 0 || got >= impl.StateSize || got != state {
				t.Fatalf("StateOf %v up to the entry %d is %d, want %d", s, many, got, state)
			}
			if many < len(s.Rest) {
				state = (31*state + s.Rest[many].Op) % 10007
			}
		}
	})
	wantBadSnapsFail(t, hasState)
}

func TestPromise94CompactingChangesNoState(t *testing.T) {
	withCompacted(t, func(r *rand.Rand, s impl.Snap, many int, next impl.Snap) {
		if impl.StateOf(next) != impl.StateOf(s) || endOf(next) != endOf(s) {
			t.Fatalf("CompactLog(%v, %d) = %v, with the states %d and %d", s, many, next, impl.StateOf(s), impl.StateOf(next))
		}
		if len(next.Rest) != len(s.Rest)-many || !slices.Equal(next.Rest, s.Rest[many:]) {
			t.Fatalf("CompactLog(%v, %d) = %v, which has another rest", s, many, next)
		}
		if term := lastOf(s.Rest[:many]); many > 0 && next.Term != term || many == 0 && next.Term != s.Term {
			t.Fatalf("CompactLog(%v, %d) = %v, which has another term", s, many, next)
		}
	})
}

func TestPromise95CompactingCanBeDoneInSteps(t *testing.T) {
	withCompacted(t, func(r *rand.Rand, s impl.Snap, many int, next impl.Snap) {
		first := r.IntN(many + 1)
		part, ok := impl.CompactLog(s, first)
		if !ok {
			t.Fatalf("CompactLog(%v, %d) = %v, %v", s, first, part, ok)
		}
		wantCompacted(t, "the rest of them", part, many-first, next)
		one := s
		for range many {
			if one, ok = impl.CompactLog(one, 1); !ok {
				t.Fatalf("%v cannot be compacted one by one", s)
			}
		}
		if !sameSnap(one, next) {
			t.Fatalf("CompactLog(%v, %d) = %v, but one by one %v", s, many, next, one)
		}
		wantCompacted(t, "none before", s, 0, s)
		wantCompacted(t, "none behind", next, 0, next)
		if t.Failed() {
			t.FailNow()
		}
	})
}

func TestPromise96SnapshotsBringServersForward(t *testing.T) {
	withInstalled(t, func(r *rand.Rand, own impl.Snap, sent impl.Snap, next impl.Snap) {
		if next.Number != max(own.Number, sent.Number) {
			t.Fatalf("InstallSnap(%v, %v) = %v", own, sent, next)
		}
		wantInstalled(t, "sent again", next, sent, next)
		wantInstalled(t, "sent again without the rest", next, withRest(sent, nil), next)
		wantInstalled(t, "the old one sent back", next, own, next)
		wantInstalled(t, "sent without the rest", own, withRest(sent, nil), next)
		if sent.Number > own.Number { // then it is the sent one, with what lies behind it only if the entry is the sent one
			many := sent.Number - own.Number
			want := withRest(sent, nil)
			if many <= len(own.Rest) && own.Rest[many-1].Term == sent.Term {
				want.Rest = own.Rest[many:]
			}
			if !sameSnap(next, want) {
				t.Fatalf("InstallSnap(%v, %v) = %v, want %v", own, sent, next, want)
			}
		}
		if t.Failed() {
			t.FailNow()
		}
	})
}

func TestPromise97SnapshotsOfTheOwnLogLoseNothing(t *testing.T) {
	withCompacted(t, func(r *rand.Rand, s impl.Snap, many int, sent impl.Snap) {
		next := impl.InstallSnap(s, sent)
		if impl.StateOf(next) != impl.StateOf(s) || endOf(next) != endOf(s) || !sameSnap(next, sent) {
			t.Fatalf("InstallSnap(%v, %v) = %v", s, sent, next)
		}
		wantInstalled(t, "without the rest", s, withRest(sent, nil), sent)
		wantInstalled(t, "the own one to who has compacted", sent, s, sent)
		if t.Failed() {
			t.FailNow()
		}
	})
	wantBadSnapsFail(t, installs)
}

func TestPromise153OneMoreEntryIsOneMoreStep(t *testing.T) {
	more := 0
	withSnaps(t, func(r *rand.Rand, s impl.Snap) {
		if len(s.Rest) == impl.MaxLog {
			if got := impl.StateOf(withRest(s, append(logOf(s.Rest...), entry(leastTerm(s), 5)))); got != -1 {
				t.Fatalf("a rest that is too long behind %v has the state %d", s, got)
			}
			return
		}
		for _, op := range []int{0, 1, r.IntN(impl.MaxOp + 1), impl.MaxOp} {
			e := entry(leastTerm(s)+r.IntN(impl.MaxTerm-leastTerm(s)+1), op)
			next := withRest(s, append(logOf(s.Rest...), e))
			wantState(t, "with an entry more", next, (31*impl.StateOf(s)+op)%10007)
			more++
		}
		if t.Failed() {
			t.FailNow()
		}
	})
	if more < 5000 {
		t.Errorf("%d entries more test too little", more)
	}
	wantBadSnapsFail(t, hasState)
}

func TestPromise154EverythingCanBeCompacted(t *testing.T) {
	all := 0
	withCompacted(t, func(r *rand.Rand, s impl.Snap, many int, _ impl.Snap) {
		if many < len(s.Rest) {
			return
		}
		next, ok := impl.CompactLog(s, len(s.Rest))
		term := s.Term
		if len(s.Rest) > 0 {
			term = lastOf(s.Rest)
		}
		if want := snap(endOf(s), term, impl.StateOf(s)); !ok || !sameSnap(next, want) {
			t.Fatalf("CompactLog(%v, %d) = %v, %v, want %v", s, many, next, ok, want)
		}
		all++
	})
	if all < 1500 {
		t.Errorf("%d rests that are compacted test too little", all)
	}
}

func TestPromise155OldSnapshotsAreNotInstalled(t *testing.T) {
	old := 0
	withInstalled(t, func(r *rand.Rand, own impl.Snap, sent impl.Snap, next impl.Snap) {
		if sent.Number <= own.Number && !sameSnap(next, own) {
			t.Fatalf("InstallSnap(%v, %v) = %v", own, sent, next)
		}
		for _, number := range []int{0, own.Number / 2, max(own.Number-1, 0), own.Number} {
			late := withRest(sent, sent.Rest)
			late.Number = number
			wantInstalled(t, "an old one", own, late, own)
			wantInstalled(t, "an old one with the own term and state", own, snap(number, own.Term, own.State), own)
			old++
		}
		if own.Number < impl.MaxSnap { // and one that is not old is
			late := withRest(sent, sent.Rest)
			late.Number = own.Number + 1
			if got := impl.InstallSnap(own, late); got.Number != late.Number || got.Term != late.Term || got.State != late.State {
				t.Fatalf("InstallSnap(%v, %v) = %v", own, late, got)
			}
		}
		if t.Failed() {
			t.FailNow()
		}
	})
	if old < 5000 {
		t.Errorf("%d old snapshots test too little", old)
	}
}
