package tests

import (
	"math"
	"math/rand/v2"
	"slices"
	"sync"
	"testing"

	"loop.example/processengine/impl"
)

// snap returns a new snapshot; no two snapshots share memory.
func snap(number int, term int, state int, rest ...impl.Entry) impl.Snap {
	return impl.Snap{Number: number, Term: term, State: state, Rest: logOf(rest...)}
}

// withRest returns a new snapshot with another rest.
func withRest(s impl.Snap, rest []impl.Entry) impl.Snap {
	return snap(s.Number, s.Term, s.State, rest...)
}

// sameSnap reports whether two snapshots are the same, where a nil rest is an empty one.
func sameSnap(a impl.Snap, b impl.Snap) bool {
	return a.Number == b.Number && a.Term == b.Term && a.State == b.State && slices.Equal(a.Rest, b.Rest)
}

// noSnap reports whether a snapshot is the zero value.
func noSnap(s impl.Snap) bool {
	return s.Number == 0 && s.Term == 0 && s.State == 0 && s.Rest == nil
}

// endOf returns the number of the last entry that a server with a snapshot has.
func endOf(s impl.Snap) int { return s.Number + len(s.Rest) }

// leastTerm returns the least term that an entry behind all others can have.
func leastTerm(s impl.Snap) int { return max(s.Term, lastOf(s.Rest), 1) }

// randomSnap returns a valid snapshot with a rest. Often numbers are near their limits.
func randomSnap(r *rand.Rand, rest []impl.Entry) impl.Snap {
	most := impl.MaxTerm
	if len(rest) > 0 {
		most = rest[0].Term
	}
	return withRest(impl.Snap{
		Number: []int{0, 1, r.IntN(20), r.IntN(impl.MaxSnap + 1), impl.MaxSnap - r.IntN(20), impl.MaxSnap}[r.IntN(6)],
		Term:   []int{0, most, r.IntN(most + 1)}[r.IntN(3)],
		State:  []int{0, r.IntN(impl.StateSize), impl.StateSize - 1}[r.IntN(3)],
	}, rest)
}

// sentTo returns a valid snapshot that can be sent to a server with another one: its number is
// that of an entry which the server has, with the same term or another one, or any number.
func sentTo(r *rand.Rand, own impl.Snap) impl.Snap {
	sent := randomSnap(r, randomLog(r))
	if k := r.IntN(4); k == 0 {
		return sent
	} else if k == 1 { // just behind what the server has
		sent.Number = min(endOf(own)+r.IntN(3), impl.MaxSnap)
		return sent
	}
	many := r.IntN(len(own.Rest) + 1)
	sent.Number = min(own.Number+many, impl.MaxSnap)
	if r.IntN(4) > 0 && many > 0 {
		sent.Term = own.Rest[many-1].Term
	}
	if len(sent.Rest) > 0 && sent.Rest[0].Term < sent.Term {
		sent.Rest = nil
	}
	return sent
}

// snaps returns many valid snapshots: with rests of all lengths, and with each number near the limit. Nobody may change them.
var snaps = sync.OnceValue(func() []impl.Snap {
	r := newRandom(60)
	list := []impl.Snap{{}, snap(0, 0, 0), snap(999, 9, 10006, longLog(16, 9)...), snap(983, 0, 10006, fullLog()...), snap(984, 1, 0, fullLog()...)}
	for _, log := range logs() {
		list = append(list, randomSnap(r, log))
	}
	return list
})

// withSnaps calls a function with many valid snapshots.
func withSnaps(t *testing.T, f func(r *rand.Rand, s impl.Snap)) {
	t.Helper()
	r := newRandom(61)
	for _, s := range snaps() {
		f(r, s)
	}
}

// withCompacted calls a function with many snapshots, the numbers of entries that can be compacted, and the snapshots behind.
func withCompacted(t *testing.T, f func(r *rand.Rand, s impl.Snap, many int, next impl.Snap)) {
	t.Helper()
	none, some, all := 0, 0, 0
	withSnaps(t, func(r *rand.Rand, s impl.Snap) {
		for many := range len(s.Rest) + 1 {
			next, ok := impl.CompactLog(s, many)
			// Only this limit may be in the way.
			if full := s.Number+many > impl.MaxSnap; ok == full || !ok && !noSnap(next) || ok && !impl.ValidSnap(next) {
				t.Fatalf("CompactLog(%v, %d) = %v, %v", s, many, next, ok)
			}
			if !ok {
				continue
			}
			f(r, s, many, next)
			none += bit(many == 0)
			some += bit(0 < many && many < len(s.Rest))
			all += bit(0 < many && many == len(s.Rest))
		}
	})
	if min(none, some, all) < 1500 {
		t.Errorf("no entries compacted %d times, some %d times and all %d times test too little", none, some, all)
	}
	wantBadSnapsFail(t, compacts)
	withSnaps(t, func(r *rand.Rand, s impl.Snap) { // and as many as a rest cannot have
		for _, many := range append(outside(len(s.Rest)), -2, len(s.Rest)+2, 17, impl.MaxSnap) {
			wantNotCompacted(t, "another number of entries", s, many)
		}
	})
}

// withInstalled calls a function with many snapshots, others that are sent, and what the servers have then.
func withInstalled(t *testing.T, f func(r *rand.Rand, own impl.Snap, sent impl.Snap, next impl.Snap)) {
	t.Helper()
	done := map[string]int{}
	withSnaps(t, func(r *rand.Rand, own impl.Snap) {
		for range 3 {
			sent := sentTo(r, own)
			next := impl.InstallSnap(own, sent)
			if !impl.ValidSnap(next) {
				t.Fatalf("InstallSnap(%v, %v) = %v", own, sent, next)
			}
			f(r, own, sent, next)
			done["less"] += bit(sent.Number < own.Number)
			done["equal"] += bit(sent.Number == own.Number)
			many := sent.Number - own.Number
			if many > 0 {
				has := many <= len(own.Rest) && own.Rest[many-1].Term == sent.Term
				done["with a rest"] += bit(has && many < len(own.Rest))
				done["with all of the rest"] += bit(has && many == len(own.Rest))
				done["with another term"] += bit(!has && many <= len(own.Rest))
				done["behind the end"] += bit(many > len(own.Rest))
			}
		}
	})
	for _, what := range []string{"less", "equal", "with a rest", "with all of the rest", "with another term", "behind the end"} {
		if done[what] < 300 {
			t.Errorf("%d snapshots that are sent '%s' test too little", done[what], what)
		}
	}
	wantBadSnapsFail(t, installs)
}

// compacts reports whether a call to compact entries has a result.
func compacts(s impl.Snap) bool {
	for _, many := range []int{-1, 0, 1, 2, len(s.Rest), len(s.Rest) + 1} {
		if next, ok := impl.CompactLog(s, many); ok || !noSnap(next) {
			return true
		}
	}
	return false
}

// installs reports whether a snapshot can be sent to a server, or sent by one.
func installs(s impl.Snap) bool {
	for _, other := range []impl.Snap{{}, s, snap(1, 1, 1), snap(5, 2, 7, fullLog()[5:]...), snap(999, 9, 10006)} {
		if !noSnap(impl.InstallSnap(s, other)) || !noSnap(impl.InstallSnap(other, s)) {
			return true
		}
	}
	return false
}

// hasState reports whether a snapshot has another state than one that is not valid has.
func hasState(s impl.Snap) bool { return impl.StateOf(s) != -1 }

// badSnaps returns snapshots that are not valid, each for one reason alone.
func badSnaps() []impl.Snap {
	var bad []impl.Snap
	for _, n := range outside(999) {
		bad = append(bad, snap(n, 0, 0), snap(n, 2, 5, logOfTerms(2, 3)...))
	}
	for _, n := range outside(9) {
		bad = append(bad, snap(0, n, 0), snap(7, n, 5))
	}
	for _, n := range outside(10006) {
		bad = append(bad, snap(0, 0, n), snap(7, 2, n, logOfTerms(2, 3)...))
	}
	for _, n := range []int{math.MinInt, -10, -1} { // above the limit the rest would be wrong, too
		bad = append(bad, snap(7, n, 5, logOfTerms(2, 3)...))
	}
	for _, log := range badLogs() {
		bad = append(bad, snap(0, 0, 0, log...), snap(7, 1, 5, log...))
	}
	for term := 2; term <= 9; term++ { // a first term that is less
		bad = append(bad, snap(7, term, 5, logOfTerms(term-1)...), snap(7, term, 5, logOfTerms(1, term, 9)...), snap(0, term, 0, longLog(16, term-1)...))
	}
	return bad
}

// wantBadSnapsFail fails if a function succeeds for a snapshot that is not valid.
func wantBadSnapsFail(t *testing.T, succeeds func(s impl.Snap) bool) {
	t.Helper()
	for _, s := range badSnaps() {
		if succeeds(s) {
			t.Errorf("a call for %v succeeds", s)
		}
	}
}

func wantValidSnap(t *testing.T, what string, s impl.Snap, want bool) {
	t.Helper()
	if got := impl.ValidSnap(s); got != want {
		t.Errorf("%s: ValidSnap(%v) = %v", what, s, got)
	}
}

func wantState(t *testing.T, what string, s impl.Snap, want int) {
	t.Helper()
	if got := impl.StateOf(s); got != want {
		t.Errorf("%s: StateOf(%v) = %d, want %d", what, s, got, want)
	}
}

func wantCompacted(t *testing.T, what string, s impl.Snap, many int, want impl.Snap) {
	t.Helper()
	if got, ok := impl.CompactLog(s, many); !ok || !sameSnap(got, want) {
		t.Errorf("%s: CompactLog(%v, %d) = %v, %v, want %v", what, s, many, got, ok, want)
	}
}

// wantNotCompacted fails if there is a snapshot.
func wantNotCompacted(t *testing.T, what string, s impl.Snap, many int) {
	t.Helper()
	if got, ok := impl.CompactLog(s, many); ok || !noSnap(got) {
		t.Errorf("%s: CompactLog(%v, %d) = %v, %v", what, s, many, got, ok)
	}
}

func wantInstalled(t *testing.T, what string, own impl.Snap, sent impl.Snap, want impl.Snap) {
	t.Helper()
	if got := impl.InstallSnap(own, sent); !sameSnap(got, want) {
		t.Errorf("%s: InstallSnap(%v, %v) = %v, want %v", what, own, sent, got, want)
	}
}
