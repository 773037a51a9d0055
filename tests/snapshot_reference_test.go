package tests

import (
	"slices"

	"loop.example/processengine/impl"
)

// The rules for snapshots a second time, and in another way: a state is a sum in which each entry has a weight,
// compacting goes step by step, and a rest is a table of numbered entries.

// wantedSnap reports whether a snapshot is valid.
func wantedSnap(s impl.Snap) bool {
	terms := append([]int{s.Term}, termsOf(s.Rest)...)
	return s.Number > -1 && s.Number < 1000 && s.Term > -1 && s.Term < 10 && s.State > -1 && s.State < 10007 && slices.IsSorted(terms) && wantedLog(s.Rest)
}

func wantedState(s impl.Snap) int {
	if !wantedSnap(s) {
		return -1
	}
	sum, weight := 0, 1
	for i := len(s.Rest) - 1; i >= 0; i-- {
		sum += s.Rest[i].Op * weight
		weight = weight * 31 % 10007
	}
	return (sum + s.State*weight) % 10007
}

func wantedCompact(s impl.Snap, many int) (impl.Snap, bool) {
	if many == 0 && wantedSnap(s) {
		return s, true
	}
	if many <= 0 || many > len(s.Rest) || !wantedSnap(s) {
		return impl.Snap{}, false
	}
	first, rest := s.Rest[0], s.Rest[1:]
	s.Rest = []impl.Entry{first}
	return wantedCompact(impl.Snap{Number: s.Number + 1, Term: first.Term, State: wantedState(s), Rest: rest}, many-1)
}

func wantedInstall(own impl.Snap, sent impl.Snap) impl.Snap {
	if !wantedSnap(own) || !wantedSnap(sent) {
		return impl.Snap{}
	}
	if own.Number >= sent.Number {
		return own
	}
	has := map[int]impl.Entry{}
	for i, e := range own.Rest {
		has[own.Number+i+1] = e
	}
	var rest []impl.Entry
	if has[sent.Number].Term == sent.Term { // a number that is not there has the term 0, but then nothing is behind it
		for n := sent.Number + 1; has[n].Term > 0; n++ {
			rest = append(rest, has[n])
		}
	}
	return impl.Snap{Number: sent.Number, Term: sent.Term, State: sent.State, Rest: rest}
}
