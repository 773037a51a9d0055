package tests

import (
	"slices"

	"loop.example/processengine/impl"
)

// The rules for votes a second time, and in another way: a vote is given if nothing speaks against it, and servers are looked for one by one.

// wantedVoter reports whether a voter is valid.
func wantedVoter(v impl.Voter) bool {
	return v.Term == min(max(v.Term, 0), 9) && v.Voted == min(max(v.Voted, -1), 6) && wantedLog(v.Log)
}

// wantedCandidate reports whether a candidate with a term and a log can ask.
func wantedCandidate(candidate int, term int, log []impl.Entry) bool {
	return candidate == min(max(candidate, 0), 6) && term == min(max(term, 1), 9) && wantedLog(log)
}

func wantedVote(v impl.Voter, candidate int, term int, log []impl.Entry) (impl.Voter, bool) {
	if !wantedVoter(v) || !wantedCandidate(candidate, term, log) {
		return impl.Voter{}, false
	}
	late := term < v.Term
	taken := term == v.Term && v.Voted != candidate && v.Voted >= 0
	old := wantedAge(log) < wantedAge(v.Log)
	next := impl.Voter{Term: max(v.Term, term), Voted: v.Voted, Log: v.Log}
	switch {
	case late || taken:
		return next, false
	case !old:
		next.Voted = candidate
	case term > v.Term:
		next.Voted = -1
	}
	return next, !old
}

func wantedVotes(list []impl.Voter, candidate int, term int, log []impl.Entry) (int, []impl.Voter) {
	if len(list) >= 8 || !wantedCandidate(candidate, term, log) || slices.ContainsFunc(list, func(v impl.Voter) bool { return !wantedVoter(v) }) {
		return -1, nil
	}
	votes := 0
	next := slices.Clone(list)
	for i := len(list) - 1; i >= 0; i-- {
		given := false
		next[i], given = wantedVote(list[i], candidate, term, log)
		votes += bit(given)
	}
	return votes, next
}

// wantedGroup reports whether a group is valid.
func wantedGroup(group []int) bool {
	i := 0
	for server := 0; server < 7 && i < len(group); server++ {
		if group[i] == server {
			i++
		}
	}
	return i > 0 && i == len(group) // so that none is left over, which came too late or too often
}

func wantedQuorum(group []int, set []int) bool {
	in, out := 0, 0
	for _, server := range group {
		if slices.Contains(set, server) {
			in++
		} else {
			out++
		}
	}
	return wantedGroup(group) && in > out
}

func wantedOneStep(a []int, b []int) bool {
	if !wantedGroup(a) || !wantedGroup(b) {
		return false
	}
	if len(a) > len(b) {
		a, b = b, a
	}
	for i := range b {
		if slices.Equal(a, without(b, i)) {
			return true
		}
	}
	return false
}
