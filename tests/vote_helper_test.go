package tests

import (
	"math/rand/v2"
	"slices"
	"sync"
	"testing"

	"loop.example/processengine/impl"
)

func voter(term int, voted int, log []impl.Entry) impl.Voter {
	return impl.Voter{Term: term, Voted: voted, Log: logOf(log...)}
}

// election is what a candidate asks with.
type election struct {
	candidate int
	term      int
	log       []impl.Entry
}

// sameVoter reports whether two voters are the same, where a nil log is an empty one.
func sameVoter(v impl.Voter, w impl.Voter) bool {
	return v.Term == w.Term && v.Voted == w.Voted && slices.Equal(v.Log, w.Log)
}

func sameVoters(a []impl.Voter, b []impl.Voter) bool { return slices.EqualFunc(a, b, sameVoter) }

// noVoter reports whether a voter is the zero value.
func noVoter(v impl.Voter) bool { return v.Term == 0 && v.Voted == 0 && v.Log == nil }

// copyVoters returns voters that share no memory with others.
func copyVoters(list []impl.Voter) []impl.Voter {
	next := slices.Clone(list)
	for i := range next {
		next[i].Log = slices.Clone(next[i].Log)
	}
	return next
}

// randomVoter returns a valid voter that often has voted.
func randomVoter(r *rand.Rand, log []impl.Entry) impl.Voter {
	return voter(r.IntN(impl.MaxTerm+1), r.IntN(2)*(r.IntN(impl.MaxServers)+1)-1, log)
}

// randomElection returns a candidate whose term is often near that of a voter, and whose log has something in common with that of the voter.
func randomElection(r *rand.Rand, v impl.Voter) election {
	e := election{r.IntN(impl.MaxServers), v.Term + r.IntN(3) - 1, relatedLog(r, v.Log)}
	if r.IntN(4) == 0 {
		e.term = r.IntN(impl.MaxTerm + 1)
	}
	e.term = min(max(e.term, 1), impl.MaxTerm)
	if v.Voted >= 0 && r.IntN(3) == 0 {
		e.candidate = v.Voted
	}
	return e
}

// randomVoters returns up to as many voters as the limit allows, whose logs and terms are near those of a candidate.
func randomVoters(r *rand.Rand, e election) []impl.Voter {
	var list []impl.Voter
	for range r.IntN(impl.MaxServers + 1) {
		v := randomVoter(r, e.log)
		if r.IntN(3) == 0 {
			v.Log = relatedLog(r, e.log)
		}
		if r.IntN(3) > 0 {
			v.Term = min(max(e.term+r.IntN(4)-2, 0), impl.MaxTerm)
		}
		list = append(list, v)
	}
	return list
}

// withVotes calls a function with many votes that are asked for, the voter behind, and whether the vote is given.
func withVotes(t *testing.T, f func(r *rand.Rand, v impl.Voter, e election, behind impl.Voter, given bool)) {
	t.Helper()
	yes, no := 0, 0
	withLogs(t, func(r *rand.Rand, log []impl.Entry) {
		for range 4 {
			v := randomVoter(r, log)
			e := randomElection(r, v)
			behind, given := impl.AskVote(v, e.candidate, e.term, e.log)
			if noVoter(behind) { // for its term is at least 1
				t.Fatalf("AskVote(%v, %v) = %v, %v", v, e, behind, given)
			}
			f(r, v, e, behind, given)
			yes += bit(given)
			no += bit(!given)
		}
	})
	if min(yes, no) < 3000 {
		t.Errorf("%d votes that are given, and %d that are not, test too little", yes, no)
	}
	wantBadVotesFail(t)
}

// withCounts calls a function with many counts of votes, and the voters before and behind.
func withCounts(t *testing.T, f func(r *rand.Rand, list []impl.Voter, e election, votes int, next []impl.Voter)) {
	t.Helper()
	won, lost := 0, 0
	withLogs(t, func(r *rand.Rand, log []impl.Entry) {
		for range 2 {
			e := election{r.IntN(impl.MaxServers), 1 + r.IntN(impl.MaxTerm), log}
			list := randomVoters(r, e)
			votes, next := impl.CountVotes(list, e.candidate, e.term, e.log)
			if votes < 0 || votes > len(list) || len(next) != len(list) {
				t.Fatalf("CountVotes(%v, %v) = %d, %v", list, e, votes, next)
			}
			f(r, list, e, votes, next)
			won += bit(2*votes > len(list))
			lost += bit(2*votes <= len(list))
		}
	})
	if min(won, lost) < 1000 {
		t.Errorf("%d candidates that win, and %d that do not, test too little", won, lost)
	}
	wantBadCountsFail(t)
}

// badVoters returns voters that are not valid, each for one reason alone.
func badVoters() []impl.Voter {
	var bad []impl.Voter
	for _, n := range outside(9) {
		bad = append(bad, voter(n, -1, nil), voter(n, 3, logOfTerms(1, 2)))
	}
	for _, n := range append(outside(6), -2) {
		if n != -1 {
			bad = append(bad, voter(2, n, nil), voter(0, n, logOfTerms(1, 2)))
		}
	}
	for _, log := range badLogs() {
		bad = append(bad, voter(2, -1, log), voter(9, 3, log))
	}
	return bad
}

// badElections returns what no candidate can ask with, each for one reason alone.
func badElections() []election {
	var bad []election
	for _, n := range outside(6) {
		bad = append(bad, election{n, 3, fullLog()}, election{n, 9, nil})
	}
	for _, n := range append(outside(9), 0) {
		bad = append(bad, election{3, n, fullLog()}, election{0, n, nil})
	}
	for _, log := range badLogs() {
		bad = append(bad, election{3, 3, log}, election{0, 9, log})
	}
	return bad
}

// someVoters returns valid voters, among them one that can be taken for the zero value, and some that would give no vote.
func someVoters() []impl.Voter {
	return []impl.Voter{voter(0, -1, nil), voter(0, 0, nil), voter(3, 5, logOfTerms(1, 2)), voter(3, 3, nil), voter(9, 6, fullLog())}
}

// someElections returns what candidates can ask with.
func someElections() []election {
	return []election{{0, 1, nil}, {3, 3, logOfTerms(1, 2)}, {6, 9, fullLog()}}
}

func wantVote(t *testing.T, what string, v impl.Voter, e election, want impl.Voter, given bool) {
	t.Helper()
	if got, ok := impl.AskVote(v, e.candidate, e.term, e.log); ok != given || !sameVoter(got, want) {
		t.Errorf("%s: AskVote(%v, %v) = %v, %v, want %v, %v", what, v, e, got, ok, want, given)
	}
}

// wantNoVoter fails if there is a voter behind a question, which then has arguments that are not valid.
func wantNoVoter(t *testing.T, what string, v impl.Voter, e election) {
	t.Helper()
	if got, ok := impl.AskVote(v, e.candidate, e.term, e.log); ok || !noVoter(got) {
		t.Errorf("%s: AskVote(%v, %v) = %v, %v", what, v, e, got, ok)
	}
}

func wantVotes(t *testing.T, what string, list []impl.Voter, e election, votes int, want ...impl.Voter) {
	t.Helper()
	if got, next := impl.CountVotes(list, e.candidate, e.term, e.log); got != votes || !sameVoters(next, want) {
		t.Errorf("%s: CountVotes(%v, %v) = %d, %v, want %d, %v", what, list, e, got, next, votes, want)
	}
}

// wantNoCount fails if votes are counted, or if there are voters.
func wantNoCount(t *testing.T, what string, list []impl.Voter, e election) {
	t.Helper()
	if got, next := impl.CountVotes(list, e.candidate, e.term, e.log); got != -1 || next != nil {
		t.Errorf("%s: CountVotes(%v, %v) = %d, %v", what, list, e, got, next)
	}
}

func wantBadVotesFail(t *testing.T) {
	t.Helper()
	for _, v := range badVoters() {
		for _, e := range someElections() {
			wantNoVoter(t, "a voter that is not valid", v, e)
		}
	}
	for _, e := range badElections() {
		for _, v := range someVoters() {
			wantNoVoter(t, "a candidate that cannot ask", v, e)
		}
	}
}

func wantBadCountsFail(t *testing.T) {
	t.Helper()
	good := someVoters()
	for k, v := range badVoters() {
		for _, e := range someElections() {
			wantNoCount(t, "only a voter that is not valid", []impl.Voter{v}, e)
			wantNoCount(t, "a voter that is not valid", slices.Insert(slices.Clone(good), k%6, v), e)
		}
	}
	for _, e := range badElections() {
		wantNoCount(t, "a candidate that cannot ask", good, e)
		wantNoCount(t, "a candidate that cannot ask nobody", nil, e)
	}
	for _, e := range someElections() {
		for _, many := range []int{8, 9, 1000} {
			wantNoCount(t, "too many voters", slices.Repeat(good[:1], many), e)
		}
	}
}

// groupWith returns the group that has the servers whose bits are set.
func groupWith(set int) []int {
	var group []int
	for server := range 7 {
		if set>>server&1 == 1 {
			group = append(group, server)
		}
	}
	return group
}

// sizeOf returns how many bits are set.
func sizeOf(set int) int { return len(groupWith(set)) }

// quorums returns, for each group and each set as bits, whether the set is a quorum of the group. Nobody may change it.
var quorums = sync.OnceValue(func() [][]bool {
	var table [][]bool
	for group := range 128 {
		row := make([]bool, 128)
		for set := range row {
			row[set] = impl.IsQuorum(groupWith(group), groupWith(set))
		}
		table = append(table, row)
	}
	return table
})

// badGroups returns groups that are not valid, each for one reason alone.
func badGroups() [][]int {
	bad := [][]int{nil, {}, {0, 0}, {3, 3}, {1, 0}, {0, 2, 1}, {0, 1, 1, 2}, {1, 2, 0}, {6, 5, 4}, {0, 1, 2, 3, 4, 5, 6, 6}, {0, 0, 1, 2, 3, 4, 5, 6}, {0, 1, 2, 3, 4, 5, 6, 7}, {-1, 0, 1, 2, 3, 4, 5, 6}, slices.Repeat([]int{2}, 1000)}
	for _, n := range outside(6) {
		bad = append(bad, []int{n})
		if n < 0 {
			bad = append(bad, []int{n, 0, 1})
		} else {
			bad = append(bad, []int{0, 1, n})
		}
	}
	for _, n := range []int{8, 63, 64, 65, 66, 128, 256, 257} { // where bits could come round again
		bad = append(bad, []int{n}, []int{0, n}, []int{1, 2, n})
	}
	return bad
}

func wantQuorum(t *testing.T, what string, group []int, set []int, want bool) {
	t.Helper()
	if got := impl.IsQuorum(group, set); got != want {
		t.Errorf("%s: IsQuorum(%v, %v) = %v", what, group, set, got)
	}
}

// wantStep fails if two groups are not, or are, one step apart, in both orders.
func wantStep(t *testing.T, what string, a []int, b []int, want bool) {
	t.Helper()
	if x, y := impl.OneStep(a, b), impl.OneStep(b, a); x != want || y != want {
		t.Errorf("%s: OneStep(%v, %v) = %v, in the other order %v", what, a, b, x, y)
	}
}

// wantBadGroupsFail fails if a group that is not valid has a quorum, or is one step from another one.
func wantBadGroupsFail(t *testing.T) {
	t.Helper()
	for _, group := range badGroups() {
		for set := range 128 {
			wantQuorum(t, "a group that is not valid", group, groupWith(set), false)
			wantStep(t, "a group that is not valid", group, groupWith(set), false)
		}
		wantQuorum(t, "a group that is not valid, and all of it", group, group, false)
		wantQuorum(t, "a group that is not valid, and any numbers", group, append(slices.Clone(extremes), 0, 1, 2, 3, 4, 5, 6), false)
		for _, other := range badGroups() {
			wantStep(t, "groups that are not valid", group, other, false)
		}
	}
}
