package tests

import (
	"math/rand/v2"
	"slices"
	"testing"

	"loop.example/processengine/impl"
)

func TestPromise84VotesAreGivenOnceATerm(t *testing.T) {
	others := 0
	withVotes(t, func(r *rand.Rand, v impl.Voter, e election, behind impl.Voter, given bool) {
		if voted := v.Term == e.term && v.Voted >= 0 && v.Voted != e.candidate; voted {
			wantVote(t, "a vote that is given to another one", v, e, v, false)
			others++
		}
		if !given {
			return
		}
		if behind.Voted != e.candidate {
			t.Fatalf("AskVote(%v, %v) = %v, %v", v, e, behind, given)
		}
		for other := range impl.MaxServers {
			if other != e.candidate {
				wantVote(t, "another candidate in the same term", behind, election{other, e.term, e.log}, behind, false)
				wantVote(t, "another candidate with another log", behind, election{other, e.term, grown(r, e.log, 3)}, behind, false)
			}
		}
		wantVote(t, "the same candidate again", behind, e, behind, true)
		if t.Failed() {
			t.FailNow()
		}
	})
	if others < 300 {
		t.Errorf("%d voters that have voted for another one test too little", others)
	}
}

func TestPromise85TermsDoNotFall(t *testing.T) {
	greater, less := 0, 0
	withVotes(t, func(r *rand.Rand, v impl.Voter, e election, behind impl.Voter, given bool) {
		if behind.Term != max(v.Term, e.term) || !slices.Equal(behind.Log, v.Log) {
			t.Fatalf("AskVote(%v, %v) = %v, %v", v, e, behind, given)
		}
		// Who is asked in a greater term has not voted there before.
		if e.term > v.Term && !given && behind.Voted != -1 {
			t.Fatalf("AskVote(%v, %v) = %v, %v", v, e, behind, given)
		}
		greater += bit(e.term > v.Term)
		less += bit(e.term < v.Term)
	})
	if min(greater, less) < 1500 {
		t.Errorf("%d greater terms and %d that are less test too little", greater, less)
	}
}

func TestPromise86OldLogsGetNoVotes(t *testing.T) {
	old := 0
	withVotes(t, func(r *rand.Rand, v impl.Voter, e election, behind impl.Voter, given bool) {
		if given && (lastOf(e.log) < lastOf(v.Log) || lastOf(e.log) == lastOf(v.Log) && len(e.log) < len(v.Log)) {
			t.Fatalf("AskVote(%v, %v) = %v, %v", v, e, behind, given)
		}
		if impl.NewerLog(e.log, v.Log) {
			free := e.term > v.Term || e.term == v.Term && (v.Voted == -1 || v.Voted == e.candidate)
			if given != free {
				t.Fatalf("AskVote(%v, %v) = %v, %v", v, e, behind, given)
			}
			return
		}
		want := voter(max(e.term, v.Term), v.Voted, v.Log)
		if e.term > v.Term {
			want.Voted = -1
		}
		wantVote(t, "a log that is less new", v, e, want, false)
		old++
		if t.Failed() {
			t.FailNow()
		}
	})
	if old < 1500 {
		t.Errorf("%d logs that are less new test too little", old)
	}
}

func TestPromise150OldTermsGetNoVotes(t *testing.T) {
	old := 0
	withVotes(t, func(r *rand.Rand, v impl.Voter, e election, behind impl.Voter, given bool) {
		for term := 1; term < v.Term; term++ {
			for _, candidate := range []int{e.candidate, max(v.Voted, 0)} {
				wantVote(t, "an old term", v, election{candidate, term, e.log}, v, false)
				wantVote(t, "an old term with the own log", v, election{candidate, term, v.Log}, v, false)
				wantVote(t, "an old term with a newer log", v, election{candidate, term, grown(r, v.Log, 3)}, v, false)
			}
			old++
		}
		if t.Failed() {
			t.FailNow()
		}
	})
	if old < 1500 {
		t.Errorf("%d old terms test too little", old)
	}
}

func TestPromise87TwoQuorumsMeet(t *testing.T) {
	met := 0
	for group := range 128 {
		for x := range 128 {
			for y := range 128 {
				if quorums()[group][x] && quorums()[group][y] {
					if x&y&group == 0 {
						t.Fatalf("%v and %v are quorums of %v", groupWith(x), groupWith(y), groupWith(group))
					}
					met++
				}
			}
		}
		if group > 0 && !quorums()[group][group] { // so that there are quorums at all
			t.Fatalf("%v is no quorum of itself", groupWith(group))
		}
	}
	if met < 100000 {
		t.Errorf("%d pairs of quorums test too little", met)
	}
	wantNoisyQuorums(t)
	wantBadGroupsFail(t)
}

// wantNoisyQuorums fails if it matters for a quorum in what order a set is, how often a server is there, and what other numbers are.
func wantNoisyQuorums(t *testing.T) {
	t.Helper()
	r := newRandom(46)
	for group := 1; group < 128; group++ {
		for set := range 128 {
			noisy := groupWith(set)
			for _, server := range noisy {
				noisy = append(noisy, slices.Repeat([]int{server}, r.IntN(3))...)
			}
			for range r.IntN(4) {
				noisy = append(noisy, []int{-1, 7, 8, -8, 64, 128, 256, extremes[r.IntN(6)], extremes[len(extremes)-1-r.IntN(5)]}[r.IntN(9)])
			}
			r.Shuffle(len(noisy), func(i, j int) { noisy[i], noisy[j] = noisy[j], noisy[i] })
			wantQuorum(t, "a set with other numbers", groupWith(group), noisy, 2*sizeOf(set&group) > sizeOf(group))
		}
	}
}

func TestPromise88QuorumsOfGroupsOneStepApartMeet(t *testing.T) {
	steps := 0
	for x := range 128 {
		for y := range 128 {
			if !impl.OneStep(groupWith(x), groupWith(y)) {
				continue
			}
			for set := range 128 {
				if quorums()[x][set] && quorums()[y][127^set] {
					t.Fatalf("%v is a quorum of %v, and what is not in it is one of %v", groupWith(set), groupWith(x), groupWith(y))
				}
			}
			if !quorums()[x][x] || !quorums()[y][y] {
				t.Fatalf("%v or %v is no quorum of itself", groupWith(x), groupWith(y))
			}
			steps++
		}
	}
	if steps != 882 { // 7 for each of the 127 groups, but for those of one none to no group
		t.Errorf("%d pairs of groups are one step apart", steps)
	}
	wantNoisyQuorums(t)
	wantBadGroupsFail(t)
}

func TestPromise89StepsGoBothWays(t *testing.T) {
	for x := range 128 {
		for y := range 128 {
			want := x > 0 && y > 0 && sizeOf(x^y) == 1
			wantStep(t, "two groups", groupWith(x), groupWith(y), want)
		}
		wantStep(t, "itself", groupWith(x), groupWith(x), false)
	}
	wantBadGroupsFail(t)
}

func TestPromise151MoreServersAreAQuorum(t *testing.T) {
	more := 0
	for group := range 128 {
		for set := range 128 {
			if !quorums()[group][set] {
				continue
			}
			for server := range 7 {
				if !quorums()[group][set|1<<server] {
					t.Fatalf("%v is a quorum of %v, but not with %d", groupWith(set), groupWith(group), server)
				}
				wantQuorum(t, "a server more, behind all others", groupWith(group), append(groupWith(set), server), true)
				wantQuorum(t, "a server more, before all others", groupWith(group), append([]int{server}, groupWith(set)...), true)
				more++
			}
			for _, n := range extremes {
				wantQuorum(t, "any number more", groupWith(group), append(groupWith(set), n), true)
			}
		}
		if group > 0 && !quorums()[group][127] {
			t.Fatalf("all servers are no quorum of %v", groupWith(group))
		}
	}
	if more < 20000 {
		t.Errorf("%d servers more test too little", more)
	}
	wantNoisyQuorums(t)
	wantBadGroupsFail(t)
}

func TestPromise167StepsAddOrTakeOne(t *testing.T) {
	added, taken := 0, 0
	for x := range 128 {
		for y := range 128 {
			if !impl.OneStep(groupWith(x), groupWith(y)) {
				continue
			}
			if x&y != x && x&y != y || x == 0 || y == 0 || sizeOf(x)-sizeOf(y) != 1 && sizeOf(y)-sizeOf(x) != 1 {
				t.Fatalf("%v and %v are one step apart", groupWith(x), groupWith(y))
			}
			added += bit(x&y == x)
			taken += bit(x&y == y)
		}
	}
	if added != 441 || taken != 441 {
		t.Errorf("%d steps add a server, and %d take one", added, taken)
	}
	wantBadGroupsFail(t)
}

func TestPromise90VotesAreCounted(t *testing.T) {
	withCounts(t, func(r *rand.Rand, list []impl.Voter, e election, votes int, next []impl.Voter) {
		want := 0
		for i, v := range list {
			behind, given := impl.AskVote(v, e.candidate, e.term, e.log)
			if !sameVoter(next[i], behind) || !slices.Equal(next[i].Log, v.Log) {
				t.Fatalf("CountVotes(%v, %v) = %d, %v", list, e, votes, next)
			}
			if given && (behind.Voted != e.candidate || behind.Term != e.term) {
				t.Fatalf("AskVote(%v, %v) = %v, %v", v, e, behind, given)
			}
			want += bit(given)
		}
		if votes != want {
			t.Fatalf("CountVotes(%v, %v) = %d, want %d", list, e, votes, want)
		}
	})
}

func TestPromise91TwoCandidatesDoNotBothWin(t *testing.T) {
	won, again := 0, 0
	withCounts(t, func(r *rand.Rand, list []impl.Voter, e election, votes int, next []impl.Voter) {
		newest := []impl.Entry{entry(impl.MaxTerm, 5), entry(impl.MaxTerm, 6)}
		for other := range impl.MaxServers {
			if other == e.candidate {
				continue
			}
			for _, log := range [][]impl.Entry{e.log, relatedLog(r, e.log), newest} {
				more, last := impl.CountVotes(next, other, e.term, log)
				if votes+more > len(list) || more < 0 {
					t.Fatalf("%v: %d get %d votes, and then %d gets %d", list, e.candidate, votes, other, more)
				}
				// And nobody who has given one takes it back.
				if back, _ := impl.CountVotes(last, e.candidate, e.term, e.log); back < votes {
					t.Fatalf("%v: %d gets %d votes, and behind %d only %d", list, e.candidate, votes, other, back)
				}
				again += bit(2*more > len(list))
			}
		}
		won += bit(2*votes > len(list))
	})
	if won < 1000 || again < 300 {
		t.Errorf("%d candidates that win, and %d later ones, test too little", won, again)
	}
}

func TestPromise152AllVotersLearnTheTerm(t *testing.T) {
	learnt := 0
	withCounts(t, func(r *rand.Rand, list []impl.Voter, e election, votes int, next []impl.Voter) {
		for i, v := range next {
			if v.Term < e.term || v.Term != max(list[i].Term, e.term) {
				t.Fatalf("CountVotes(%v, %v) = %d, %v", list, e, votes, next)
			}
			learnt += bit(list[i].Term < e.term)
		}
	})
	if learnt < 1500 {
		t.Errorf("%d voters that learn the term test too little", learnt)
	}
}
