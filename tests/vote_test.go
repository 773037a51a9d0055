package tests

import (
	"slices"
	"testing"

	"loop.example/processengine/impl"
)

func TestAskVote(t *testing.T) {
	own := logOfTerms(1, 1, 2)
	fresh := voter(2, -1, own)
	wantVote(t, "a voter that has not voted", fresh, election{3, 2, own}, voter(2, 3, own), true)
	wantVote(t, "the first candidate", fresh, election{0, 2, own}, voter(2, 0, own), true)
	wantVote(t, "the last candidate", fresh, election{6, 2, own}, voter(2, 6, own), true)
	wantVote(t, "the candidate again", voter(2, 3, own), election{3, 2, own}, voter(2, 3, own), true)
	wantVote(t, "another candidate", voter(2, 3, own), election{4, 2, own}, voter(2, 3, own), false)
	wantVote(t, "another candidate with a newer log", voter(2, 3, own), election{4, 2, fullLog()}, voter(2, 3, own), false)
	wantVote(t, "another candidate than the first one", voter(2, 0, own), election{1, 2, own}, voter(2, 0, own), false)
	wantVote(t, "another candidate than the last one", voter(2, 6, own), election{0, 2, own}, voter(2, 6, own), false)
	wantVote(t, "another candidate in a greater term", voter(2, 3, own), election{4, 3, own}, voter(3, 4, own), true)
	wantVote(t, "the same candidate in a greater term", voter(2, 3, own), election{3, 5, own}, voter(5, 3, own), true)
	wantVote(t, "a new voter", voter(0, -1, nil), election{3, 1, nil}, voter(1, 3, nil), true)
	wantVote(t, "a voter that has voted in the term 0", voter(0, 2, nil), election{3, 1, nil}, voter(1, 3, nil), true)
	wantVote(t, "the greatest term", voter(9, -1, own), election{3, 9, own}, voter(9, 3, own), true)
	wantVote(t, "up to the greatest term", voter(0, -1, own), election{3, 9, own}, voter(9, 3, own), true)
	for _, voted := range []int{-1, 0, 3, 6} {
		v := voter(5, voted, own)
		for term := 1; term < 5; term++ {
			wantVote(t, "an old term", v, election{3, term, own}, v, false)
			wantVote(t, "an old term with a newer log", v, election{3, term, fullLog()}, v, false)
		}
	}
	wantVote(t, "the term of the log does not count", voter(1, -1, logOfTerms(7)), election{3, 2, logOfTerms(7, 8)}, voter(2, 3, logOfTerms(7)), true)
	wantVote(t, "a log whose term is greater than that of the candidate", voter(1, -1, nil), election{3, 1, logOfTerms(9)}, voter(1, 3, nil), true)
}

func TestAskVoteWithOtherLogs(t *testing.T) {
	own := logOfTerms(1, 1, 2)
	old := [][]impl.Entry{nil, {}, own[:1], own[:2], logOfTerms(2), logOfTerms(2, 2), longLog(16, 1)}
	for _, log := range old {
		wantVote(t, "a log that is less new", voter(2, -1, own), election{3, 2, log}, voter(2, -1, own), false)
		wantVote(t, "a log that is less new, again", voter(2, 3, own), election{3, 2, log}, voter(2, 3, own), false)
		wantVote(t, "a log that is less new, and another candidate", voter(2, 4, own), election{3, 2, log}, voter(2, 4, own), false)
		wantVote(t, "a log that is less new, in a greater term", voter(2, -1, own), election{3, 4, log}, voter(4, -1, own), false)
		wantVote(t, "a log that is less new, in a greater term behind a vote", voter(2, 4, own), election{3, 4, log}, voter(4, -1, own), false)
		wantVote(t, "a log that is less new, in a greater term behind the same vote", voter(2, 3, own), election{3, 4, log}, voter(4, -1, own), false)
		wantVote(t, "a log that is less new, in an old term", voter(2, 3, own), election{3, 1, log}, voter(2, 3, own), false)
	}
	for _, log := range [][]impl.Entry{own, otherOps(own), logOfTerms(2, 2, 2), logOfTerms(1, 2, 2, 2), logOfTerms(3), logOfTerms(9), longLog(16, 2), fullLog()} {
		wantVote(t, "a log that is as new", voter(2, -1, own), election{3, 2, log}, voter(2, 3, own), true)
		wantVote(t, "a log that is as new, again", voter(2, 3, own), election{3, 2, log}, voter(2, 3, own), true)
		wantVote(t, "a log that is as new, in a greater term", voter(2, 4, own), election{3, 4, log}, voter(4, 3, own), true)
		wantVote(t, "a log that is as new, for a voter without one", voter(2, -1, nil), election{3, 2, log}, voter(2, 3, nil), true)
	}
	wantVote(t, "no logs", voter(2, -1, nil), election{3, 2, []impl.Entry{}}, voter(2, 3, nil), true)
}

func TestVotesThatAreNotValid(t *testing.T) {
	wantBadVotesFail(t)
	wantBadCountsFail(t)
	// What is not valid comes before what is only old.
	wantNoVoter(t, "an old term and a log that is not valid", voter(5, 3, nil), election{3, 1, logOfTerms(2, 1)})
	wantNoVoter(t, "an old term and a candidate outside the range", voter(5, 3, nil), election{7, 1, nil})
	wantNoVoter(t, "a term outside the range that is old, too", voter(5, 3, nil), election{3, 0, nil})
	wantNoVoter(t, "a term outside the range for a new voter", voter(0, -1, nil), election{3, 0, nil})
	for _, e := range append(someElections(), badElections()...) {
		for _, v := range badVoters() {
			wantNoVoter(t, "a voter that is not valid", v, e)
		}
	}
}

// TestAllVotes compares the votes of all voters with the same logs with what they have to be.
func TestAllVotes(t *testing.T) {
	list := [][]impl.Entry{nil, logOfTerms(1), logOfTerms(1, 1), logOfTerms(2), fullLog()}
	for _, own := range list {
		for _, log := range list {
			for n := range 12 * 10 * 9 * 11 { // all numbers in their ranges, and one beside each limit
				v := voter(n%12-1, n/12%10-2, own)
				e := election{n/120%9 - 1, n / 1080, log}
				want, given := wantedVote(v, e.candidate, e.term, e.log)
				got, ok := impl.AskVote(v, e.candidate, e.term, e.log)
				if ok != given || !sameVoter(got, want) {
					t.Fatalf("AskVote(%v, %v) = %v, %v, want %v, %v", v, e, got, ok, want, given)
				}
			}
		}
	}
}

func TestIsQuorum(t *testing.T) {
	wantQuorum(t, "two of three", []int{0, 1, 2}, []int{0, 2}, true)
	wantQuorum(t, "one of three", []int{0, 1, 2}, []int{1}, false)
	wantQuorum(t, "all of three", []int{0, 1, 2}, []int{0, 1, 2}, true)
	wantQuorum(t, "in no order", []int{0, 1, 2}, []int{2, 0}, true)
	wantQuorum(t, "others", []int{0, 1, 2}, []int{0, 5, 6}, false)
	wantQuorum(t, "others beside two", []int{0, 1, 2}, []int{0, 5, 6, 1}, true)
	wantQuorum(t, "the same one twice", []int{0, 1, 2}, []int{1, 1}, false)
	wantQuorum(t, "the same one often", []int{0, 1, 2}, slices.Repeat([]int{1}, 1000), false)
	wantQuorum(t, "two of them twice", []int{0, 1, 2}, []int{1, 0, 1, 0}, true)
	wantQuorum(t, "half of two", []int{0, 1}, []int{1}, false)
	wantQuorum(t, "half of two, twice", []int{0, 1}, []int{1, 1}, false)
	wantQuorum(t, "both of two", []int{0, 1}, []int{1, 0}, true)
	wantQuorum(t, "half of six", []int{0, 1, 2, 3, 4, 5}, []int{0, 1, 2, 6}, false)
	wantQuorum(t, "four of six", []int{0, 1, 2, 3, 4, 5}, []int{5, 1, 2, 4}, true)
	wantQuorum(t, "three of seven", []int{0, 1, 2, 3, 4, 5, 6}, []int{0, 3, 6}, false)
	wantQuorum(t, "four of seven", []int{0, 1, 2, 3, 4, 5, 6}, []int{0, 3, 5, 6}, true)
	for server := range 7 {
		wantQuorum(t, "a group of one", []int{server}, []int{server}, true)
		wantQuorum(t, "a group of one, and all others", []int{server}, without([]int{0, 1, 2, 3, 4, 5, 6}, server), false)
		wantQuorum(t, "a group of one, and nothing", []int{server}, nil, false)
		wantQuorum(t, "a group of one, and an empty set", []int{server}, []int{}, false)
		wantQuorum(t, "a group of one, and any numbers", []int{server}, []int{-8, -1, 7, 8, server + 8, server - 8, server + 64, server + 256, server - 64}, false)
		wantQuorum(t, "a group of one, and any numbers beside it", []int{server}, append(slices.Clone(extremes), server), true)
	}
	wantQuorum(t, "any numbers", []int{3, 4, 6}, append(outside(6), 3, 7, 8, 64+4, 64+6), false)
	wantQuorum(t, "any numbers beside two", []int{3, 4, 6}, append(outside(6), 3, 7, 8, 6), true)
	wantQuorum(t, "no set", []int{0, 1, 2}, nil, false)
	wantBadGroupsFail(t)
}

func TestOneStep(t *testing.T) {
	wantStep(t, "one more at the end", []int{0, 1}, []int{0, 1, 2}, true)
	wantStep(t, "one more at the beginning", []int{1, 2}, []int{0, 1, 2}, true)
	wantStep(t, "one more between", []int{0, 2}, []int{0, 1, 2}, true)
	wantStep(t, "one more than one", []int{6}, []int{0, 6}, true)
	wantStep(t, "one more up to all", []int{0, 1, 2, 4, 5, 6}, []int{0, 1, 2, 3, 4, 5, 6}, true)
	wantStep(t, "another one", []int{0, 1}, []int{0, 2}, false)
	wantStep(t, "another one of one", []int{0}, []int{1}, false)
	wantStep(t, "another one and one more", []int{0, 1}, []int{0, 2, 3}, false)
	wantStep(t, "two more", []int{0, 1}, []int{0, 1, 2, 3}, false)
	wantStep(t, "all but one more", []int{0}, []int{0, 1, 2, 3, 4, 5, 6}, false)
	wantStep(t, "all others", []int{0, 1, 2}, []int{3, 4, 5, 6}, false)
	for group := 1; group < 128; group++ {
		wantStep(t, "itself", groupWith(group), groupWith(group), false)
		wantStep(t, "no group", groupWith(group), nil, false)
		wantStep(t, "an empty group", groupWith(group), []int{}, false)
	}
	wantStep(t, "no groups", nil, nil, false)
	wantStep(t, "one more that is there", []int{0, 1}, []int{0, 1, 1}, false)
	wantStep(t, "one more outside the range", []int{0, 1}, []int{0, 1, 7}, false)
	wantStep(t, "one more before the range", []int{0, 1}, []int{-1, 0, 1}, false)
	wantStep(t, "one more, not ascending", []int{0, 1}, []int{0, 2, 1}, false)
	wantBadGroupsFail(t)
}

// TestAllGroups compares all groups with all sets, and with each other, with what they have to be.
func TestAllGroups(t *testing.T) {
	for x := range 128 {
		for y := range 128 {
			a, b := groupWith(x), groupWith(y)
			wantQuorum(t, "a set", a, b, wantedQuorum(a, b))
			wantStep(t, "two groups", a, b, wantedOneStep(a, b))
		}
	}
}

func TestCountVotes(t *testing.T) {
	own := logOfTerms(1, 1, 2)
	fresh, other, mine, late := voter(2, -1, own), voter(2, 4, own), voter(2, 3, own), voter(5, -1, own)
	newer, old := voter(1, 5, logOfTerms(3)), voter(0, -1, own[:2])
	e := election{3, 2, own}
	wantVotes(t, "nobody", nil, e, 0)
	wantVotes(t, "an empty list", []impl.Voter{}, e, 0)
	wantVotes(t, "one that gives", []impl.Voter{fresh}, e, 1, mine)
	wantVotes(t, "one that does not", []impl.Voter{other}, e, 0, other)
	wantVotes(t, "several", []impl.Voter{fresh, other, mine, late, newer, old}, e, 3, mine, other, mine, late, voter(2, -1, logOfTerms(3)), voter(2, 3, own[:2]))
	wantVotes(t, "several in another order", []impl.Voter{old, newer, late, mine, other, fresh}, e, 3, voter(2, 3, own[:2]), voter(2, -1, logOfTerms(3)), late, mine, other, mine)
	wantVotes(t, "the same one several times", []impl.Voter{fresh, fresh, other, other, fresh}, e, 3, mine, mine, other, other, mine)
	for many := range 8 {
		wantVotes(t, "all of them", slices.Repeat([]impl.Voter{fresh}, many), e, many, slices.Repeat([]impl.Voter{mine}, many)...)
		wantVotes(t, "none of them", slices.Repeat([]impl.Voter{late}, many), e, 0, slices.Repeat([]impl.Voter{late}, many)...)
	}
	for many := 8; many < 20; many++ {
		wantNoCount(t, "more than the limit", slices.Repeat([]impl.Voter{fresh}, many), e)
	}
	for i := range 7 { // one bad voter at each place
		for _, v := range badVoters() {
			list := slices.Repeat([]impl.Voter{fresh}, 7)
			list[i] = v
			wantNoCount(t, "one that is not valid", list, e)
		}
	}
	for _, bad := range badElections() {
		wantNoCount(t, "a candidate that cannot ask", []impl.Voter{fresh, other}, bad)
		wantNoCount(t, "a candidate that cannot ask nobody", nil, bad)
		wantNoCount(t, "a candidate that cannot ask, and a bad voter", badVoters()[:1], bad)
	}
}

// TestRandomVotes compares votes and their counts, of voters and candidates that are valid or not, with what they have to be.
func TestRandomVotes(t *testing.T) {
	r := newRandom(45)
	counted, not := 0, 0
	for _, log := range logs() {
		e := election{r.IntN(impl.MaxServers), 1 + r.IntN(impl.MaxTerm), log}
		list := randomVoters(r, e)
		switch r.IntN(12) {
		case 0:
			e.candidate = anyNumber(r)
		case 1:
			e.term = anyNumber(r)
		case 2:
			e.log = alteredLog(r, log)
		case 3:
			list = slices.Concat(list, list)
		case 4:
			list = append(list, impl.Voter{Term: anyNumber(r), Voted: anyNumber(r), Log: log})
		}
		votes, next := wantedVotes(list, e.candidate, e.term, e.log)
		wantVotes(t, "random voters", list, e, votes, next...)
		for _, v := range list {
			want, given := wantedVote(v, e.candidate, e.term, e.log)
			wantVote(t, "a random voter", v, e, want, given)
		}
		if t.Failed() {
			t.FailNow()
		}
		counted += bit(votes > 0)
		not += bit(votes < 0)
	}
	if counted < 1000 || not < 300 {
		t.Errorf("%d counts, and %d that fail, test too little", counted, not)
	}
}
