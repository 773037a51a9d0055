package tests

import (
	"math/rand/v2"
	"slices"
	"sync"
	"testing"

	"loop.example/processengine/impl"
)

// roomyVoters returns copies of voters with room behind each of their lists, filled with marks that no call may change.
func roomyVoters(list []impl.Voter) []impl.Voter {
	roomy := append(copyVoters(list), impl.Voter{Term: -5})[:len(list)]
	for i := range roomy {
		roomy[i].Log = withRoom(list[i].Log, roomEntry)
	}
	return roomy
}

// areRoomy reports whether voters are as roomyVoters made them of others.
func areRoomy(roomy []impl.Voter, list []impl.Voter) bool {
	if !sameVoters(roomy, list) || roomy[:len(list)+1][len(list)].Term != -5 {
		return false
	}
	for i, v := range roomy {
		if !sameRoom(v.Log, list[i].Log, roomEntry) {
			return false
		}
	}
	return true
}

// voteAnswers are the results of all functions for voters and groups.
type voteAnswers struct {
	voters  []impl.Voter
	numbers []int
}

// askVotes asks each of some voters, and then counts the votes of all.
func askVotes(list []impl.Voter, e election, group []int, set []int) voteAnswers {
	votes, next := impl.CountVotes(list, e.candidate, e.term, e.log)
	a := voteAnswers{voters: next, numbers: []int{votes, bit(impl.IsQuorum(group, set)), bit(impl.OneStep(group, set))}}
	for _, v := range list {
		behind, given := impl.AskVote(v, e.candidate, e.term, e.log)
		a.voters = append(a.voters, behind)
		a.numbers = append(a.numbers, bit(given))
	}
	return a
}

// wantedVoteAnswers returns what askVotes has to return.
func wantedVoteAnswers(list []impl.Voter, e election, group []int, set []int) voteAnswers {
	votes, next := wantedVotes(list, e.candidate, e.term, e.log)
	a := voteAnswers{voters: next, numbers: []int{votes, bit(wantedQuorum(group, set)), bit(wantedOneStep(group, set))}}
	for _, v := range list {
		behind, given := wantedVote(v, e.candidate, e.term, e.log)
		a.voters = append(a.voters, behind)
		a.numbers = append(a.numbers, bit(given))
	}
	return a
}

// sameVoteAnswers reports whether results are the same, where a nil slice is an empty one.
func sameVoteAnswers(a voteAnswers, b voteAnswers) bool {
	return sameVoters(a.voters, b.voters) && slices.Equal(a.numbers, b.numbers)
}

func (a voteAnswers) copied() voteAnswers {
	return voteAnswers{voters: copyVoters(a.voters), numbers: slices.Clone(a.numbers)}
}

func (a voteAnswers) spoil() {
	for _, v := range a.voters {
		spoil(v.Log, entry(-7, -7))
	}
	spoil(a.voters, impl.Voter{Term: -7})
}

// voteCase is what all functions are asked with.
type voteCase struct {
	list  []impl.Voter
	asked election
	group []int
	set   []int
}

func (c voteCase) ask() voteAnswers { return askVotes(c.list, c.asked, c.group, c.set) }

// voteCases returns many cases, most of them valid. Nobody may change them.
var voteCases = sync.OnceValue(func() []voteCase {
	r := newRandom(47)
	var cases []voteCase
	for _, log := range logs() {
		e := election{r.IntN(impl.MaxServers), 1 + r.IntN(impl.MaxTerm), log}
		c := voteCase{randomVoters(r, e), e, groupWith(r.IntN(128)), groupWith(r.IntN(128))}
		switch r.IntN(12) {
		case 0:
			c.asked.term = anyNumber(r)
		case 1:
			c.asked.log = alteredLog(r, log)
		case 2:
			c.list = append(c.list, impl.Voter{Term: anyNumber(r), Voted: anyNumber(r), Log: log})
		case 3:
			c.group, c.set = anyNumbers(r, 3), anyNumbers(r, 3)
		}
		cases = append(cases, c)
	}
	return cases
})

func TestVoteFunctionsLeaveTheirArguments(t *testing.T) {
	given := 0
	for _, c := range voteCases() {
		roomy := voteCase{roomyVoters(c.list), c.asked, withRoom(c.group, -5), withRoom(c.set, -5)}
		roomy.asked.log = withRoom(c.asked.log, roomEntry)
		same := func() bool {
			return areRoomy(roomy.list, c.list) && sameRoom(roomy.asked.log, c.asked.log, roomEntry) && sameRoom(roomy.group, c.group, -5) && sameRoom(roomy.set, c.set, -5)
		}
		first := roomy.ask()
		if !same() {
			t.Fatalf("%v has become %v", c, roomy)
		}
		want := first.copied()
		given += max(first.numbers[0], 0)
		first.spoil()
		if !same() {
			t.Fatalf("a result shares memory with an argument of %v", c)
		}
		if !sameVoteAnswers(roomy.ask(), want) {
			t.Fatalf("the second results for %v differ", c)
		}
	}
	if given < 1000 {
		t.Errorf("%d votes that are given test too little", given)
	}
}

func TestVotersShareNoMemory(t *testing.T) {
	for _, c := range voteCases() {
		log := withRoom(c.asked.log, roomEntry)
		c.list = slices.Clone(c.list)
		for i := range c.list { // these have the log of the candidate, and all the same memory
			c.list[i].Log = log
		}
		c.asked.log = log
		first, second := c.ask(), c.ask()
		lists := [][]impl.Entry{log}
		for _, v := range slices.Concat(first.voters, second.voters) {
			lists = append(lists, v.Log)
		}
		wantLogsApart(t, c, lists)
		for _, v := range c.list {
			if !slices.Equal(v.Log, log) {
				t.Fatalf("the voter %v has another log", v)
			}
		}
		spoil(first.voters, impl.Voter{Term: -7})
		if slices.ContainsFunc(slices.Concat(second.voters, c.list), func(v impl.Voter) bool { return v.Term == -7 }) {
			t.Fatalf("%v: the voters share memory with others", c)
		}
	}
}

func TestEmptyAndNilVotersAreTheSame(t *testing.T) {
	for _, c := range voteCases() {
		c.list = copyVoters(c.list)
		for i := range c.list {
			c.list[i].Log = nil
		}
		empty := c
		empty.list = copyVoters(c.list)
		for i := range empty.list {
			empty.list[i].Log = []impl.Entry{}
		}
		if !sameVoteAnswers(c.ask(), empty.ask()) {
			t.Fatalf("empty logs of voters are not as none for %v", c)
		}
		c.asked.log, c.set, empty.asked.log, empty.set = nil, nil, []impl.Entry{}, []int{}
		if !sameVoteAnswers(c.ask(), empty.ask()) {
			t.Fatalf("an empty log and set are not as none for %v", c)
		}
		c.list, c.group, empty.list, empty.group = nil, nil, []impl.Voter{}, []int{}
		if !sameVoteAnswers(c.ask(), empty.ask()) {
			t.Fatalf("no voters and an empty group are not as none for %v", c)
		}
	}
}

// TestVoteFunctionsReturnForEveryArgument fails by a panic if they do not.
func TestVoteFunctionsReturnForEveryArgument(t *testing.T) {
	r := newRandom(48)
	counted, groups := 0, 0
	small := func() int { return r.IntN(9) - 1 }
	for range 50000 {
		c := voteCase{nil, election{small(), small(), anyLog(r)}, anyNumbers(r, 1), anyNumbers(r, 3)}
		if r.IntN(3) == 0 {
			c.asked = election{anyNumber(r), anyNumber(r), anyLog(r)}
		}
		for range r.IntN(4) * r.IntN(4) {
			v := impl.Voter{Term: small(), Voted: small(), Log: anyLog(r)}
			if r.IntN(4) == 0 {
				v.Term, v.Voted = anyNumber(r), anyNumber(r)
			}
			c.list = append(c.list, v)
		}
		if got, want := c.ask(), wantedVoteAnswers(c.list, c.asked, c.group, c.set); !sameVoteAnswers(got, want) {
			t.Fatalf("%v: %v, want %v", c, got, want)
		}
		counted += bit(c.ask().numbers[0] >= 0)
		groups += bit(wantedGroup(c.group))
	}
	if min(counted, groups) < 2000 {
		t.Errorf("%d counts and %d valid groups test too little", counted, groups)
	}
}

// TestLogsAndVotesAtTheSameTime fails if a call about logs or votes keeps something for the next one, or for one beside it.
func TestLogsAndVotesAtTheSameTime(t *testing.T) {
	r := newRandom(49)
	cases, lists := voteCases()[:500], logs()[:500]
	questions := make([]logQuestion, len(lists))
	want, wantLogs := make([]voteAnswers, len(cases)), make([]logAnswers, len(lists))
	for i := range lists {
		questions[i] = randomLogQuestion(r, lists[i])
		want[i], wantLogs[i] = cases[i].ask(), askLog(lists[i], questions[i])
	}
	var group sync.WaitGroup
	for k := range 8 {
		group.Go(func() {
			for i := range lists {
				j := (i*7 + k*31) % len(lists)
				if !sameVoteAnswers(cases[j].ask(), want[j]) || !sameLogAnswers(askLog(lists[j], questions[j]), wantLogs[j]) {
					t.Errorf("results for %v or %v differ", lists[j], cases[j])
				}
			}
		})
	}
	group.Wait()
}

// TestVotesOfOneVoter keeps one voter over several elections, so that each call has the result of the one before it.
func TestVotesOfOneVoter(t *testing.T) {
	r := newRandom(50)
	for range 500 {
		v := impl.Voter{Voted: -1}
		given := map[int]int{}
		for range 30 {
			log := randomLog(rand.New(rand.NewPCG(uint64(r.IntN(5)), 2)))
			e := election{r.IntN(impl.MaxServers), 1 + r.IntN(impl.MaxTerm), log}
			next, ok := impl.AskVote(v, e.candidate, e.term, e.log)
			if before, voted := given[e.term]; ok && voted && before != e.candidate {
				t.Fatalf("%v has voted for %d and for %d in the term %d", v, before, e.candidate, e.term)
			}
			if ok {
				given[e.term] = e.candidate
			}
			v = next
		}
	}
}
