package tests

import (
	"slices"
	"sync"
	"testing"

	"loop.example/processengine/impl"
)

// askPath asks all functions about a process and its times.
func askPath(p impl.Process, times []int) answers {
	return answers{
		value: impl.TotalTime(p, times),
		lists: [][]int{impl.EarliestTimes(p, times), impl.SlackTimes(p, times), impl.CriticalNodes(p, times)},
	}
}

// wantedPathAnswers returns what askPath has to return.
func wantedPathAnswers(p impl.Process, times []int) answers {
	return answers{
		value: wantedTotal(p, times),
		lists: [][]int{wantedEarliest(p, times), wantedSlack(p, times), wantedCritical(p, times)},
	}
}

// mixedPaths returns many cases, most of them valid. Nobody may change them.
var mixedPaths = sync.OnceValue(func() []pathCase {
	r := newRandom(84)
	var list []pathCase
	for i, c := range pathCases() {
		if i%2 != 0 {
			continue
		}
		if r.IntN(4) == 0 {
			c = alteredPath(r, c)
		}
		list = append(list, c)
	}
	return list
})

func TestPathFunctionsLeaveTheirArguments(t *testing.T) {
	found := 0
	for _, c := range mixedPaths() {
		p, times := roomyProcess(c.p), withRoom(c.times, -5)
		first := askPath(p, times)
		want := first.copied()
		first.spoil()
		wantRoomy(t, p, c.p)
		if !sameRoom(times, c.times, -5) {
			t.Fatalf("%v: the times %v have become %v", c.p, c.times, times)
		}
		if !sameAnswers(askPath(p, times), want) {
			t.Fatalf("the second results for %v differ", c)
		}
		found += bit(want.value > 0)
	}
	if found < 1000 {
		t.Errorf("%d paths test too little", found)
	}
}

func TestPathsShareNoMemory(t *testing.T) {
	for _, c := range mixedPaths() {
		times := slices.Clone(c.times)
		lists := [][]int{times}
		for range 2 {
			lists = append(lists, askPath(c.p, times).lists...)
		}
		wantApart(t, c, lists)
	}
}

func TestEmptyAndNilPathsAreTheSame(t *testing.T) {
	none := impl.Process{Nodes: []impl.Node{}, Flows: []impl.Flow{}}
	if !sameAnswers(askPath(impl.Process{}, nil), askPath(none, []int{})) {
		t.Error("an empty process is not as none")
	}
	for _, c := range mixedPaths() {
		q := copyProcess(c.p)
		for f, w := range q.Flows {
			if len(w.When) == 0 {
				q.Flows[f].When = []impl.Part{}
			}
		}
		if !sameAnswers(askPath(c.p, c.times), askPath(q, c.times)) {
			t.Fatalf("empty conditions of %v are not as none", c)
		}
		if !sameAnswers(askPath(c.p, nil), askPath(q, []int{})) {
			t.Fatalf("empty times for %v are not as none", c)
		}
	}
}

// TestPathFunctionsReturnForEveryArgument fails by a panic if they do not.
func TestPathFunctionsReturnForEveryArgument(t *testing.T) {
	r := newRandom(85)
	found := 0
	ask := func(p impl.Process, times []int) {
		got, want := askPath(p, times), wantedPathAnswers(p, times)
		if !sameAnswers(got, want) {
			t.Fatalf("%v with the times %v: %v, want %v", p, times, got, want)
		}
		found += bit(want.value >= 0)
	}
	for _, c := range mixedPaths() {
		ask(c.p, anyNumbers(r, len(c.p.Nodes)))
		ask(c.p, make([]int, len(c.p.Nodes)))
		var p impl.Process
		for range r.IntN(13) {
			p.Nodes = append(p.Nodes, impl.Node{Kind: anyNumber(r), Value: anyNumber(r)})
		}
		for range r.IntN(17) {
			p.Flows = append(p.Flows, impl.Flow{From: anyNumber(r), To: anyNumber(r), When: anyCondition(r)})
		}
		ask(p, anyNumbers(r, len(p.Nodes)))
	}
	for _, p := range circleProcesses() {
		ask(p, anyNumbers(r, len(p.Nodes)))
		ask(p, make([]int, len(p.Nodes)))
	}
	if found < 1000 {
		t.Errorf("%d paths test too little", found)
	}
}

// TestPathsAtTheSameTime fails if a call keeps something for the next one, or for one beside it.
func TestPathsAtTheSameTime(t *testing.T) {
	cases := mixedPaths()[:1000]
	want := make([]answers, len(cases))
	for i, c := range cases {
		want[i] = askPath(c.p, c.times)
	}
	var group sync.WaitGroup
	for k := range 8 {
		group.Go(func() {
			for i := range cases {
				j := (i*7 + k*31) % len(cases)
				if !sameAnswers(askPath(cases[j].p, cases[j].times), want[j]) {
					t.Errorf("results for %v differ", cases[j])
				}
			}
		})
	}
	group.Wait()
}
