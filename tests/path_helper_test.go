package tests

import (
	"math"
	"math/rand/v2"
	"slices"
	"sync"
	"testing"

	"loop.example/processengine/impl"
)

// pathCase is a process without a circle, with a time for each node.
type pathCase struct {
	p     impl.Process
	times []int
}

// detour returns a process in which a way from a choice to its merge is longer than the other one, and one leads to an end of its own.
func detour() impl.Process {
	return draw([]int{impl.NodeStart, impl.NodeChoice, impl.NodeTask, impl.NodeTask, impl.NodeTask, impl.NodeMerge, impl.NodeEnd, impl.NodeTask, impl.NodeEnd},
		[2]int{0, 1}, [2]int{1, 2}, [2]int{2, 3}, [2]int{1, 4}, [2]int{3, 5}, [2]int{4, 5}, [2]int{5, 6}, [2]int{1, 7}, [2]int{7, 8})
}

// shortcut returns a process whose fork leads to its join directly and by tasks.
func shortcut(many int) impl.Process {
	p := draw([]int{impl.NodeStart, impl.NodeFork, impl.NodeJoin, impl.NodeEnd}, [2]int{0, 1}, [2]int{1, 2}, [2]int{2, 3})
	from := 1
	for range many {
		p.Flows = append(p.Flows, impl.Flow{From: from, To: len(p.Nodes)})
		from = len(p.Nodes)
		p.Nodes = append(p.Nodes, task())
	}
	p.Flows = append(p.Flows, impl.Flow{From: from, To: 2})
	return p
}

// withoutCircles returns those of some processes that have no circle.
func withoutCircles(list []impl.Process) []impl.Process {
	return slices.DeleteFunc(slices.Clone(list), wantedCircle)
}

// otherKinds returns a process in which some choices are forks and some merges are joins, and the other way round.
func otherKinds(r *rand.Rand, p impl.Process) impl.Process {
	q := copyProcess(p)
	for i, n := range q.Nodes {
		if n.Kind >= impl.NodeChoice && r.IntN(2) == 0 {
			q.Nodes[i].Kind = []int{impl.NodeFork, impl.NodeChoice, impl.NodeJoin, impl.NodeMerge}[n.Kind-impl.NodeChoice]
		}
	}
	for f, w := range q.Flows {
		if q.Nodes[w.From].Kind != impl.NodeChoice {
			q.Flows[f].When = nil
		}
	}
	return q
}

// crossed returns a process in which some flows have changed the nodes to which they lead, without a circle.
func crossed(r *rand.Rand, p impl.Process) impl.Process {
	for range 6 {
		q := copyProcess(p)
		i, j := r.IntN(len(q.Flows)), r.IntN(len(q.Flows))
		q.Flows[i].To, q.Flows[j].To = q.Flows[j].To, q.Flows[i].To
		if !wantedCircle(q) {
			p = q
		}
	}
	return p
}

// pathProcesses returns the processes without a circle with which paths are tested. Nobody may change them.
var pathProcesses = sync.OnceValue(func() []impl.Process {
	r := newRandom(80)
	list := []impl.Process{line(), tasks(impl.MaxNodes), backwards(), detour(), shortcut(1), shortcut(6), bothTasks(), wideFork(2), wideFork(impl.MaxFlows - 2), twoWays(impl.NodeChoice, impl.NodeMerge)}
	for _, p := range withoutCircles(tokenProcesses()) {
		list = append(list, p, crossed(r, otherKinds(r, p)))
	}
	return list
})

// circleProcesses returns valid processes with a circle; some of them have it where nothing leads to.
func circleProcesses() []impl.Process {
	list := []impl.Process{repeatTask(), lostCircle(), emptyCircle(), nodeCircle(task()), ownCircle(impl.NodeMerge), ownCircle(impl.NodeJoin)}
	for i, p := range someProcesses() {
		if i%10 == 0 && wantedCircle(p) {
			list = append(list, p)
		}
	}
	return list
}

// randomTimes returns a time for each node of a process; often many of them are 0, or at the limit.
func randomTimes(r *rand.Rand, p impl.Process) []int {
	times := make([]int, len(p.Nodes))
	most := []int{0, 1, 3, 20, impl.MaxTime, impl.MaxTime}[r.IntN(6)]
	for i := range times {
		switch r.IntN(4) {
		case 0:
		case 1:
			times[i] = most
		default:
			times[i] = r.IntN(most + 1)
		}
	}
	return times
}

// pathCases returns many processes with times. Nobody may change them.
var pathCases = sync.OnceValue(func() []pathCase {
	r := newRandom(81)
	var list []pathCase
	for _, p := range pathProcesses() {
		for range 2 {
			list = append(list, pathCase{p, randomTimes(r, p)})
		}
	}
	return list
})

// withPaths calls a function with many processes and times, and their EarliestTimes.
func withPaths(t *testing.T, f func(r *rand.Rand, p impl.Process, times []int, begins []int)) {
	t.Helper()
	r := newRandom(82)
	ways, late := 0, 0
	for _, c := range pathCases() {
		begins := impl.EarliestTimes(c.p, c.times)
		if len(begins) != len(c.p.Nodes) {
			t.Fatalf("EarliestTimes(%v, %v) = %v", c.p, c.times, begins)
		}
		f(r, c.p, c.times, begins)
		ways += bit(len(c.p.Flows) >= len(c.p.Nodes))
		late += bit(slices.Max(begins) > 0)
	}
	if min(ways, late) < 1000 {
		t.Errorf("%d processes with ways that meet and %d with times that are not 0 test too little", ways, late)
	}
	wantBadPathsFail(t)
}

// endsOf returns when nodes that begin at some times end.
func endsOf(begins []int, times []int) []int {
	var ends []int
	for i, begin := range begins {
		ends = append(ends, begin+times[i])
	}
	return ends
}

// badTimes returns times that are not valid for a process, each for one reason alone.
func badTimes(p impl.Process) [][]int {
	good := slices.Repeat([]int{7}, len(p.Nodes))
	bad := [][]int{nil, {}, good[1:], append(slices.Clone(good), 0), append(slices.Clone(good), 7), make([]int, 1000)}
	for i := range good {
		for _, n := range []int{math.MinInt, -500, -1, 501, math.MaxInt} {
			bad = append(bad, changed(good, i, n), changed(make([]int, len(good)), i, n))
		}
	}
	return bad
}

// badPaths returns processes with times of which one is not valid, or that have a circle.
func badPaths() []pathCase {
	var list []pathCase
	for _, p := range []impl.Process{line(), detour(), wideFork(2), tasks(impl.MaxNodes)} {
		for _, times := range badTimes(p) {
			list = append(list, pathCase{p, times})
		}
	}
	for _, p := range slices.Concat(badProcesses(), circleProcesses()) {
		many := len(p.Nodes)
		list = append(list, pathCase{p, make([]int, many)}, pathCase{p, slices.Repeat([]int{1}, many)}, pathCase{p, nil})
	}
	return list
}

// wantBadPathsFail fails if a function finds anything for arguments that are not valid.
func wantBadPathsFail(t *testing.T) {
	t.Helper()
	for _, c := range badPaths() {
		wantNoPath(t, c.p, c.times)
	}
}

// wantNoPath fails if a function finds anything for a process with times.
func wantNoPath(t *testing.T, p impl.Process, times []int) {
	t.Helper()
	a, b, c, d := impl.EarliestTimes(p, times), impl.TotalTime(p, times), impl.SlackTimes(p, times), impl.CriticalNodes(p, times)
	if a != nil || b != -1 || c != nil || d != nil {
		t.Errorf("%v with the times %v: EarliestTimes = %v, TotalTime = %d, SlackTimes = %v, CriticalNodes = %v", p, times, a, b, c, d)
	}
}

// wantPath fails if a process with times has another result of one of the functions.
func wantPath(t *testing.T, what string, p impl.Process, times []int, begins []int, total int, slack []int, critical ...int) {
	t.Helper()
	wantList(t, what+": EarliestTimes", impl.EarliestTimes(p, times), begins...)
	if got := impl.TotalTime(p, times); got != total {
		t.Errorf("%s: TotalTime = %d, want %d", what, got, total)
	}
	wantList(t, what+": SlackTimes", impl.SlackTimes(p, times), slack...)
	wantList(t, what+": CriticalNodes", impl.CriticalNodes(p, times), critical...)
}
