package tests

import (
	"math/rand/v2"
	"slices"
	"sync"
	"testing"

	"loop.example/processengine/impl"
)

// atOnce returns a process with some nodes of the same fork before the same join.
// They have the numbers 2.. and the flows 1.. into them, and the join and the end come behind them.
func atOnce(nodes ...impl.Node) impl.Process {
	p := draw([]int{impl.NodeStart, impl.NodeFork}, [2]int{0, 1})
	join := 2 + len(nodes)
	for i := range nodes {
		p.Flows = append(p.Flows, impl.Flow{From: 1, To: 2 + i})
	}
	for i := range nodes {
		p.Flows = append(p.Flows, impl.Flow{From: 2 + i, To: join})
	}
	p.Nodes = append(p.Nodes, nodes...)
	p.Nodes = append(p.Nodes, impl.Node{Kind: impl.NodeJoin}, impl.Node{Kind: impl.NodeEnd})
	p.Flows = append(p.Flows, impl.Flow{From: join, To: join + 1})
	return p
}

func task() impl.Node { return impl.Node{Kind: impl.NodeTask} }

func timer(wait int) impl.Node { return impl.Node{Kind: impl.NodeTimer, Value: wait} }

func message(name int) impl.Node { return impl.Node{Kind: impl.NodeMessage, Value: name} }

// lineOf returns a process in which some nodes follow each other between a start and an end.
func lineOf(nodes ...impl.Node) impl.Process {
	var kinds []int
	for _, n := range nodes {
		kinds = append(kinds, n.Kind)
	}
	p := line(kinds...)
	copy(p.Nodes[1:], nodes)
	return p
}

// nodeCircle returns a process in which a node, number 2, comes again and again.
func nodeCircle(n impl.Node) impl.Process {
	p := draw([]int{impl.NodeStart, impl.NodeMerge, impl.NodeTask}, [2]int{0, 1}, [2]int{1, 2}, [2]int{2, 1})
	p.Nodes[2] = n
	return p
}

// emptyCircle returns a process that goes back from a choice to a merge if the variable 0 is not 0.
func emptyCircle() impl.Process {
	p := draw([]int{impl.NodeStart, impl.NodeMerge, impl.NodeChoice, impl.NodeEnd}, [2]int{0, 1}, [2]int{1, 2}, [2]int{2, 1}, [2]int{2, 3})
	p.Flows[2].When = parts(variable(0))
	return p
}

// severalAt returns a process with so many tokens at a node, number 3, before which is the flow 1.
func severalAt(n impl.Node, many int) impl.Process {
	p := draw([]int{impl.NodeStart, impl.NodeFork, impl.NodeMerge, impl.NodeTask, impl.NodeEnd}, [2]int{0, 1}, [2]int{2, 3}, [2]int{3, 4})
	p.Nodes[3] = n
	for range many {
		p.Flows = append(p.Flows, impl.Flow{From: 1, To: 2})
	}
	return p
}

// longWay returns a process in which 29, 30 or 31 steps lie between the node 9 and the end: three forks,
// each with a merge, make eight tokens of one. Nodes nearer to the end have smaller numbers, so that a token
// has gone all its way before the next one follows. A choice lies before the first fork, for 30 steps, or before the second one, for 31.
func longWay(n impl.Node, steps int) impl.Process {
	p := draw([]int{impl.NodeEnd, impl.NodeMerge, impl.NodeFork, impl.NodeMerge, impl.NodeFork, impl.NodeMerge, impl.NodeFork, impl.NodeChoice, impl.NodeStart, impl.NodeTask},
		[2]int{8, 9}, [2]int{6, 5}, [2]int{6, 5}, [2]int{4, 3}, [2]int{4, 3}, [2]int{2, 1}, [2]int{2, 1}, [2]int{1, 0}, [2]int{3, 2})
	p.Nodes[9] = n
	switch steps {
	case 29: // without the choice
		p.Flows = append(p.Flows, impl.Flow{From: 9, To: 6}, impl.Flow{From: 5, To: 4})
		p.Nodes = slices.Delete(p.Nodes, 7, 8)
		for i, f := range p.Flows {
			p.Flows[i] = impl.Flow{From: f.From - bit(f.From > 7), To: f.To - bit(f.To > 7)}
		}
	case 30:
		p.Flows = append(p.Flows, impl.Flow{From: 9, To: 7}, impl.Flow{From: 7, To: 6}, impl.Flow{From: 7, To: 5}, impl.Flow{From: 5, To: 4})
	case 31:
		p.Flows = append(p.Flows, impl.Flow{From: 9, To: 6}, impl.Flow{From: 5, To: 7}, impl.Flow{From: 7, To: 4}, impl.Flow{From: 7, To: 3})
	}
	return p
}

// withoutNode returns a process in which the node 9 is left out, so that its steps lie directly behind the start.
func withoutNode(p impl.Process) impl.Process {
	q := copyProcess(p)
	last := len(q.Nodes) - 1
	q.Nodes = q.Nodes[:last]
	to := 0
	q.Flows = slices.DeleteFunc(q.Flows, func(f impl.Flow) bool {
		if f.From == last {
			to = f.To
		}
		return f.From == last
	})
	q.Flows[0].To = to
	return q
}

// upsideDown returns a process with its nodes in reverse order.
func upsideDown(p impl.Process) impl.Process {
	q := copyProcess(p)
	slices.Reverse(q.Nodes)
	last := len(q.Nodes) - 1
	for i, f := range q.Flows {
		q.Flows[i].From, q.Flows[i].To = last-f.From, last-f.To
	}
	return q
}

// runProcesses returns the processes with which instances are tested.
func runProcesses() []impl.Process {
	list := []impl.Process{
		atOnce(task(), timer(5)), atOnce(timer(5), timer(3), timer(5)), atOnce(message(3), message(3)), atOnce(task(), message(3), task()),
		lineOf(timer(5), timer(3)), lineOf(task(), timer(100)), lineOf(message(3), message(3)),
		nodeCircle(timer(1)), nodeCircle(timer(2)), nodeCircle(task()), nodeCircle(message(0)), emptyCircle(),
		severalAt(timer(5), 2), severalAt(timer(5), 3), severalAt(timer(5), 4), severalAt(task(), 3), severalAt(message(9), 3),
	}
	for _, steps := range []int{29, 30, 31} {
		p := longWay(task(), steps)
		list = append(list, p, longWay(timer(1), steps), longWay(message(1), steps), withoutNode(p), upsideDown(p))
	}
	for i, p := range tokenProcesses() {
		if i%6 == 0 {
			list = append(list, p)
		}
	}
	r := newRandom(16)
	for range 1200 {
		list = append(list, waitingProcess(r))
	}
	return list
}

// waitingProcess returns a valid process of blocks with as many tasks, timers and messages in its flows as it can have.
func waitingProcess(r *rand.Rand) impl.Process {
	p := line()
	for range r.IntN(4) {
		if q := withBlock(r, p); len(q.Nodes) < impl.MaxNodes && len(q.Flows) < impl.MaxFlows {
			p = q
		}
	}
	if r.IntN(4) == 0 {
		damage(r, p)
	}
	for i, f := range p.Flows {
		if p.Nodes[f.From].Kind == impl.NodeChoice && r.IntN(3) == 0 {
			p.Flows[i].When = someCondition(r)
		}
	}
	for len(p.Nodes) < impl.MaxNodes && len(p.Flows) < impl.MaxFlows {
		flow, node := r.IntN(len(p.Flows)), len(p.Nodes)
		p.Nodes = append(p.Nodes, []impl.Node{task(), timer(1 + r.IntN(6)), message(r.IntN(3))}[r.IntN(3)])
		p.Flows = append(p.Flows, impl.Flow{From: node, To: p.Flows[flow].To})
		p.Flows[flow].To = node
	}
	return shuffled(r, p)
}

// randomInstance returns a valid instance of a process, with any tokens that wait and any timers for them.
func randomInstance(r *rand.Rand, p impl.Process) impl.Instance {
	clocks := []int{0, 1, r.IntN(30), impl.MaxClock - r.IntN(3), impl.MaxClock - r.IntN(130), r.IntN(impl.MaxClock + 1)}
	x := impl.Instance{Marks: randomMarks(r, p), Values: smallValues(r), Clock: clocks[r.IntN(len(clocks))]}
	spread := []int{2, 8, impl.MaxClock + impl.MaxWait}[r.IntN(3)]
	empty := map[int]bool{} // whether a join has a flow without a token
	for f, w := range p.Flows {
		switch p.Nodes[w.To].Kind {
		case impl.NodeTask, impl.NodeMessage:
		case impl.NodeTimer:
			for range x.Marks[f] {
				due := x.Clock + 1 + r.IntN(min(spread, impl.MaxClock+impl.MaxWait-x.Clock))
				x.Timers = append(x.Timers, impl.Timer{Node: w.To, Due: due})
			}
		case impl.NodeJoin:
			empty[w.To] = empty[w.To] || x.Marks[f] == 0
		default:
			x.Marks[f] = 0
		}
	}
	for f, w := range p.Flows {
		if p.Nodes[w.To].Kind == impl.NodeJoin && !empty[w.To] {
			x.Marks[f] = 0
			empty[w.To] = true
		}
	}
	sortTimers(x.Timers)
	return x
}

// sortTimers puts timers into the order in which they are due.
func sortTimers(list []impl.Timer) {
	slices.SortFunc(list, func(a impl.Timer, b impl.Timer) int {
		if a.Due != b.Due {
			return a.Due - b.Due
		}
		return a.Node - b.Node
	})
}

// randomSets returns at most so many values to set.
func randomSets(r *rand.Rand, most int) []impl.Set {
	var list []impl.Set
	for range r.IntN(most + 1) {
		list = append(list, impl.Set{Variable: r.IntN(impl.Variables), Value: r.IntN(3) - 1})
	}
	return list
}

// randomGoing returns an instance after something that can happen to it; false if it has failed, or nothing can.
func randomGoing(r *rand.Rand, p impl.Process, x impl.Instance) (impl.Instance, bool) {
	open, due := impl.OpenTasks(p, x), impl.NextDue(p, x)
	switch k := r.IntN(3); {
	case k == 0 && len(open) > 0:
		return impl.CompleteTask(p, x, open[r.IntN(len(open))], randomSets(r, impl.MaxSets))
	case k == 1 && due >= 0:
		return impl.AdvanceClock(p, x, min(due+r.IntN(20), impl.MaxClock))
	}
	for _, n := range p.Nodes {
		if n.Kind == impl.NodeMessage {
			if y, ok := impl.DeliverMessage(p, x, n.Value); ok {
				return y, true
			}
		}
	}
	return x, false
}

// runCase is a valid process with a valid instance.
type runCase struct {
	p impl.Process
	x impl.Instance
}

// runCases returns many valid instances: at the start, after something has happened, and others. Nobody may change them.
var runCases = sync.OnceValue(func() []runCase {
	r := newRandom(13)
	var list []runCase
	for _, p := range runProcesses() {
		for range 2 {
			list = append(list, runCase{p, randomInstance(r, p)})
		}
		x, ok := impl.StartInstance(p, smallValues(r))
		if ok {
			list = append(list, runCase{p, x})
		}
		for range 12 {
			if y, ok := randomGoing(r, p, x); ok {
				x = y
				list = append(list, runCase{p, x})
			}
		}
	}
	return list
})

// withInstances calls a function with many valid instances.
func withInstances(t *testing.T, f func(r *rand.Rand, p impl.Process, x impl.Instance)) {
	t.Helper()
	r := newRandom(14)
	waiting := 0
	for _, c := range runCases() {
		f(r, c.p, c.x)
		waiting += bit(sumOf(c.x.Marks) > 0)
	}
	if waiting < 1000 {
		t.Errorf("%d instances with tokens test too little", waiting)
	}
}

// copyInstance returns an instance that shares no memory with another one.
func copyInstance(x impl.Instance) impl.Instance {
	return impl.Instance{Marks: slices.Clone(x.Marks), Values: slices.Clone(x.Values), Clock: x.Clock, Timers: slices.Clone(x.Timers)}
}

// alteredInstance returns an instance with one thing changed, so that often it is not valid any more.
func alteredInstance(r *rand.Rand, x impl.Instance) impl.Instance {
	y := copyInstance(x)
	some := func(list []int) int { return r.IntN(len(list)) }
	timers := len(y.Timers)
	switch k := r.IntN(9); {
	case k == 0:
		y.Marks[some(y.Marks)] += r.IntN(3) - 1
	case k == 1:
		y.Values[some(y.Values)] = extremes[some(extremes)]
	case k == 2:
		y.Clock = extremes[some(extremes)]
	case k == 3:
		y.Timers = append(y.Timers, impl.Timer{Node: r.IntN(11), Due: x.Clock + r.IntN(100)})
		sortTimers(y.Timers)
	case timers == 0:
		y.Clock += r.IntN(3) - 1
	case k == 4:
		y.Timers[r.IntN(timers)].Due = extremes[some(extremes)]
	case k == 5:
		y.Timers[r.IntN(timers)].Node = anyNumber(r)
	case k == 6:
		i := r.IntN(timers)
		y.Timers = slices.Delete(y.Timers, i, i+1)
	case k == 7:
		r.Shuffle(timers, func(i, j int) { y.Timers[i], y.Timers[j] = y.Timers[j], y.Timers[i] })
	default:
		y.Clock = y.Timers[0].Due - 1 + r.IntN(2)
	}
	return y
}

// wantInstance fails if a call has not succeeded, or its instance is another one.
func wantInstance(t *testing.T, what string, got impl.Instance, ok bool, want impl.Instance) {
	t.Helper()
	if !ok || !sameInstance(got, want) {
		t.Errorf("%s: %v, %v, want %v", what, got, ok, want)
	}
}

// wantFailed fails if a call has succeeded, or its instance is not the zero value.
func wantFailed(t *testing.T, what string, got impl.Instance, ok bool) {
	t.Helper()
	if ok || got.Marks != nil || got.Values != nil || got.Clock != 0 || got.Timers != nil {
		t.Errorf("%s: %v, %v, want no instance", what, got, ok)
	}
}

// startOf returns the instance with which a process begins; the test fails if there is none.
func startOf(t *testing.T, p impl.Process, v ...int) impl.Instance {
	t.Helper()
	if v == nil {
		v = zeros
	}
	x, ok := impl.StartInstance(p, v)
	if !ok {
		t.Fatalf("%v: StartInstance with %v fails", p, v)
	}
	return x
}
