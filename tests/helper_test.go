package tests

import (
	"math"
	"math/rand/v2"
	"slices"
	"testing"

	"loop.example/processengine/impl"
)

// extremes are numbers at, next to and far from the limits.
var extremes = []int{math.MinInt, math.MinInt + 1, -10000, -9999, -100, -1, 0, 1, 2, 3, 4, 5, 8, 9, 10, 11, 14, 15, 99, 100, 101, 9999, 10000, math.MaxInt - 1, math.MaxInt}

// newRandom returns numbers that are the same in every run.
func newRandom(seed uint64) *rand.Rand {
	return rand.New(rand.NewPCG(seed, 1))
}

func number(n int) impl.Part { return impl.Part{Kind: impl.PartNumber, Value: n} }

func variable(n int) impl.Part { return impl.Part{Kind: impl.PartVariable, Value: n} }

func operator(kind int) impl.Part { return impl.Part{Kind: kind} }

// parts returns a new condition; no two conditions share memory.
func parts(list ...impl.Part) []impl.Part { return slices.Clone(list) }

// joined returns a new condition that is some conditions, one behind the other.
func joined(list ...[]impl.Part) []impl.Part { return slices.Concat(list...) }

// numbersAndNots returns a condition of so many parts.
func numbersAndNots(many int) []impl.Part {
	c := parts(number(7))
	for len(c) < many {
		c = append(c, operator(impl.PartNot))
	}
	return c
}

// randomCondition returns a valid condition of 1..most parts.
func randomCondition(r *rand.Rand, most int) []impl.Part {
	many := 1 + r.IntN(most)
	var c []impl.Part
	height := 0
	for len(c) < many || height != 1 {
		left := many - len(c)
		if left <= 0 || height > left { // only a part that takes two can come to an end now
			if height < 2 {
				break
			}
			c = append(c, operator(impl.PartAdd+r.IntN(6)))
			height--
			continue
		}
		switch k := r.IntN(9); {
		case k <= impl.PartVariable || height == 0:
			c = append(c, randomLeaf(r))
			height++
		case k == impl.PartNot:
			c = append(c, operator(impl.PartNot))
		case height >= 2:
			c = append(c, operator(k))
			height--
		}
	}
	if len(c) > most {
		return parts(randomLeaf(r))
	}
	return c
}

func randomLeaf(r *rand.Rand) impl.Part {
	if r.IntN(2) == 0 {
		return variable(r.IntN(impl.Variables))
	}
	return number(randomValue(r))
}

// randomValue returns a value, often a small one or a limit.
func randomValue(r *rand.Rand) int {
	switch r.IntN(4) {
	case 0:
		return r.IntN(5) - 2
	case 1:
		return impl.MaxValue - r.IntN(3)
	case 2:
		return r.IntN(3) - impl.MaxValue
	}
	return r.IntN(2*impl.MaxValue+1) - impl.MaxValue
}

func randomValues(r *rand.Rand) []int {
	v := make([]int, impl.Variables)
	for i := range v {
		v[i] = randomValue(r)
	}
	return v
}

// draw returns a process with nodes of some kinds, with the least Value of each, and flows between them.
func draw(kinds []int, flows ...[2]int) impl.Process {
	p := impl.Process{}
	for _, k := range kinds {
		n := impl.Node{Kind: k}
		if k == impl.NodeTimer {
			n.Value = 1
		}
		p.Nodes = append(p.Nodes, n)
	}
	for _, f := range flows {
		p.Flows = append(p.Flows, impl.Flow{From: f[0], To: f[1]})
	}
	return p
}

// line returns a process in which nodes of some kinds follow each other between a start and an end.
func line(kinds ...int) impl.Process {
	all := slices.Concat([]int{impl.NodeStart}, kinds, []int{impl.NodeEnd})
	var flows [][2]int
	for i := 1; i < len(all); i++ {
		flows = append(flows, [2]int{i - 1, i})
	}
	return draw(all, flows...)
}

// repeatTask returns a process that goes back from a choice to a task.
func repeatTask() impl.Process {
	p := draw([]int{impl.NodeStart, impl.NodeMerge, impl.NodeTask, impl.NodeChoice, impl.NodeEnd},
		[2]int{0, 1}, [2]int{1, 2}, [2]int{2, 3}, [2]int{3, 1}, [2]int{3, 4})
	p.Flows[3].When = parts(variable(0))
	return p
}

// bothTasks returns a process with two tasks at once, and flows in no order.
func bothTasks() impl.Process {
	return draw([]int{impl.NodeEnd, impl.NodeJoin, impl.NodeTask, impl.NodeStart, impl.NodeTask, impl.NodeFork},
		[2]int{4, 1}, [2]int{5, 2}, [2]int{1, 0}, [2]int{2, 1}, [2]int{3, 5}, [2]int{5, 4})
}

// lostCircle returns a line beside a task that follows itself, which nothing reaches.
func lostCircle() impl.Process {
	return draw([]int{impl.NodeStart, impl.NodeEnd, impl.NodeTask}, [2]int{0, 1}, [2]int{2, 2})
}

// wideFork returns a process with so many flows from a fork to a join, and two flows more.
func wideFork(many int) impl.Process {
	p := draw([]int{impl.NodeStart, impl.NodeFork, impl.NodeJoin, impl.NodeEnd}, [2]int{0, 1}, [2]int{2, 3})
	for range many {
		p.Flows = append(p.Flows, impl.Flow{From: 1, To: 2})
	}
	return p
}

// tasks returns a process with so many nodes, all but two of which are tasks in a line.
func tasks(many int) impl.Process {
	return line(slices.Repeat([]int{impl.NodeTask}, many-2)...)
}

// randomProcess returns a valid process, in which circles and nodes that cannot be reached are common.
func randomProcess(r *rand.Rand) impl.Process {
	for {
		p, outs, ins := randomNodes(r)
		if len(outs) != len(ins) || len(outs) > impl.MaxFlows {
			continue
		}
		r.Shuffle(len(ins), func(i, j int) { ins[i], ins[j] = ins[j], ins[i] })
		r.Shuffle(len(outs), func(i, j int) { outs[i], outs[j] = outs[j], outs[i] })
		for i := range outs {
			f := impl.Flow{From: outs[i], To: ins[i]}
			if p.Nodes[f.From].Kind == impl.NodeChoice && r.IntN(2) == 0 {
				f.When = randomCondition(r, 5)
			}
			p.Flows = append(p.Flows, f)
		}
		return p
	}
}

// randomNodes returns a process without flows, and the nodes out of which and into which flows have to lead.
func randomNodes(r *rand.Rand) (p impl.Process, outs []int, ins []int) {
	many := 2 + r.IntN(impl.MaxNodes-1)
	start := r.IntN(many)
	for i := range many {
		n := impl.Node{Kind: 1 + r.IntN(8)}
		in, out := 1, 1
		switch {
		case i == start:
			n.Kind, in = impl.NodeStart, 0
		case n.Kind == impl.NodeEnd:
			out = 0
		case n.Kind == impl.NodeTimer:
			n.Value = 1 + r.IntN(impl.MaxWait)
		case n.Kind == impl.NodeMessage:
			n.Value = r.IntN(impl.MaxName + 1)
		case n.Kind == impl.NodeChoice || n.Kind == impl.NodeFork:
			out = 2 + r.IntN(2)
		case n.Kind == impl.NodeMerge || n.Kind == impl.NodeJoin:
			in = 2 + r.IntN(2)
		}
		p.Nodes = append(p.Nodes, n)
		outs = append(outs, slices.Repeat([]int{i}, out)...)
		ins = append(ins, slices.Repeat([]int{i}, in)...)
	}
	return p, outs, ins
}

// someProcesses returns valid processes of all shapes that the tests name, and many random ones.
func someProcesses() []impl.Process {
	list := []impl.Process{line(), line(impl.NodeTask), line(impl.NodeTimer, impl.NodeMessage, impl.NodeTask), repeatTask(), bothTasks(), lostCircle(), wideFork(2), wideFork(impl.MaxFlows - 2), tasks(impl.MaxNodes)}
	r := newRandom(2)
	for range 2000 {
		list = append(list, randomProcess(r))
	}
	return list
}

// badProcesses returns processes that are not valid, most of them for one reason alone.
func badProcesses() []impl.Process {
	noNodes := impl.Process{Flows: []impl.Flow{{From: 0, To: 1}}}
	badEnd := wideFork(2)
	badEnd.Flows = append(badEnd.Flows, impl.Flow{From: 1, To: 4})
	badWhen := line(impl.NodeTask)
	badWhen.Flows[1].When = parts(number(1))
	badChoice := repeatTask()
	badChoice.Flows[3].When = parts(operator(impl.PartNot))
	badValue := line(impl.NodeTask)
	badValue.Nodes[1].Value = 1
	badKind := line(9)
	twoStarts := draw([]int{impl.NodeStart, impl.NodeEnd, impl.NodeStart, impl.NodeEnd}, [2]int{0, 1}, [2]int{2, 3})
	return []impl.Process{{}, noNodes, badEnd, badWhen, badChoice, badValue, badKind, twoStarts, wideFork(impl.MaxFlows - 1), tasks(impl.MaxNodes + 1)}
}

// ascends reports whether each number is greater than the one before it.
func ascends(list []int) bool {
	for i := 1; i < len(list); i++ {
		if list[i] <= list[i-1] {
			return false
		}
	}
	return true
}

// wantList fails if a list has not exactly some numbers, in order.
func wantList(t *testing.T, what string, got []int, want ...int) {
	t.Helper()
	if !slices.Equal(got, want) {
		t.Errorf("%s = %v, want %v", what, got, want)
	}
}
