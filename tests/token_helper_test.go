package tests

import (
	"math/rand/v2"
	"slices"
	"testing"

	"loop.example/processengine/impl"
)

// blockProcess returns a valid process of blocks that are put into each other,
// most of which are sound, with its nodes and flows in any order.
func blockProcess(r *rand.Rand) impl.Process {
	p := line()
	for range 1 + r.IntN(6) {
		if q := withBlock(r, p); len(q.Nodes) <= impl.MaxNodes && len(q.Flows) <= impl.MaxFlows {
			p = q
		}
	}
	if r.IntN(3) == 0 {
		damage(r, p)
	}
	for i, f := range p.Flows {
		if p.Nodes[f.From].Kind == impl.NodeChoice && r.IntN(3) > 0 {
			p.Flows[i].When = someCondition(r)
		}
	}
	return shuffled(r, p)
}

// someCondition returns a condition that often holds, and often does not.
func someCondition(r *rand.Rand) []impl.Part {
	switch r.IntN(4) {
	case 0:
		return parts(number(r.IntN(2)))
	case 1:
		return parts(variable(r.IntN(impl.Variables)))
	case 2:
		return parts(variable(r.IntN(impl.Variables)), number(0), operator(impl.PartLess))
	}
	return randomCondition(r, 5)
}

// withBlock returns a process with a block in one of its flows.
func withBlock(r *rand.Rand, p impl.Process) impl.Process {
	q := copyProcess(p)
	flow := r.IntN(len(q.Flows))
	to, node := q.Flows[flow].To, len(q.Nodes)
	q.Flows[flow].To = node
	add := func(kind int) { q.Nodes = append(q.Nodes, impl.Node{Kind: kind}) }
	join := func(from, to int) { q.Flows = append(q.Flows, impl.Flow{From: from, To: to}) }
	split := []int{impl.NodeChoice, impl.NodeFork}[r.IntN(2)]
	switch r.IntN(6) {
	case 0, 1:
		add(impl.NodeTask + r.IntN(3))
		if q.Nodes[node].Kind == impl.NodeTimer {
			q.Nodes[node].Value = 1 + r.IntN(impl.MaxWait)
		}
		join(node, to)
	case 2, 3:
		add(split)
		add(split + 2) // the merge of a choice, or the join of a fork
		for range 2 + r.IntN(2) {
			join(node, node+1)
		}
		join(node+1, to)
	case 4:
		add(impl.NodeMerge)
		add(impl.NodeChoice)
		join(node, node+1)
		join(node+1, node)
		join(node+1, to)
	case 5:
		add(split)
		add(impl.NodeEnd)
		join(node, node+1)
		join(node, to)
	}
	return q
}

// damage turns one choice, fork, merge or join of a process into its counterpart.
func damage(r *rand.Rand, p impl.Process) {
	for _, i := range r.Perm(len(p.Nodes)) {
		switch k := p.Nodes[i].Kind; k {
		case impl.NodeChoice, impl.NodeMerge:
			p.Nodes[i].Kind = k + 1
			return
		case impl.NodeFork, impl.NodeJoin:
			p.Nodes[i].Kind = k - 1
			return
		}
	}
}

// shuffled returns a process with its nodes and flows in another order.
func shuffled(r *rand.Rand, p impl.Process) impl.Process {
	q := copyProcess(p)
	place := r.Perm(len(p.Nodes))
	for i, n := range p.Nodes {
		q.Nodes[place[i]] = n
	}
	for i, j := range r.Perm(len(p.Flows)) {
		f := p.Flows[j]
		q.Flows[i] = impl.Flow{From: place[f.From], To: place[f.To], When: slices.Clone(f.When)}
	}
	return q
}

// blockProcesses returns many random processes of blocks.
func blockProcesses() []impl.Process {
	r := newRandom(8)
	var list []impl.Process
	for range 2000 {
		list = append(list, blockProcess(r))
	}
	return list
}

// tokenProcesses returns the processes with which tokens are tested.
func tokenProcesses() []impl.Process {
	return slices.Concat(someProcesses(), blockProcesses(), []impl.Process{
		twoWays(impl.NodeChoice, impl.NodeMerge), twoWays(impl.NodeChoice, impl.NodeJoin),
		twoWays(impl.NodeFork, impl.NodeMerge), twoWays(impl.NodeFork, impl.NodeJoin),
		ownCircle(impl.NodeMerge), ownCircle(impl.NodeJoin), manyStates(2), manyStates(3), manyEnds(),
	})
}

// twoWays returns a process with a node that splits, two tasks, and a node that brings both ways together.
func twoWays(split int, meet int) impl.Process {
	return draw([]int{impl.NodeStart, split, impl.NodeTask, impl.NodeTask, meet, impl.NodeEnd},
		[2]int{0, 1}, [2]int{1, 2}, [2]int{1, 3}, [2]int{2, 4}, [2]int{3, 4}, [2]int{4, 5})
}

// ownCircle returns a process whose only other node has a flow to itself, before that from the start.
func ownCircle(kind int) impl.Process {
	return draw([]int{impl.NodeStart, kind}, [2]int{1, 1}, [2]int{0, 1})
}

// manyStates returns a process with 38 different tokens and one more for each way of its choice.
func manyStates(ways int) impl.Process {
	p := draw([]int{impl.NodeStart, impl.NodeChoice, impl.NodeMerge, impl.NodeFork, impl.NodeEnd, impl.NodeEnd, impl.NodeTask, impl.NodeEnd, impl.NodeTask, impl.NodeEnd},
		[2]int{0, 1}, [2]int{2, 3}, [2]int{3, 4}, [2]int{3, 5}, [2]int{3, 6}, [2]int{6, 7}, [2]int{3, 8}, [2]int{8, 9})
	for range ways {
		p.Flows = append(p.Flows, impl.Flow{From: 1, To: 2})
	}
	return p
}

// manyEnds returns a process with 41 different tokens: a fork whose ways have no, two and three tasks.
func manyEnds() impl.Process {
	return draw([]int{impl.NodeStart, impl.NodeFork, impl.NodeEnd, impl.NodeTask, impl.NodeTask, impl.NodeEnd, impl.NodeTask, impl.NodeTask, impl.NodeTask, impl.NodeEnd},
		[2]int{0, 1}, [2]int{1, 2}, [2]int{1, 3}, [2]int{3, 4}, [2]int{4, 5}, [2]int{1, 6}, [2]int{6, 7}, [2]int{7, 8}, [2]int{8, 9})
}

// randomMarks returns valid tokens of a process; often a flow has none, or as many as it can.
func randomMarks(r *rand.Rand, p impl.Process) []int {
	marks := make([]int, len(p.Flows))
	most := 1 + r.IntN(impl.MaxTokens)
	for i := range marks {
		if r.IntN(2) == 0 {
			marks[i] = r.IntN(most + 1)
		}
	}
	return marks
}

// smallValues returns values of all variables near 0.
func smallValues(r *rand.Rand) []int {
	v := make([]int, impl.Variables)
	for i := range v {
		v[i] = r.IntN(3) - 1
	}
	return v
}

// withTokens calls a function with many valid processes, tokens and values.
func withTokens(t *testing.T, f func(r *rand.Rand, p impl.Process, marks []int, v []int)) {
	t.Helper()
	r := newRandom(9)
	for _, p := range tokenProcesses() {
		f(r, p, impl.FirstMarks(p), smallValues(r))
		for range 3 {
			f(r, p, randomMarks(r, p), smallValues(r))
		}
	}
}

// wantMarks fails if a list has not exactly some tokens, in order.
func wantMarks(t *testing.T, what string, got [][]int, want ...[]int) {
	t.Helper()
	if !slices.EqualFunc(got, want, slices.Equal) {
		t.Errorf("%s = %v, want %v", what, got, want)
	}
}
