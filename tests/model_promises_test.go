package tests

import (
	"slices"
	"testing"

	"loop.example/processengine/impl"
)

func TestPromise8NodesHaveTheirFlows(t *testing.T) {
	for _, p := range someProcesses() {
		for i, n := range p.Nodes {
			if got := len(impl.FlowsOut(p, i)) == 0; got != (n.Kind == impl.NodeEnd) {
				t.Fatalf("%v: FlowsOut of %d is %v", p, i, impl.FlowsOut(p, i))
			}
			if got := len(impl.FlowsIn(p, i)) == 0; got != (n.Kind == impl.NodeStart) {
				t.Fatalf("%v: FlowsIn of %d is %v", p, i, impl.FlowsIn(p, i))
			}
		}
	}
	for kind := impl.NodeStart; kind <= impl.NodeJoin; kind++ {
		for n := range 3 {
			if kind != impl.NodeEnd && impl.ValidProcess(shape(kind, n, 0)) {
				t.Errorf("a node of the kind %d without a flow out of it is valid", kind)
			}
			if kind != impl.NodeStart && impl.ValidProcess(shape(kind, 0, n)) {
				t.Errorf("a node of the kind %d without a flow into it is valid", kind)
			}
		}
	}
}

// wantAllFlows fails if flows of nodes do not ascend, or are not all flows.
func wantAllFlows(t *testing.T, p impl.Process, what func(impl.Process, int) []int, end func(impl.Flow) int) {
	t.Helper()
	var all []int
	for i := range p.Nodes {
		list := what(p, i)
		if !ascends(list) {
			t.Fatalf("%v: flows of %d are %v", p, i, list)
		}
		for _, f := range list {
			if f < 0 || f >= len(p.Flows) || end(p.Flows[f]) != i {
				t.Fatalf("%v: %d is not a flow of %d", p, f, i)
			}
		}
		all = append(all, list...)
	}
	slices.Sort(all)
	if len(all) != len(p.Flows) || !ascends(all) {
		t.Fatalf("%v: flows of all nodes are %v", p, all)
	}
}

func TestPromise9FlowsBeginAtNodes(t *testing.T) {
	for _, p := range someProcesses() {
		wantAllFlows(t, p, impl.FlowsOut, func(f impl.Flow) int { return f.From })
	}
}

func TestPromise10FlowsEndAtNodes(t *testing.T) {
	for _, p := range someProcesses() {
		wantAllFlows(t, p, impl.FlowsIn, func(f impl.Flow) int { return f.To })
	}
}

func TestPromise11WhatFollowsIsReachable(t *testing.T) {
	for _, p := range someProcesses() {
		list := impl.Reachable(p)
		for _, f := range p.Flows {
			if slices.Contains(list, f.From) && !slices.Contains(list, f.To) {
				t.Fatalf("%v: %d is reachable, but %d is not", p, f.From, f.To)
			}
		}
		for i, n := range p.Nodes {
			if n.Kind == impl.NodeStart && !slices.Contains(list, i) {
				t.Fatalf("%v: the start %d is not reachable", p, i)
			}
		}
		if !ascends(list) {
			t.Fatalf("%v: Reachable = %v", p, list)
		}
	}
}

func TestPromise12ReachableNodesHaveReachableNodesBeforeThem(t *testing.T) {
	for _, p := range someProcesses() {
		list := impl.Reachable(p)
		for _, i := range list {
			if p.Nodes[i].Kind == impl.NodeStart {
				continue
			}
			found := false
			for _, f := range p.Flows {
				found = found || f.To == i && slices.Contains(list, f.From)
			}
			if !found {
				t.Fatalf("%v: no flow leads to the reachable node %d", p, i)
			}
		}
	}
	// A node that is reachable from itself alone would keep the sentence above.
	wantList(t, "Reachable beside a circle", impl.Reachable(lostCircle()), 0, 1)
}

func TestPromise124EveryFlowHasTwoEnds(t *testing.T) {
	for _, p := range someProcesses() {
		for f, w := range p.Flows {
			for i := -1; i <= len(p.Nodes); i++ {
				if got := slices.Contains(impl.FlowsOut(p, i), f); got != (w.From == i) {
					t.Fatalf("%v: the flow %d is in FlowsOut of %d: %v", p, f, i, got)
				}
				if got := slices.Contains(impl.FlowsIn(p, i), f); got != (w.To == i) {
					t.Fatalf("%v: the flow %d is in FlowsIn of %d: %v", p, f, i, got)
				}
			}
		}
	}
}

func TestPromise168LinesHaveNoCircles(t *testing.T) {
	for many := range impl.MaxNodes - 1 {
		for _, kind := range []int{impl.NodeTask, impl.NodeTimer, impl.NodeMessage} {
			p := line(slices.Repeat([]int{kind}, many)...)
			if !impl.ValidProcess(p) || impl.HasCircle(p) {
				t.Errorf("a line of %d nodes of the kind %d has a circle", many, kind)
			}
			if got := impl.Reachable(p); len(got) != many+2 || !ascends(got) {
				t.Errorf("Reachable of a line of %d nodes = %v", many+2, got)
			}
			slices.Reverse(p.Flows)
			if impl.HasCircle(p) || len(impl.Reachable(p)) != many+2 {
				t.Errorf("a line of %d nodes, and of flows in reverse order, has a circle or lost nodes", many+2)
			}
		}
	}
}

func TestPromise170ProcessesBeginOnce(t *testing.T) {
	for _, p := range someProcesses() {
		starts := 0
		for _, n := range p.Nodes {
			starts += bit(n.Kind == impl.NodeStart)
		}
		if starts != 1 {
			t.Fatalf("%v has %d starts", p, starts)
		}
		for i := range p.Nodes {
			if q := copyProcess(p); p.Nodes[i].Kind != impl.NodeStart {
				q.Nodes[i] = impl.Node{}
				wantBadProcess(t, q)
			}
		}
		q := copyProcess(p)
		q.Nodes = append(q.Nodes, impl.Node{})
		wantBadProcess(t, q)
	}
	apart := draw([]int{impl.NodeStart, impl.NodeEnd, impl.NodeStart, impl.NodeEnd}, [2]int{0, 1}, [2]int{2, 3})
	meeting := draw([]int{impl.NodeStart, impl.NodeStart, impl.NodeMerge, impl.NodeEnd}, [2]int{0, 2}, [2]int{1, 2}, [2]int{2, 3})
	none := draw([]int{impl.NodeMerge, impl.NodeFork}, [2]int{0, 1}, [2]int{1, 0}, [2]int{1, 0})
	for _, p := range []impl.Process{apart, meeting, none} {
		wantBadProcess(t, p)
	}
}
