package tests

import (
	"math"
	"slices"
	"testing"

	"loop.example/processengine/impl"
)

func TestModelConstants(t *testing.T) {
	limits := []int{impl.MaxNodes, impl.MaxFlows, impl.MaxWait, impl.MaxName}
	wantList(t, "limits", limits, 10, 14, 100, 9)
	kinds := []int{impl.NodeStart, impl.NodeEnd, impl.NodeTask, impl.NodeTimer, impl.NodeMessage, impl.NodeChoice, impl.NodeFork, impl.NodeMerge, impl.NodeJoin}
	wantList(t, "kinds", kinds, 0, 1, 2, 3, 4, 5, 6, 7, 8)
}

func TestValidProcessSizes(t *testing.T) {
	for many := 2; many <= 14; many++ {
		if got := impl.ValidProcess(tasks(many)); got != (many <= 10) {
			t.Errorf("ValidProcess of %d nodes = %v", many, got)
		}
	}
	for many := 2; many <= 20; many++ {
		if got := impl.ValidProcess(wideFork(many)); got != (many+2 <= 14) {
			t.Errorf("ValidProcess of %d flows = %v", many+2, got)
		}
	}
	full := wideFork(9) // ten nodes and fourteen flows at once
	for i := range 6 {
		node := len(full.Nodes)
		full.Nodes = append(full.Nodes, impl.Node{Kind: impl.NodeTask})
		if i < 3 {
			full.Flows[2+i].To = node
			full.Flows = append(full.Flows, impl.Flow{From: node, To: 2})
		} else {
			full.Flows[2+i].From = node
			full.Flows[2+i].To = node
		}
	}
	if len(full.Nodes) != 10 || len(full.Flows) != 14 || !impl.ValidProcess(full) {
		t.Errorf("ValidProcess of %d nodes and %d flows = false", len(full.Nodes), len(full.Flows))
	}
	for _, p := range []impl.Process{{}, {Nodes: []impl.Node{}, Flows: []impl.Flow{}}, draw([]int{impl.NodeStart}), draw([]int{impl.NodeStart}, [2]int{0, 0}), draw([]int{impl.NodeStart, impl.NodeEnd}), {Nodes: make([]impl.Node, 100000)}} {
		wantBadProcess(t, p)
	}
}

// wantBadProcess fails if a function gives a process that is not valid any other than its one result.
func wantBadProcess(t *testing.T, p impl.Process) {
	t.Helper()
	if impl.ValidProcess(p) {
		t.Errorf("ValidProcess(%v)", p)
	}
	for node := -1; node <= min(len(p.Nodes), 20); node++ {
		if list := impl.FlowsOut(p, node); len(list) != 0 {
			t.Errorf("FlowsOut(%v, %d) = %v", p, node, list)
		}
		if list := impl.FlowsIn(p, node); len(list) != 0 {
			t.Errorf("FlowsIn(%v, %d) = %v", p, node, list)
		}
	}
	if list := impl.Reachable(p); len(list) != 0 {
		t.Errorf("Reachable(%v) = %v", p, list)
	}
	if impl.HasCircle(p) {
		t.Errorf("HasCircle(%v)", p)
	}
}

func TestInvalidProcesses(t *testing.T) {
	for _, p := range badProcesses() {
		wantBadProcess(t, p)
	}
	circle := repeatTask()
	circle.Nodes[2].Value = 1
	wantBadProcess(t, circle)
}

// shape returns a process with a node of a kind that has so many flows into it and out of it, number 0,
// beside a merge and a fork, which allow any number, and a line, so that all else is valid.
func shape(kind int, in int, out int) impl.Process {
	p := draw([]int{kind, impl.NodeMerge, impl.NodeFork}, [2]int{1, 2}, [2]int{2, 1}, [2]int{2, 1})
	for range in {
		p.Flows = append(p.Flows, impl.Flow{From: 2, To: 0})
	}
	for range out {
		p.Flows = append(p.Flows, impl.Flow{From: 0, To: 1})
	}
	if kind != impl.NodeStart {
		p.Nodes = append(p.Nodes, impl.Node{Kind: impl.NodeStart}, impl.Node{Kind: impl.NodeEnd})
		p.Flows = append(p.Flows, impl.Flow{From: 3, To: 4})
	}
	if kind == impl.NodeTimer {
		p.Nodes[0].Value = 1
	}
	return p
}

func TestFlowsOfEachKind(t *testing.T) {
	for kind := -1; kind <= 9; kind++ {
		for in := range 5 {
			for out := range 5 {
				want := false
				switch kind {
				case impl.NodeStart:
					want = in == 0 && out == 1
				case impl.NodeEnd:
					want = in == 1 && out == 0
				case impl.NodeTask, impl.NodeTimer, impl.NodeMessage:
					want = in == 1 && out == 1
				case impl.NodeChoice, impl.NodeFork:
					want = in == 1 && out >= 2
				case impl.NodeMerge, impl.NodeJoin:
					want = in >= 2 && out == 1
				}
				if got := impl.ValidProcess(shape(kind, in, out)); got != want {
					t.Errorf("ValidProcess with the kind %d, %d flows in and %d out = %v", kind, in, out, got)
				}
			}
		}
	}
}

// degreesOf returns numbers of flows with which a node of a kind is valid.
func degreesOf(kind int) (in int, out int) {
	in, _, out, _ = degrees(kind)
	return in, out
}

func TestValuesOfEachKind(t *testing.T) {
	for kind := impl.NodeStart; kind <= impl.NodeJoin; kind++ {
		in, out := degreesOf(kind)
		for _, n := range extremes {
			p := shape(kind, in, out)
			p.Nodes[0].Value = n
			want := n == 0
			switch kind {
			case impl.NodeTimer:
				want = 1 <= n && n <= 100
			case impl.NodeMessage:
				want = 0 <= n && n <= 9
			}
			if got := impl.ValidProcess(p); got != want {
				t.Errorf("ValidProcess with the kind %d and the value %d = %v", kind, n, got)
			}
		}
	}
	for _, kind := range []int{math.MinInt, -1, 9, 10, math.MaxInt} {
		wantBadProcess(t, shape(kind, 1, 1))
	}
}

func TestConditionsOfFlows(t *testing.T) {
	for kind := impl.NodeStart; kind <= impl.NodeJoin; kind++ {
		in, out := degreesOf(kind)
		p := shape(kind, in, out)
		for i := range p.Flows {
			q := shape(kind, in, out)
			q.Flows[i].When = []impl.Part{}
			if !impl.ValidProcess(q) {
				t.Errorf("kind %d: an empty condition of the flow %d is not valid", kind, i)
			}
			q.Flows[i].When = parts(variable(3))
			if got := impl.ValidProcess(q); got != (kind == impl.NodeChoice && q.Flows[i].From == 0) {
				t.Errorf("kind %d: ValidProcess with a condition of the flow %d = %v", kind, i, got)
			}
		}
	}
	for _, x := range []struct {
		when []impl.Part
		want bool
	}{
		{parts(number(9999)), true}, {parts(number(10000)), false}, {parts(variable(4)), false},
		{parts(number(1), number(2)), false}, {parts(operator(impl.PartNot)), false},
		{numbersAndNots(12), true}, {numbersAndNots(13), false},
	} {
		p := repeatTask()
		p.Flows[4].When = x.when
		if got := impl.ValidProcess(p); got != x.want {
			t.Errorf("ValidProcess with the condition %v = %v", x.when, got)
		}
	}
	p := repeatTask()
	p.Flows[3].When = nil
	if !impl.ValidProcess(p) {
		t.Error("a choice without conditions is not valid")
	}
}

func TestFlowsHaveNodesAsEnds(t *testing.T) {
	base := wideFork(2) // a flow more out of the fork 1 and into the join 2 does no harm
	for _, n := range extremes {
		p := wideFork(2)
		p.Flows = append(p.Flows, impl.Flow{From: n, To: 2})
		if got := impl.ValidProcess(p); got != (n == 1) {
			t.Errorf("ValidProcess with a flow from %d to a join = %v", n, got)
		}
		p = wideFork(2)
		p.Flows = append(p.Flows, impl.Flow{From: 1, To: n})
		if got := impl.ValidProcess(p); got != (n == 2) {
			t.Errorf("ValidProcess with a flow from a fork to %d = %v", n, got)
		}
		p = wideFork(2)
		p.Flows = append(p.Flows, impl.Flow{From: n, To: n})
		if impl.ValidProcess(p) {
			t.Errorf("ValidProcess with a flow from %d to itself", n)
		}
	}
	for _, n := range []int{-1, len(base.Nodes)} {
		p := wideFork(2)
		p.Flows = append(p.Flows, impl.Flow{From: 1, To: n})
		wantBadProcess(t, p)
		p = wideFork(2)
		p.Flows = append(p.Flows, impl.Flow{From: n, To: 2})
		wantBadProcess(t, p)
	}
}

func TestFlowsOfNodes(t *testing.T) {
	p := bothTasks()
	outs := [][]int{{}, {2}, {3}, {4}, {0}, {1, 5}}
	ins := [][]int{{2}, {0, 3}, {1}, {}, {5}, {4}}
	for i := range p.Nodes {
		wantList(t, "FlowsOut", impl.FlowsOut(p, i), outs[i]...)
		wantList(t, "FlowsIn", impl.FlowsIn(p, i), ins[i]...)
	}
	for _, p := range []impl.Process{line(), bothTasks(), wideFork(12), tasks(10)} {
		for _, n := range extremes {
			if 0 <= n && n < len(p.Nodes) {
				continue
			}
			wantList(t, "FlowsOut of no node", impl.FlowsOut(p, n))
			wantList(t, "FlowsIn of no node", impl.FlowsIn(p, n))
		}
	}
	wantList(t, "FlowsOut of a wide fork", impl.FlowsOut(wideFork(12), 1), 2, 3, 4, 5, 6, 7, 8, 9, 10, 11, 12, 13)
	wantList(t, "FlowsIn of a wide join", impl.FlowsIn(wideFork(12), 2), 2, 3, 4, 5, 6, 7, 8, 9, 10, 11, 12, 13)
	wantList(t, "FlowsOut of a task that follows itself", impl.FlowsOut(lostCircle(), 2), 1)
	wantList(t, "FlowsIn of a task that follows itself", impl.FlowsIn(lostCircle(), 2), 1)
}

func TestReachableNodes(t *testing.T) {
	wantList(t, "Reachable of a line", impl.Reachable(line()), 0, 1)
	wantList(t, "Reachable of two tasks", impl.Reachable(bothTasks()), 0, 1, 2, 3, 4, 5)
	wantList(t, "Reachable of a circle", impl.Reachable(repeatTask()), 0, 1, 2, 3, 4)
	wantList(t, "Reachable beside a circle", impl.Reachable(lostCircle()), 0, 1)
	late := draw([]int{impl.NodeTask, impl.NodeTask, impl.NodeStart, impl.NodeEnd}, [2]int{2, 3}, [2]int{0, 1}, [2]int{1, 0})
	wantList(t, "Reachable of a late start", impl.Reachable(late), 2, 3)
	into := draw([]int{impl.NodeMerge, impl.NodeFork, impl.NodeStart, impl.NodeJoin, impl.NodeEnd}, [2]int{0, 1}, [2]int{1, 0}, [2]int{1, 0}, [2]int{1, 3}, [2]int{2, 3}, [2]int{3, 4})
	wantList(t, "Reachable with nodes before them", impl.Reachable(into), 2, 3, 4)
	own := draw([]int{impl.NodeStart, impl.NodeMerge}, [2]int{0, 1}, [2]int{1, 1})
	wantList(t, "Reachable of a merge that follows itself", impl.Reachable(own), 0, 1)
	never := repeatTask()
	never.Flows[4].When = parts(number(0))
	wantList(t, "Reachable with a condition that never holds", impl.Reachable(never), 0, 1, 2, 3, 4)
}

func TestCircles(t *testing.T) {
	twice := draw([]int{impl.NodeStart, impl.NodeTask, impl.NodeTask, impl.NodeEnd}, [2]int{0, 3}, [2]int{1, 2}, [2]int{2, 1})
	own := draw([]int{impl.NodeStart, impl.NodeMerge}, [2]int{0, 1}, [2]int{1, 1})
	for _, p := range []impl.Process{repeatTask(), lostCircle(), twice, own, shape(impl.NodeStart, 0, 1)} {
		if !impl.HasCircle(p) {
			t.Errorf("HasCircle(%v) = false", p)
		}
	}
	for _, p := range []impl.Process{line(), tasks(10), bothTasks(), wideFork(2), wideFork(12), backwards()} {
		if !impl.ValidProcess(p) || impl.HasCircle(p) {
			t.Errorf("HasCircle(%v) = true", p)
		}
	}
}

// backwards returns a process whose flows lead to lesser nodes, and meet without a circle.
func backwards() impl.Process {
	return draw([]int{impl.NodeEnd, impl.NodeMerge, impl.NodeMerge, impl.NodeChoice, impl.NodeFork, impl.NodeStart},
		[2]int{5, 4}, [2]int{4, 3}, [2]int{4, 2}, [2]int{3, 2}, [2]int{3, 1}, [2]int{2, 1}, [2]int{1, 0})
}

func TestRandomProcesses(t *testing.T) {
	circles := 0
	for _, p := range someProcesses() {
		if !impl.ValidProcess(p) {
			t.Fatalf("ValidProcess(%v) = false", p)
		}
		compareProcess(t, p)
		circles += bit(impl.HasCircle(p))
	}
	if circles < 100 || circles > 1900 {
		t.Errorf("%d processes with circles test too little", circles)
	}
}

// TestChangedProcesses compares processes with one change, valid or not, with what they have to be.
func TestChangedProcesses(t *testing.T) {
	r := newRandom(5)
	valid := 0
	for _, p := range someProcesses() {
		switch i := r.IntN(len(p.Flows)); r.IntN(6) {
		case 0:
			p.Nodes[r.IntN(len(p.Nodes))].Kind = r.IntN(11) - 1
		case 1:
			p.Nodes[r.IntN(len(p.Nodes))].Value = extremes[r.IntN(len(extremes))]
		case 2:
			p.Flows[i].From = r.IntN(len(p.Nodes)+2) - 1
		case 3:
			j := r.IntN(len(p.Flows))
			p.Flows[i].To, p.Flows[j].To = p.Flows[j].To, p.Flows[i].To
		case 4:
			p.Flows[i].When = randomCondition(r, impl.MaxParts)
		case 5:
			p.Flows = slices.Delete(p.Flows, i, i+1)
		}
		valid += bit(impl.ValidProcess(p))
		compareProcess(t, p)
	}
	if valid < 100 || valid > 1900 {
		t.Errorf("%d valid processes test too little", valid)
	}
}

func compareProcess(t *testing.T, p impl.Process) {
	t.Helper()
	_, want := wantedProcess(p)
	if got := impl.ValidProcess(p); got != want {
		t.Fatalf("ValidProcess(%v) = %v", p, got)
	}
	for i := -1; i <= len(p.Nodes); i++ {
		var outs, ins []int
		if 0 <= i && i < len(p.Nodes) {
			outs = wantedFlows(p, i, func(f impl.Flow) int { return f.From })
			ins = wantedFlows(p, i, func(f impl.Flow) int { return f.To })
		}
		if got := impl.FlowsOut(p, i); !slices.Equal(got, outs) {
			t.Fatalf("FlowsOut(%v, %d) = %v, want %v", p, i, got, outs)
		}
		if got := impl.FlowsIn(p, i); !slices.Equal(got, ins) {
			t.Fatalf("FlowsIn(%v, %d) = %v, want %v", p, i, got, ins)
		}
	}
	if got, want := impl.Reachable(p), wantedReachable(p); !slices.Equal(got, want) {
		t.Fatalf("Reachable(%v) = %v, want %v", p, got, want)
	}
	if got, want := impl.HasCircle(p), wantedCircle(p); got != want {
		t.Fatalf("HasCircle(%v) = %v", p, got)
	}
}
