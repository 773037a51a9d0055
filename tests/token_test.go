package tests

import (
	"math"
	"math/rand/v2"
	"slices"
	"testing"

	"loop.example/processengine/impl"
)

func TestTokenConstants(t *testing.T) {
	wantList(t, "limits", []int{impl.MaxTokens, impl.MaxStates}, 3, 40)
}

func TestFirstMarks(t *testing.T) {
	wantList(t, "FirstMarks of a line", impl.FirstMarks(line()), 1)
	wantList(t, "FirstMarks of a task", impl.FirstMarks(line(impl.NodeTask)), 1, 0)
	wantList(t, "FirstMarks of flows in no order", impl.FirstMarks(bothTasks()), 0, 0, 0, 0, 1, 0)
	wantList(t, "FirstMarks of a wide fork", impl.FirstMarks(wideFork(12)), 1, 0, 0, 0, 0, 0, 0, 0, 0, 0, 0, 0, 0, 0)
	wantList(t, "FirstMarks beside a circle", impl.FirstMarks(lostCircle()), 1, 0)
	wantList(t, "FirstMarks of a merge that follows itself", impl.FirstMarks(ownCircle(impl.NodeMerge)), 0, 1)
}

func TestReadyNodes(t *testing.T) {
	p := bothTasks() // fork 5 by the flows 1 and 5 to the tasks 2 and 4, by the flows 3 and 0 to the join 1
	for _, x := range []struct {
		marks []int
		want  []int
	}{
		{[]int{0, 0, 0, 0, 0, 0}, nil},
		{[]int{0, 0, 0, 0, 1, 0}, []int{5}},
		{[]int{0, 1, 0, 0, 0, 1}, []int{2, 4}},
		{[]int{1, 0, 0, 0, 0, 0}, nil},
		{[]int{3, 0, 0, 0, 0, 0}, nil},
		{[]int{0, 0, 0, 3, 0, 0}, nil},
		{[]int{1, 0, 0, 1, 0, 0}, []int{1}},
		{[]int{3, 0, 0, 1, 0, 0}, []int{1}},
		{[]int{0, 0, 1, 0, 0, 0}, []int{0}},
		{[]int{3, 3, 3, 3, 3, 3}, []int{0, 1, 2, 4, 5}},
	} {
		wantList(t, "ReadyNodes of two tasks", impl.ReadyNodes(p, x.marks), x.want...)
	}
	merge := twoWays(impl.NodeChoice, impl.NodeMerge)
	wantList(t, "ReadyNodes of a merge with its first flow", impl.ReadyNodes(merge, []int{0, 0, 0, 1, 0, 0}), 4)
	wantList(t, "ReadyNodes of a merge with its second flow", impl.ReadyNodes(merge, []int{0, 0, 0, 0, 2, 0}), 4)
	wantList(t, "ReadyNodes of a merge with both flows", impl.ReadyNodes(merge, []int{0, 0, 0, 1, 1, 0}), 4)
	wide := wideFork(12)
	marks := slices.Repeat([]int{1}, 14)
	wantList(t, "ReadyNodes of a wide join", impl.ReadyNodes(wide, marks), 1, 2, 3)
	marks[13] = 0
	wantList(t, "ReadyNodes of a wide join without its last flow", impl.ReadyNodes(wide, marks), 1, 3)
	wantList(t, "ReadyNodes of a task that nothing reaches", impl.ReadyNodes(lostCircle(), []int{0, 1}), 2)
	wantList(t, "ReadyNodes of a join that waits for itself", impl.ReadyNodes(ownCircle(impl.NodeJoin), []int{0, 1}))
}

// conditionedChoice returns a choice, node 1, between ends, with some conditions in order.
func conditionedChoice(list ...[]impl.Part) impl.Process {
	p := draw([]int{impl.NodeStart, impl.NodeChoice}, [2]int{0, 1})
	for _, when := range list {
		p.Flows = append(p.Flows, impl.Flow{From: 1, To: len(p.Nodes), When: when})
		p.Nodes = append(p.Nodes, impl.Node{Kind: impl.NodeEnd})
	}
	return p
}

func TestChooseFlow(t *testing.T) {
	yes, no, minus, first := parts(number(1)), parts(number(0)), parts(number(-1)), parts(variable(0))
	v := []int{0, 1, 1, 1}
	for i, x := range []struct {
		list [][]impl.Part
		want int
	}{
		{[][]impl.Part{yes, yes}, 1},
		{[][]impl.Part{no, yes}, 2},
		{[][]impl.Part{no, minus}, 2},
		{[][]impl.Part{no, no}, -1},
		{[][]impl.Part{nil, yes}, 2},
		{[][]impl.Part{nil, no}, 1},
		{[][]impl.Part{nil, nil}, 1},
		{[][]impl.Part{no, nil, nil}, 2},
		{[][]impl.Part{no, {}, {}}, 2},
		{[][]impl.Part{nil, nil, no, yes, yes}, 4},
		{[][]impl.Part{no, nil, no, nil}, 2},
		{[][]impl.Part{first, first}, -1},
		{[][]impl.Part{first, nil, first}, 2},
		{[][]impl.Part{first, parts(variable(3)), first}, 2},
	} {
		if got := impl.ChooseFlow(conditionedChoice(x.list...), 1, v); got != x.want {
			t.Errorf("ChooseFlow of the choice %d = %d, want %d", i, got, x.want)
		}
	}
	p := conditionedChoice(first, nil)
	if a, b := impl.ChooseFlow(p, 1, []int{-9999, 0, 0, 0}), impl.ChooseFlow(p, 1, []int{0, 9999, 9999, 9999}); a != 1 || b != 2 {
		t.Errorf("ChooseFlow with and without the variable = %d, %d", a, b)
	}
	slices.Reverse(p.Flows)
	if a, b := impl.ChooseFlow(p, 1, []int{5, 0, 0, 0}), impl.ChooseFlow(p, 1, zeros); a != 1 || b != 0 {
		t.Errorf("ChooseFlow of flows in reverse order = %d, %d", a, b)
	}
}

func TestChooseFlowOfOtherArguments(t *testing.T) {
	for _, p := range []impl.Process{bothTasks(), repeatTask(), lostCircle(), twoWays(impl.NodeChoice, impl.NodeMerge), shape(impl.NodeTimer, 1, 1)} {
		for _, node := range extremes {
			isChoice := 0 <= node && node < len(p.Nodes) && p.Nodes[node].Kind == impl.NodeChoice
			if got := impl.ChooseFlow(p, node, zeros); (got >= 0) != isChoice || got < -1 {
				t.Errorf("ChooseFlow of the node %d of %v = %d", node, p, got)
			}
		}
	}
	p := conditionedChoice(parts(number(1)), nil)
	rest := conditionedChoice(nil, nil)
	for _, v := range badValues() {
		if a, b := impl.ChooseFlow(p, 1, v), impl.ChooseFlow(rest, 1, v); a != -1 || b != -1 {
			t.Errorf("ChooseFlow with the values %v = %d, %d", v, a, b)
		}
	}
	for _, n := range []int{-9999, 9999} {
		if got := impl.ChooseFlow(p, 1, []int{n, n, n, n}); got != 1 {
			t.Errorf("ChooseFlow with values %d = %d", n, got)
		}
	}
}

// badValues returns lists that are not values of all variables.
func badValues() [][]int {
	list := [][]int{nil, {}, {1}, {1, 2, 3}, {1, 2, 3, 4, 5}, make([]int, 100000)}
	for i := range impl.Variables {
		for _, n := range []int{math.MinInt, -10000, 10000, math.MaxInt} {
			v := []int{1, 1, 1, 1}
			v[i] = n
			list = append(list, v)
		}
	}
	return list
}

// wantFire fails if a node does not lead from some tokens to others; no tokens mean that it fails.
func wantFire(t *testing.T, what string, p impl.Process, marks []int, node int, v []int, want []int) {
	t.Helper()
	got, ok := impl.FireNode(p, marks, node, v)
	if !slices.Equal(got, want) || ok != (want != nil) {
		t.Errorf("%s: FireNode of %v = %v, %v, want %v", what, marks, got, ok, want)
	}
}

func TestFireNode(t *testing.T) {
	p := bothTasks()
	wantFire(t, "a fork", p, []int{0, 0, 0, 0, 1, 0}, 5, zeros, []int{0, 1, 0, 0, 0, 1})
	wantFire(t, "a fork with two tokens", p, []int{0, 2, 0, 0, 2, 1}, 5, zeros, []int{0, 3, 0, 0, 1, 2})
	wantFire(t, "a task", p, []int{0, 1, 0, 0, 0, 1}, 2, zeros, []int{0, 0, 0, 1, 0, 1})
	wantFire(t, "a join", p, []int{1, 0, 0, 1, 0, 0}, 1, zeros, []int{0, 0, 1, 0, 0, 0})
	wantFire(t, "a join with more tokens", p, []int{3, 0, 2, 1, 0, 0}, 1, zeros, []int{2, 0, 3, 0, 0, 0})
	wantFire(t, "an end", p, []int{0, 0, 3, 0, 0, 0}, 0, zeros, []int{0, 0, 2, 0, 0, 0})
	wantFire(t, "the last end", line(), []int{1}, 1, zeros, []int{0})
	merge := twoWays(impl.NodeChoice, impl.NodeMerge)
	wantFire(t, "a merge with both flows", merge, []int{0, 0, 0, 2, 1, 0}, 4, zeros, []int{0, 0, 0, 1, 1, 1})
	wantFire(t, "a merge with its second flow", merge, []int{0, 0, 0, 0, 2, 0}, 4, zeros, []int{0, 0, 0, 0, 1, 1})
	wantFire(t, "a choice without conditions", merge, []int{2, 0, 1, 0, 0, 0}, 1, zeros, []int{1, 1, 1, 0, 0, 0})
	wantFire(t, "a timer", line(impl.NodeTimer), []int{1, 2}, 1, zeros, []int{0, 3})
	wantFire(t, "a message", line(impl.NodeMessage), []int{3, 0}, 1, zeros, []int{2, 1})
	repeat := repeatTask()
	wantFire(t, "a choice whose condition holds", repeat, []int{0, 0, 1, 0, 0}, 3, []int{-1, 0, 0, 0}, []int{0, 0, 0, 1, 0})
	wantFire(t, "a choice whose condition does not hold", repeat, []int{0, 0, 1, 0, 0}, 3, []int{0, 1, 1, 1}, []int{0, 0, 0, 0, 1})
	many := conditionedChoice(nil, nil, parts(variable(0)), parts(variable(1)))
	wantFire(t, "a choice of many", many, []int{1, 0, 0, 0, 0}, 1, []int{0, 2, 0, 0}, []int{0, 0, 0, 0, 1})
	wantFire(t, "a choice of the rest", many, []int{1, 0, 0, 0, 0}, 1, zeros, []int{0, 1, 0, 0, 0})
	apart := shape(impl.NodeMerge, 3, 1)
	wantFire(t, "a merge whose first flow has no token", apart, []int{0, 0, 0, 0, 1, 1, 0, 0}, 0, zeros, []int{0, 0, 0, 0, 0, 1, 1, 0})
}

func TestFireNodeOfWideNodes(t *testing.T) {
	wide := wideFork(12)
	first := impl.FirstMarks(wide)
	all := slices.Concat([]int{0, 0}, slices.Repeat([]int{1}, 12))
	wantFire(t, "a wide fork", wide, first, 1, zeros, all)
	last := make([]int, 14)
	last[1] = 1
	wantFire(t, "a wide join", wide, all, 2, zeros, last)
	wantFire(t, "the end behind it", wide, last, 3, zeros, make([]int, 14))
}

func TestFireNodeWithFullFlows(t *testing.T) {
	p := bothTasks()
	wantFire(t, "a task before a full flow", p, []int{0, 1, 0, 3, 0, 0}, 2, zeros, nil)
	wantFire(t, "a task before a flow that becomes full", p, []int{0, 1, 0, 2, 0, 0}, 2, zeros, []int{0, 0, 0, 3, 0, 0})
	wantFire(t, "a fork before a full first flow", p, []int{0, 3, 0, 0, 1, 0}, 5, zeros, nil)
	wantFire(t, "a fork before a full last flow", p, []int{0, 0, 0, 0, 1, 3}, 5, zeros, nil)
	wantFire(t, "a join before a full flow", p, []int{1, 0, 3, 1, 0, 0}, 1, zeros, nil)
	wantFire(t, "a task between full flows", p, []int{0, 3, 0, 3, 0, 0}, 2, zeros, nil)
	wantFire(t, "a task beside full flows", p, []int{3, 1, 3, 0, 3, 3}, 2, zeros, []int{3, 0, 3, 1, 3, 3})
	wantFire(t, "a task behind a full flow", p, []int{0, 3, 0, 0, 0, 0}, 2, zeros, []int{0, 2, 0, 1, 0, 0})
	choice := conditionedChoice(parts(variable(0)), nil)
	wantFire(t, "a choice of a full flow", choice, []int{1, 3, 0}, 1, []int{1, 0, 0, 0}, nil)
	wantFire(t, "a choice beside a full flow", choice, []int{1, 3, 0}, 1, zeros, []int{0, 3, 1})
}

func TestFireNodeWithFlowsToItself(t *testing.T) {
	wantFire(t, "a task with a flow to itself", lostCircle(), []int{1, 1}, 2, zeros, []int{1, 1})
	wantFire(t, "a task with a full flow to itself", lostCircle(), []int{0, 3}, 2, zeros, []int{0, 3})
	merge, join := ownCircle(impl.NodeMerge), ownCircle(impl.NodeJoin)
	wantFire(t, "a merge with a token before itself", merge, []int{1, 0}, 1, zeros, []int{1, 0})
	wantFire(t, "a merge with a full flow to itself first", merge, []int{3, 1}, 1, zeros, []int{3, 1})
	wantFire(t, "a merge with a token from the start", merge, []int{0, 1}, 1, zeros, []int{1, 0})
	slices.Reverse(merge.Flows)
	wantFire(t, "a merge with a full flow to itself last", merge, []int{1, 3}, 1, zeros, nil)
	wantFire(t, "a join without a token before itself", join, []int{0, 1}, 1, zeros, nil)
	wantFire(t, "a join with a full flow to itself", join, []int{3, 2}, 1, zeros, []int{3, 1})
	fork := draw([]int{impl.NodeStart, impl.NodeEnd, impl.NodeFork, impl.NodeEnd}, [2]int{0, 1}, [2]int{2, 2}, [2]int{2, 3})
	wantFire(t, "a fork with a full flow to itself", fork, []int{0, 3, 0}, 2, zeros, []int{0, 3, 1})
	wantFire(t, "a fork between full flows", fork, []int{0, 3, 3}, 2, zeros, nil)
}

func TestFireNodeOfOtherArguments(t *testing.T) {
	p := bothTasks()
	marks := []int{1, 0, 0, 0, 1, 0}
	for _, node := range extremes {
		if node != 5 {
			wantFire(t, "a node that is not ready", p, marks, node, zeros, nil)
		}
		wantFire(t, "a node without tokens", p, make([]int, 6), node, zeros, nil)
	}
	wantFire(t, "the start", p, []int{3, 3, 3, 3, 3, 3}, 3, zeros, nil)
	wantFire(t, "a join without one of its tokens", p, []int{3, 1, 0, 0, 0, 0}, 1, zeros, nil)
	none := conditionedChoice(parts(variable(0)), parts(number(0)))
	wantFire(t, "a choice of which no condition holds", none, []int{1, 0, 0}, 1, zeros, nil)
	wantFire(t, "a choice of which one condition holds", none, []int{1, 0, 0}, 1, []int{1, 0, 0, 0}, []int{0, 1, 0})
	for _, v := range badValues() {
		wantFire(t, "a fork with values that are not valid", p, marks, 5, v, nil)
		wantFire(t, "a choice with values that are not valid", twoWays(impl.NodeChoice, impl.NodeMerge), []int{1, 0, 0, 0, 0, 0}, 1, v, nil)
	}
	for _, n := range []int{-9999, 9999} {
		wantFire(t, "a fork with values at the limit", p, marks, 5, []int{n, n, n, n}, []int{1, 1, 0, 0, 0, 1})
	}
}

func TestTokenCount(t *testing.T) {
	for _, x := range []struct {
		p     impl.Process
		marks []int
		want  int
	}{
		{line(), []int{0}, 0}, {line(), []int{3}, 3}, {line(), []int{4}, -1}, {line(), []int{-1}, -1},
		{bothTasks(), []int{0, 1, 2, 3, 0, 1}, 7}, {bothTasks(), make([]int, 6), 0}, {lostCircle(), []int{0, 2}, 2},
		{wideFork(12), slices.Repeat([]int{3}, 14), 42},
	} {
		if got := impl.TokenCount(x.p, x.marks); got != x.want {
			t.Errorf("TokenCount of %v = %d, want %d", x.marks, got, x.want)
		}
	}
}

// wantBadTokens fails if a function gives a process or tokens that are not valid any other than its one result.
func wantBadTokens(t *testing.T, p impl.Process, marks []int) {
	t.Helper()
	if list := impl.ReadyNodes(p, marks); len(list) != 0 {
		t.Errorf("ReadyNodes(%v, %v) = %v", p, marks, list)
	}
	if n := impl.TokenCount(p, marks); n != -1 {
		t.Errorf("TokenCount(%v, %v) = %d", p, marks, n)
	}
	for node := -1; node <= min(len(p.Nodes), 20); node++ {
		if next, ok := impl.FireNode(p, marks, node, zeros); ok || len(next) != 0 {
			t.Errorf("FireNode(%v, %v, %d) = %v, %v", p, marks, node, next, ok)
		}
	}
}

func TestTokensThatAreNotValid(t *testing.T) {
	for _, p := range []impl.Process{line(), bothTasks(), repeatTask(), lostCircle(), wideFork(12)} {
		for many := range 20 {
			if many != len(p.Flows) {
				wantBadTokens(t, p, make([]int, many))
				wantBadTokens(t, p, slices.Repeat([]int{1}, many))
			}
		}
		wantBadTokens(t, p, nil)
		wantBadTokens(t, p, make([]int, 100000))
		for i := range p.Flows {
			for _, n := range extremes {
				marks := slices.Repeat([]int{1}, len(p.Flows))
				marks[i] = n
				if n < 0 || n > 3 {
					wantBadTokens(t, p, marks)
				} else if got := impl.TokenCount(p, marks); got != len(marks)-1+n {
					t.Errorf("TokenCount(%v, %v) = %d", p, marks, got)
				}
			}
		}
	}
}

func TestTokensOfInvalidProcesses(t *testing.T) {
	bad := badProcesses()
	choice := conditionedChoice(parts(number(1)), parts(operator(impl.PartNot)))
	for _, p := range append(bad, choice) {
		if marks := impl.FirstMarks(p); len(marks) != 0 {
			t.Errorf("FirstMarks(%v) = %v", p, marks)
		}
		for _, n := range []int{0, 1, 3} {
			wantBadTokens(t, p, slices.Repeat([]int{n}, len(p.Flows)))
		}
		wantBadTokens(t, p, nil)
		for node := -1; node <= len(p.Nodes); node++ {
			if got := impl.ChooseFlow(p, node, []int{1, 1, 1, 1}); got != -1 {
				t.Errorf("ChooseFlow(%v, %d) = %d", p, node, got)
			}
		}
	}
}

// TestRandomTokens compares the functions for many tokens, valid or not, with what they have to be.
func TestRandomTokens(t *testing.T) {
	fired, failed := 0, 0
	withTokens(t, func(r *rand.Rand, p impl.Process, marks []int, v []int) {
		f, n := compareTokens(t, p, marks, v)
		fired, failed = fired+f, failed+n
		marks[r.IntN(len(marks))] = r.IntN(7) - 2
		compareTokens(t, p, marks, v)
		v[r.IntN(len(v))] = extremes[r.IntN(len(extremes))]
		compareTokens(t, p, marks, v)
		compareTokens(t, p, marks[1:], v)
	})
	if fired < 1000 || failed < 1000 {
		t.Errorf("%d nodes that go on, and %d ready ones that do not, test too little", fired, failed)
	}
}

// compareTokens returns how many nodes have gone on, and how many ready ones have not.
func compareTokens(t *testing.T, p impl.Process, marks []int, v []int) (fired int, failed int) {
	t.Helper()
	if got, want := impl.FirstMarks(p), wantedFirst(p); !slices.Equal(got, want) {
		t.Fatalf("FirstMarks(%v) = %v, want %v", p, got, want)
	}
	ready := impl.ReadyNodes(p, marks)
	if want := wantedReady(p, marks); !slices.Equal(ready, want) {
		t.Fatalf("ReadyNodes(%v, %v) = %v, want %v", p, marks, ready, want)
	}
	if got, want := impl.TokenCount(p, marks), wantedCount(p, marks); got != want {
		t.Fatalf("TokenCount(%v, %v) = %d, want %d", p, marks, got, want)
	}
	for node := -1; node <= len(p.Nodes); node++ {
		if got, want := impl.ChooseFlow(p, node, v), wantedChoice(p, node, v); got != want {
			t.Fatalf("ChooseFlow(%v, %d, %v) = %d, want %d", p, node, v, got, want)
		}
		got, ok := impl.FireNode(p, marks, node, v)
		want, wantOk := wantedFire(p, marks, node, v)
		if !slices.Equal(got, want) || ok != wantOk {
			t.Fatalf("FireNode(%v, %v, %d, %v) = %v, %v, want %v, %v", p, marks, node, v, got, ok, want, wantOk)
		}
		fired += bit(ok)
		failed += bit(!ok && slices.Contains(ready, node))
	}
	return fired, failed
}
