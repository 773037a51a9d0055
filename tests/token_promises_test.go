package tests

import (
	"math/rand/v2"
	"slices"
	"testing"

	"loop.example/processengine/impl"
)

// changed returns a copy of a list with one number changed.
func changed(list []int, i int, n int) []int {
	c := slices.Clone(list)
	c[i] = n
	return c
}

// sumOf returns the sum of numbers.
func sumOf(list []int) int {
	sum := 0
	for _, n := range list {
		sum += n
	}
	return sum
}

// withFired calls a function with many nodes that have gone on, and the tokens before and behind them.
func withFired(t *testing.T, f func(p impl.Process, node int, before []int, behind []int, v []int)) {
	t.Helper()
	var fired [9]int
	withTokens(t, func(r *rand.Rand, p impl.Process, marks []int, v []int) {
		for node := -1; node <= len(p.Nodes); node++ {
			if next, ok := impl.FireNode(p, marks, node, v); ok {
				f(p, node, marks, next, v)
				fired[p.Nodes[node].Kind]++
			}
		}
	})
	if slices.Min(fired[1:]) < 100 {
		t.Errorf("%v nodes of each kind that have gone on test too little", fired)
	}
}

func TestPromise14ProcessesBeginWithOneToken(t *testing.T) {
	for _, p := range tokenProcesses() {
		marks := impl.FirstMarks(p)
		if len(marks) != len(p.Flows) || sumOf(marks) != 1 || slices.Max(marks) != 1 || slices.Min(append(marks, 0)) != 0 {
			t.Fatalf("FirstMarks(%v) = %v", p, marks)
		}
		from := p.Flows[slices.Index(marks, 1)].From
		if p.Nodes[from].Kind != impl.NodeStart {
			t.Fatalf("%v: the token of %v is behind the node %d", p, marks, from)
		}
	}
}

func TestPromise15TokensMakeNodesReady(t *testing.T) {
	withTokens(t, func(r *rand.Rand, p impl.Process, marks []int, v []int) {
		ready := impl.ReadyNodes(p, marks)
		if !ascends(ready) {
			t.Fatalf("ReadyNodes(%v, %v) = %v", p, marks, ready)
		}
		for i, n := range p.Nodes {
			some, all := false, true
			for f, w := range p.Flows {
				if w.To == i {
					some, all = some || marks[f] > 0, all && marks[f] > 0
				}
			}
			want := some
			if n.Kind == impl.NodeJoin {
				want = all
			}
			if got := slices.Contains(ready, i); got != want {
				t.Fatalf("%v with %v: the node %d is ready: %v", p, marks, i, got)
			}
		}
	})
}

func TestPromise16MoreTokensMakeMoreNodesReady(t *testing.T) {
	withTokens(t, func(r *rand.Rand, p impl.Process, marks []int, v []int) {
		ready := impl.ReadyNodes(p, marks)
		for f, n := range marks {
			if n == impl.MaxTokens {
				continue
			}
			more := impl.ReadyNodes(p, changed(marks, f, n+1))
			for _, node := range ready {
				if !slices.Contains(more, node) {
					t.Fatalf("%v: %d is ready with %v, but not with a token more on %d", p, node, marks, f)
				}
			}
			if to := p.Flows[f].To; p.Nodes[to].Kind != impl.NodeJoin && !slices.Contains(more, to) {
				t.Fatalf("%v: %d is not ready with %v and a token more on %d", p, to, marks, f)
			}
		}
	})
}

// withChoices calls a function with many choices, values and chosen flows.
func withChoices(t *testing.T, f func(p impl.Process, node int, v []int, flow int)) {
	t.Helper()
	withTokens(t, func(r *rand.Rand, p impl.Process, marks []int, v []int) {
		for node, n := range p.Nodes {
			if n.Kind == impl.NodeChoice {
				f(p, node, v, impl.ChooseFlow(p, node, v))
			}
		}
	})
}

func TestPromise17ChosenFlowsAreGood(t *testing.T) {
	holding, resting := 0, 0
	withChoices(t, func(p impl.Process, node int, v []int, flow int) {
		if flow < 0 {
			return
		}
		when := p.Flows[flow].When
		if p.Flows[flow].From != node || len(when) > 0 && impl.EvalCondition(when, v) == 0 {
			t.Fatalf("%v: the choice %d takes the flow %d with %v", p, node, flow, v)
		}
		holding += bit(len(when) > 0)
		resting += bit(len(when) == 0)
		for f, w := range p.Flows {
			// Behind a flow with a condition others may be good, too, but not behind one without.
			if (f < flow || len(when) == 0) && w.From == node && impl.EvalCondition(w.When, v) != 0 {
				t.Fatalf("%v: the choice %d takes the flow %d with %v, but %d is good", p, node, flow, v, f)
			}
		}
	})
	if holding < 100 || resting < 100 {
		t.Errorf("%d flows with and %d without conditions test too little", holding, resting)
	}
}

func TestPromise18TokensAreTakenAndPut(t *testing.T) {
	withFired(t, func(p impl.Process, node int, before []int, behind []int, v []int) {
		kind := p.Nodes[node].Kind
		taken, first := 0, true
		for f, w := range p.Flows {
			put := bit(w.From == node)
			if kind == impl.NodeChoice {
				put = bit(f == impl.ChooseFlow(p, node, v))
			}
			took := before[f] + put - behind[f]
			want := bit(w.To == node && before[f] > 0 && (first || kind == impl.NodeJoin))
			if took != want {
				t.Fatalf("%v: %d leads from %v to %v", p, node, before, behind)
			}
			taken, first = taken+took, first && took == 0
		}
		if kind != impl.NodeJoin && taken != 1 || kind == impl.NodeJoin && taken != len(impl.FlowsIn(p, node)) {
			t.Fatalf("%v: %d takes %d tokens of %v", p, node, taken, before)
		}
	})
}

func TestPromise19OnlyReadyNodesGoOn(t *testing.T) {
	stopped := 0
	withTokens(t, func(r *rand.Rand, p impl.Process, marks []int, v []int) {
		ready := impl.ReadyNodes(p, marks)
		for node := -2; node <= len(p.Nodes)+1; node++ {
			next, ok := impl.FireNode(p, marks, node, v)
			if slices.Contains(ready, node) {
				continue
			}
			if ok || len(next) != 0 {
				t.Fatalf("%v: %d leads from %v to %v", p, node, marks, next)
			}
			stopped++
		}
	})
	if stopped < 1000 {
		t.Errorf("%d nodes that are not ready test too little", stopped)
	}
}

// areApart reports whether two nodes have no flow in common.
func areApart(p impl.Process, a int, b int) bool {
	ends := func(node int, f impl.Flow) bool { return f.From == node || f.To == node }
	return !slices.ContainsFunc(p.Flows, func(f impl.Flow) bool { return ends(a, f) && ends(b, f) })
}

func TestPromise20NodesThatShareNoFlowsDoNotDisturbEachOther(t *testing.T) {
	pairs := 0
	withTokens(t, func(r *rand.Rand, p impl.Process, marks []int, v []int) {
		for _, a := range impl.ReadyNodes(p, marks) {
			for _, b := range impl.ReadyNodes(p, marks) {
				if a == b || !areApart(p, a, b) {
					continue
				}
				behindA, okA := impl.FireNode(p, marks, a, v)
				behindB, okB := impl.FireNode(p, marks, b, v)
				if !okA || !okB {
					continue
				}
				one, ok1 := impl.FireNode(p, behindA, b, v)
				two, ok2 := impl.FireNode(p, behindB, a, v)
				if !ok1 || !ok2 || !slices.Equal(one, two) {
					t.Fatalf("%v: from %v the nodes %d, %d lead to %v, and the other way round to %v", p, marks, a, b, one, two)
				}
				pairs++
			}
		}
	})
	if pairs < 1000 {
		t.Errorf("%d pairs test too little", pairs)
	}
}

func TestPromise21TokensAreCounted(t *testing.T) {
	withTokens(t, func(r *rand.Rand, p impl.Process, marks []int, v []int) {
		if got := impl.TokenCount(p, marks); got != sumOf(marks) {
			t.Fatalf("TokenCount(%v, %v) = %d", p, marks, got)
		}
		none := make([]int, len(p.Flows))
		if list := impl.ReadyNodes(p, none); len(list) != 0 || impl.TokenCount(p, none) != 0 {
			t.Fatalf("%v: %v are ready without tokens", p, list)
		}
	})
}

func TestPromise125OneNodeIsReadyAtFirst(t *testing.T) {
	for _, p := range tokenProcesses() {
		var want []int
		for _, w := range p.Flows {
			if p.Nodes[w.From].Kind == impl.NodeStart && p.Nodes[w.To].Kind != impl.NodeJoin {
				want = append(want, w.To)
			}
		}
		if got := impl.ReadyNodes(p, impl.FirstMarks(p)); !slices.Equal(got, want) {
			t.Fatalf("%v: at first %v are ready, want %v", p, got, want)
		}
	}
	waits := draw([]int{impl.NodeJoin, impl.NodeStart, impl.NodeFork, impl.NodeEnd}, [2]int{1, 0}, [2]int{0, 2}, [2]int{2, 0}, [2]int{2, 3})
	wantList(t, "ReadyNodes of a join behind the start", impl.ReadyNodes(waits, impl.FirstMarks(waits)))
}

func TestPromise126WithoutAConditionThatHoldsTheRestIsTaken(t *testing.T) {
	rests, none := 0, 0
	withChoices(t, func(p impl.Process, node int, v []int, flow int) {
		rest := -1
		for f, w := range p.Flows {
			if w.From == node && impl.EvalCondition(w.When, v) != 0 {
				return
			}
			if w.From == node && len(w.When) == 0 && rest < 0 {
				rest = f
			}
		}
		if flow != rest {
			t.Fatalf("%v: the choice %d takes %d with %v, want %d", p, node, flow, v, rest)
		}
		rests += bit(rest >= 0)
		none += bit(rest < 0)
	})
	if rests < 100 || none < 100 {
		t.Errorf("%d choices with a rest and %d without test too little", rests, none)
	}
}

func TestPromise127EndsTakeTokensAndForksMakeMore(t *testing.T) {
	withFired(t, func(p impl.Process, node int, before []int, behind []int, v []int) {
		switch p.Nodes[node].Kind {
		case impl.NodeEnd:
			if got := impl.TokenCount(p, behind); got != impl.TokenCount(p, before)-1 {
				t.Fatalf("%v: the end %d leads from %v to %v", p, node, before, behind)
			}
		case impl.NodeFork:
			outs := impl.FlowsOut(p, node)
			in := impl.FlowsIn(p, node)[0]
			if slices.Contains(outs, in) {
				outs = slices.DeleteFunc(outs, func(f int) bool { return f == in })
				if behind[in] != before[in] {
					t.Fatalf("%v: the fork %d leads from %v to %v", p, node, before, behind)
				}
			}
			for _, f := range outs {
				if behind[f] != before[f]+1 {
					t.Fatalf("%v: the fork %d leads from %v to %v", p, node, before, behind)
				}
			}
		}
	})
}

func TestPromise169TokensComeFromNodes(t *testing.T) {
	withFired(t, func(p impl.Process, node int, before []int, behind []int, v []int) {
		in, out := len(impl.FlowsIn(p, node)), len(impl.FlowsOut(p, node))
		differ := impl.TokenCount(p, behind) - impl.TokenCount(p, before)
		if max(differ, -differ) > in+out {
			t.Fatalf("%v: %d leads from %v to %v", p, node, before, behind)
		}
		want := out - 1
		switch p.Nodes[node].Kind {
		case impl.NodeJoin:
			want = 1 - in
		case impl.NodeChoice:
			want = 0
		}
		if differ != want {
			t.Fatalf("%v: %d leads from %v to %v, %d tokens more", p, node, before, behind, differ)
		}
	})
}
