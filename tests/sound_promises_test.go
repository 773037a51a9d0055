package tests

import (
	"slices"
	"testing"

	"loop.example/processengine/impl"
)

// hasMarks reports whether some tokens are among others.
func hasMarks(list [][]int, marks []int) bool {
	return slices.ContainsFunc(list, func(m []int) bool { return slices.Equal(m, marks) })
}

// withAllMarks calls a function with many processes for which AllMarks succeeds.
func withAllMarks(t *testing.T, f func(p impl.Process, all [][]int)) {
	t.Helper()
	found := 0
	for _, p := range tokenProcesses() {
		if all, ok := impl.AllMarks(p); ok {
			f(p, all)
			found++
		}
	}
	if found < 1000 {
		t.Errorf("%d processes for which AllMarks succeeds test too little", found)
	}
}

// withSound calls a function with many sound processes.
func withSound(t *testing.T, f func(p impl.Process)) {
	t.Helper()
	found := 0
	for _, p := range tokenProcesses() {
		if impl.IsSound(p) {
			f(p)
			found++
		}
	}
	if found < 500 {
		t.Errorf("%d sound processes test too little", found)
	}
}

// choosing returns a process in which a choice takes one of its flows, whatever the values are.
func choosing(p impl.Process, flow int) impl.Process {
	q := copyProcess(p)
	for f, w := range p.Flows {
		if w.From == p.Flows[flow].From {
			q.Flows[f].When = parts(number(bit(f == flow)))
		}
	}
	return q
}

// firedFrom returns what FireNode makes of tokens, in the order of nodes and flows.
func firedFrom(t *testing.T, p impl.Process, marks []int) [][]int {
	t.Helper()
	var list [][]int
	for _, node := range impl.ReadyNodes(p, marks) {
		ways := []impl.Process{p}
		if p.Nodes[node].Kind == impl.NodeChoice {
			ways = nil
			for _, flow := range impl.FlowsOut(p, node) {
				ways = append(ways, choosing(p, flow))
			}
		}
		for _, way := range ways {
			next, ok := impl.FireNode(way, marks, node, zeros)
			if !ok {
				t.Fatalf("%v: %d cannot go on from %v", way, node, marks)
			}
			list = append(list, next)
		}
	}
	return list
}

func TestPromise22AllTokensAreFound(t *testing.T) {
	withAllMarks(t, func(p impl.Process, all [][]int) {
		order := [][]int{impl.FirstMarks(p)}
		for i := 0; i < len(all); i++ {
			for _, next := range firedFrom(t, p, all[i]) {
				if !hasMarks(all, next) {
					t.Fatalf("%v: %v leads to %v, which is not among %v", p, all[i], next, all)
				}
				if !hasMarks(order, next) {
					order = append(order, next)
				}
			}
			if hasMarks(all[:i], all[i]) {
				t.Fatalf("%v: %v is there twice", p, all[i])
			}
		}
		if !slices.EqualFunc(all, order, slices.Equal) {
			t.Fatalf("AllMarks(%v) = %v, want %v", p, all, order)
		}
	})
}

func TestPromise23FlowsHaveOneTokenAtMost(t *testing.T) {
	withAllMarks(t, func(p impl.Process, all [][]int) {
		for _, m := range all {
			if len(m) != len(p.Flows) || slices.Max(m) > 1 || slices.Min(m) < 0 {
				t.Fatalf("%v: AllMarks has %v", p, m)
			}
		}
	})
	for _, many := range []int{2, 3} { // so many tokens come to the flow behind the merge
		p := draw([]int{impl.NodeStart, impl.NodeFork, impl.NodeMerge, impl.NodeEnd}, [2]int{0, 1}, [2]int{2, 3})
		for range many {
			p.Flows = append(p.Flows, impl.Flow{From: 1, To: 2})
		}
		wantNoMarks(t, "a flow with more than one token", p)
	}
}

func TestPromise24SoundProcessesAreNeverStuck(t *testing.T) {
	withSound(t, func(p impl.Process) {
		if stuck := impl.StuckMarks(p); len(stuck) != 0 {
			t.Fatalf("%v is sound, but can be stuck with %v", p, stuck)
		}
		all, _ := impl.AllMarks(p)
		if !hasMarks(all, make([]int, len(p.Flows))) {
			t.Fatalf("%v is sound, but has tokens in all of %v", p, all)
		}
		for _, m := range all { // the way to the end that the word 'always' tells of
			seen := [][]int{m}
			for i := 0; i < len(seen) && sumOf(seen[i]) > 0; i++ {
				for _, next := range firedFrom(t, p, seen[i]) {
					if !hasMarks(seen, next) {
						seen = append(seen, next)
					}
				}
			}
			if !hasMarks(seen, make([]int, len(p.Flows))) {
				t.Fatalf("%v is sound, but cannot end from %v", p, m)
			}
		}
	})
}

// lineBeside returns a line of so many nodes with a circle of so many tasks beside it, in any order.
func lineBeside(seed uint64, many int, circle int) impl.Process {
	r := newRandom(seed)
	var kinds []int
	for range many {
		kinds = append(kinds, impl.NodeTask+r.IntN(3))
	}
	p := line(kinds...)
	first := len(p.Nodes)
	for i := range circle {
		p.Nodes = append(p.Nodes, impl.Node{Kind: impl.NodeTask})
		p.Flows = append(p.Flows, impl.Flow{From: first + i, To: first + (i+1)%circle})
	}
	return shuffled(r, p)
}

func TestPromise25LinesAreSound(t *testing.T) {
	for many := range 9 {
		for circle := range 9 - many {
			p := lineBeside(uint64(many*10+circle), many, circle)
			if !impl.ValidProcess(p) || !impl.IsSound(p) {
				t.Errorf("a line of %d nodes beside a circle of %d is not sound", many, circle)
			}
		}
	}
	special := []int{impl.NodeChoice, impl.NodeFork, impl.NodeMerge, impl.NodeJoin}
	for _, p := range tokenProcesses() {
		if !slices.ContainsFunc(p.Nodes, func(n impl.Node) bool { return slices.Contains(special, n.Kind) }) && !impl.IsSound(p) {
			t.Fatalf("%v is not sound", p)
		}
	}
}

func TestPromise26StuckIsStuck(t *testing.T) {
	count := 0
	withAllMarks(t, func(p impl.Process, all [][]int) {
		var want [][]int
		for _, m := range all {
			if len(impl.ReadyNodes(p, m)) == 0 && impl.TokenCount(p, m) > 0 {
				want = append(want, m)
			}
		}
		got := impl.StuckMarks(p)
		for _, m := range got {
			if list := impl.ReadyNodes(p, m); len(list) != 0 || impl.TokenCount(p, m) <= 0 {
				t.Fatalf("%v is stuck with %v, but %v are ready", p, m, list)
			}
		}
		if !slices.EqualFunc(got, want, slices.Equal) {
			t.Fatalf("StuckMarks(%v) = %v, want %v", p, got, want)
		}
		count += len(got)
	})
	if count < 500 {
		t.Errorf("%d times stuck test too little", count)
	}
}

func TestPromise27NodesThatAreNeverReadyAreUseless(t *testing.T) {
	count := 0
	withAllMarks(t, func(p impl.Process, all [][]int) {
		never := impl.NeverReady(p)
		ready := map[int]bool{}
		for _, m := range all {
			for _, node := range impl.ReadyNodes(p, m) {
				ready[node] = true
			}
		}
		reachable := impl.Reachable(p)
		for node, n := range p.Nodes {
			is := slices.Contains(never, node)
			if is && ready[node] || !is && !ready[node] && n.Kind != impl.NodeStart {
				t.Fatalf("NeverReady(%v) = %v, with %v", p, never, all)
			}
			if !is && !slices.Contains(reachable, node) {
				t.Fatalf("NeverReady(%v) = %v, but not %d, which is not reachable", p, never, node)
			}
			count += bit(is)
		}
	})
	if count < 500 {
		t.Errorf("%d nodes that are never ready test too little", count)
	}
}

func TestPromise128LinesHaveATokenAtOnePlace(t *testing.T) {
	for _, kind := range []int{impl.NodeTask, impl.NodeTimer, impl.NodeMessage} {
		p := line(kind)
		wantAll(t, "a line", p, []int{1, 0}, []int{0, 1}, []int{0, 0})
		slices.Reverse(p.Flows)
		wantAll(t, "a line with its flows in reverse order", p, []int{0, 1}, []int{1, 0}, []int{0, 0})
	}
}

func TestPromise129WhoCanBeStuckIsNotSound(t *testing.T) {
	count := 0
	for _, p := range tokenProcesses() {
		if len(impl.StuckMarks(p)) == 0 {
			continue
		}
		count++
		if impl.IsSound(p) {
			t.Fatalf("%v is sound, but can be stuck", p)
		}
	}
	if count < 100 {
		t.Errorf("%d processes that can be stuck test too little", count)
	}
	// One way comes to its end, and another one is stuck.
	p := draw([]int{impl.NodeStart, impl.NodeChoice, impl.NodeEnd, impl.NodeJoin, impl.NodeEnd}, [2]int{0, 1}, [2]int{1, 2}, [2]int{1, 3}, [2]int{1, 3}, [2]int{3, 4})
	wantJudged(t, "an end or a join", p, false, [][]int{{0, 0, 1, 0, 0}, {0, 0, 0, 1, 0}}, []int{3, 4})
}

func TestPromise130UselessNodesAreToldOnce(t *testing.T) {
	for _, p := range tokenProcesses() {
		list := impl.NeverReady(p)
		if !ascends(list) {
			t.Fatalf("NeverReady(%v) = %v", p, list)
		}
		for _, node := range list {
			if node < 0 || node >= len(p.Nodes) || p.Nodes[node].Kind == impl.NodeStart {
				t.Fatalf("NeverReady(%v) = %v", p, list)
			}
		}
	}
	for many := range 9 {
		wantList(t, "NeverReady of a line", impl.NeverReady(lineBeside(1, many, 0)))
	}
}

func TestPromise172SoundProcessesHaveFewTokens(t *testing.T) {
	withSound(t, func(p impl.Process) {
		all, ok := impl.AllMarks(p)
		if !ok || len(all) < 2 || len(all) > impl.MaxStates || slices.Equal(all[0], all[1]) {
			t.Fatalf("%v is sound, but AllMarks = %v, %v", p, all, ok)
		}
	})
	for _, p := range []impl.Process{manyStates(3), manyEnds(), twoWays(impl.NodeFork, impl.NodeMerge)} {
		if impl.IsSound(p) {
			t.Errorf("%v is sound, but AllMarks fails", p)
		}
	}
}
