package tests

import (
	"math/rand/v2"
	"slices"
	"testing"

	"loop.example/processengine/impl"
)

// withValid calls a function with many instances that ValidInstance finds valid, among them some that were altered.
func withValid(t *testing.T, f func(r *rand.Rand, p impl.Process, x impl.Instance)) {
	t.Helper()
	found, altered := 0, 0
	withInstances(t, func(r *rand.Rand, p impl.Process, x impl.Instance) {
		if impl.ValidInstance(p, x) {
			f(r, p, x)
			found++
		}
		for range 4 {
			if y := alteredInstance(r, x); impl.ValidInstance(p, y) {
				f(r, p, y)
				altered++
			}
		}
	})
	if found < 5000 || altered < 2000 {
		t.Errorf("%d valid instances, and %d altered ones, test too little", found, altered)
	}
}

// withStarts calls a function with many processes, values, and the instances with which they begin.
func withStarts(t *testing.T, f func(p impl.Process, v []int, x impl.Instance)) {
	t.Helper()
	r := newRandom(17)
	found := 0
	for _, p := range slices.Concat(tokenProcesses(), runProcesses()) {
		v := smallValues(r)
		if x, ok := impl.StartInstance(p, v); ok {
			f(p, v, x)
			found++
		}
	}
	if found < 2000 {
		t.Errorf("%d instances that begin test too little", found)
	}
}

// mayWait reports whether a node of a kind may be ready with a valid instance.
func mayWait(kind int) bool {
	return slices.Contains([]int{impl.NodeTask, impl.NodeTimer, impl.NodeMessage}, kind)
}

// tokensBefore returns how many tokens wait at a node with one flow into it.
func tokensBefore(p impl.Process, x impl.Instance, node int) int {
	return x.Marks[impl.FlowsIn(p, node)[0]]
}

func TestPromise28InstancesWaitForSomebody(t *testing.T) {
	timers := 0
	withValid(t, func(r *rand.Rand, p impl.Process, x impl.Instance) {
		for _, node := range impl.ReadyNodes(p, x.Marks) {
			if !mayWait(p.Nodes[node].Kind) {
				t.Fatalf("%v: %d is ready with %v", p, node, x)
			}
		}
		all := 0
		for node, n := range p.Nodes {
			if n.Kind != impl.NodeTimer {
				continue
			}
			many := 0
			for _, w := range x.Timers {
				many += bit(w.Node == node)
			}
			if many != tokensBefore(p, x, node) {
				t.Fatalf("%v: %d timers at %d in %v", p, many, node, x)
			}
			all += many
		}
		if all != len(x.Timers) {
			t.Fatalf("%v: timers at other nodes in %v", p, x)
		}
		timers += all
	})
	if timers < 1000 {
		t.Errorf("%d timers test too little", timers)
	}
}

func TestPromise29NewInstancesAreValid(t *testing.T) {
	withStarts(t, func(p impl.Process, v []int, x impl.Instance) {
		if !impl.ValidInstance(p, x) || x.Clock != 0 || !slices.Equal(x.Values, v) {
			t.Fatalf("%v begins with %v as %v", p, v, x)
		}
	})
}

func TestPromise30InstancesOfSoundProcessesHavePossibleTokens(t *testing.T) {
	count, waiting := 0, 0
	withStarts(t, func(p impl.Process, v []int, x impl.Instance) {
		if all, ok := impl.AllMarks(p); ok {
			if !hasMarks(all, x.Marks) {
				t.Fatalf("%v begins with %v, which is not among %v", p, x, all)
			}
			count++
			waiting += bit(sumOf(x.Marks) > 0)
		}
	})
	if count < 1000 || waiting < 500 {
		t.Errorf("%d instances, and %d with tokens, test too little", count, waiting)
	}
}

func TestPromise31OpenTasksCanBeCompleted(t *testing.T) {
	open := 0
	withValid(t, func(r *rand.Rand, p impl.Process, x impl.Instance) {
		var want []int
		for _, node := range impl.ReadyNodes(p, x.Marks) {
			if p.Nodes[node].Kind == impl.NodeTask {
				want = append(want, node)
			}
		}
		if got := impl.OpenTasks(p, x); !slices.Equal(got, want) {
			t.Fatalf("OpenTasks(%v, %v) = %v, want %v", p, x, got, want)
		}
		open += len(want)
	})
	if open < 1000 {
		t.Errorf("%d open tasks test too little", open)
	}
	// Nothing but what follows an open task can keep it from being completed.
	for _, p := range []impl.Process{line(impl.NodeTask), repeatTask(), bothTasks(), tasks(10), twoWays(impl.NodeFork, impl.NodeMerge), atOnce(task(), timer(5))} {
		x := startOf(t, p)
		list := impl.OpenTasks(p, x)
		if len(list) == 0 {
			t.Errorf("%v: no open task in %v", p, x)
		}
		for _, node := range list {
			if _, ok := impl.CompleteTask(p, x, node, nil); !ok {
				t.Errorf("%v: %d of %v cannot be completed", p, node, x)
			}
		}
	}
}

// withDone calls a function with many instances that are done.
func withDone(t *testing.T, f func(r *rand.Rand, p impl.Process, x impl.Instance)) {
	t.Helper()
	found := 0
	withInstances(t, func(r *rand.Rand, p impl.Process, x impl.Instance) {
		y := x
		if r.IntN(4) == 0 {
			y = impl.Instance{Marks: make([]int, len(p.Flows)), Values: x.Values, Clock: x.Clock}
		}
		for _, z := range []impl.Instance{x, y} {
			if impl.IsDone(p, z) {
				f(r, p, z)
				found++
			}
		}
	})
	if found < 1000 {
		t.Errorf("%d instances that are done test too little", found)
	}
}

func TestPromise32DoneIsDone(t *testing.T) {
	withDone(t, func(r *rand.Rand, p impl.Process, x impl.Instance) {
		if list := impl.OpenTasks(p, x); len(list) != 0 || len(x.Timers) != 0 || impl.NextDue(p, x) != -1 {
			t.Fatalf("%v: %v is done, with the open tasks %v", p, x, list)
		}
		for _, to := range []int{x.Clock, min(x.Clock+1, impl.MaxClock), x.Clock + r.IntN(impl.MaxClock-x.Clock+1), impl.MaxClock} {
			y, ok := impl.AdvanceClock(p, x, to)
			if !ok || !sameInstance(y, withClock(x, to)) {
				t.Fatalf("%v: the clock makes %v, %v of %v", p, y, ok, x)
			}
		}
	})
}

func TestPromise33InstancesWithoutTokensAreDone(t *testing.T) {
	done := 0
	withValid(t, func(r *rand.Rand, p impl.Process, x impl.Instance) {
		if got := impl.IsDone(p, x); got != (impl.TokenCount(p, x.Marks) == 0) {
			t.Fatalf("%v: %v with %d tokens is done: %v", p, x, impl.TokenCount(p, x.Marks), got)
		}
		done += bit(impl.IsDone(p, x))
	})
	if done < 500 {
		t.Errorf("%d instances that are done test too little", done)
	}
}

func TestPromise131NewTimersWaitAsLongAsTold(t *testing.T) {
	timers := 0
	withStarts(t, func(p impl.Process, v []int, x impl.Instance) {
		for _, w := range x.Timers {
			if w.Due != p.Nodes[w.Node].Value {
				t.Fatalf("%v begins with the timer %v", p, w)
			}
			timers++
		}
	})
	if timers < 500 {
		t.Errorf("%d timers test too little", timers)
	}
}

func TestPromise173TimersLieAhead(t *testing.T) {
	several := 0
	withValid(t, func(r *rand.Rand, p impl.Process, x impl.Instance) {
		for i, w := range x.Timers {
			if w.Due <= x.Clock || w.Due > impl.MaxClock+impl.MaxWait {
				t.Fatalf("%v: %v is valid, with the timer %v", p, x, w)
			}
			if i == 0 {
				continue
			}
			several++
			before := x.Timers[i-1]
			if before.Due > w.Due || before.Due == w.Due && before.Node > w.Node {
				t.Fatalf("%v: %v is valid, with the timer %v before %v", p, x, before, w)
			}
		}
	})
	if several < 1000 {
		t.Errorf("%d pairs of timers test too little", several)
	}
}
