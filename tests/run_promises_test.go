package tests

import (
	"math/rand/v2"
	"slices"
	"testing"

	"loop.example/processengine/impl"
)

// withCompleted calls a function with many tasks that are completed, and the instances before and behind them.
func withCompleted(t *testing.T, f func(p impl.Process, x impl.Instance, node int, list []impl.Set, y impl.Instance)) {
	t.Helper()
	found := 0
	withInstances(t, func(r *rand.Rand, p impl.Process, x impl.Instance) {
		for node := range p.Nodes {
			list := randomSets(r, impl.MaxSets)
			if y, ok := impl.CompleteTask(p, x, node, list); ok {
				f(p, x, node, list, y)
				found++
			}
		}
	})
	if found < 2000 {
		t.Errorf("%d completed tasks test too little", found)
	}
}

// withDelivered calls a function with many messages that are delivered, and the instances before and behind them.
func withDelivered(t *testing.T, f func(p impl.Process, x impl.Instance, name int, y impl.Instance)) {
	t.Helper()
	found := 0
	withInstances(t, func(r *rand.Rand, p impl.Process, x impl.Instance) {
		for name := -1; name <= impl.MaxName+1; name++ {
			if y, ok := impl.DeliverMessage(p, x, name); ok {
				f(p, x, name, y)
				found++
			}
		}
	})
	if found < 2000 {
		t.Errorf("%d messages test too little", found)
	}
}

// withAdvanced calls a function with many instances at later times, and those before.
func withAdvanced(t *testing.T, f func(r *rand.Rand, p impl.Process, x impl.Instance, to int, y impl.Instance)) {
	t.Helper()
	found, due := 0, 0
	withInstances(t, func(r *rand.Rand, p impl.Process, x impl.Instance) {
		for _, to := range []int{x.Clock, impl.NextDue(p, x), x.Clock + r.IntN(20), x.Clock + r.IntN(200), impl.MaxClock} {
			y, ok := impl.AdvanceClock(p, x, to)
			if !ok {
				continue
			}
			f(r, p, x, to, y)
			found++
			due += bit(len(x.Timers) > 0 && x.Timers[0].Due <= to)
		}
	})
	if found < 5000 || due < 2000 {
		t.Errorf("%d times, and %d when something is due, test too little", found, due)
	}
}

func TestPromise34CompletedTasksGoOn(t *testing.T) {
	withCompleted(t, func(p impl.Process, x impl.Instance, node int, list []impl.Set, y impl.Instance) {
		want := slices.Clone(x.Values)
		for _, s := range list {
			want[s.Variable] = s.Value
		}
		if !impl.ValidInstance(p, y) || y.Clock != x.Clock || !slices.Equal(y.Values, want) {
			t.Fatalf("%v: with %v %d makes %v of %v", p, list, node, y, x)
		}
	})
	failed := 0
	withInstances(t, func(r *rand.Rand, p impl.Process, x impl.Instance) {
		open := impl.OpenTasks(p, x)
		for node := -2; node <= len(p.Nodes)+1; node++ {
			if slices.Contains(open, node) {
				continue
			}
			y, ok := impl.CompleteTask(p, x, node, nil)
			wantFailed(t, "a node that is no open task", y, ok)
			failed++
		}
	})
	if failed < 1000 {
		t.Errorf("%d nodes that are no open tasks test too little", failed)
	}
}

// comesBack reports whether flows lead from a node to itself.
func comesBack(p impl.Process, node int) bool {
	seen := map[int]bool{}
	queue := []int{node}
	for len(queue) > 0 {
		for _, f := range impl.FlowsOut(p, queue[0]) {
			if to := p.Flows[f].To; !seen[to] {
				seen[to] = true
				queue = append(queue, to)
			}
		}
		queue = queue[1:]
	}
	return seen[node]
}

func TestPromise35ACompletedTaskTakesOneToken(t *testing.T) {
	less, same := 0, 0
	withCompleted(t, func(p impl.Process, x impl.Instance, node int, list []impl.Set, y impl.Instance) {
		more := tokensBefore(p, y, node) - tokensBefore(p, x, node)
		forks := slices.ContainsFunc(p.Nodes, func(n impl.Node) bool { return n.Kind == impl.NodeFork })
		switch {
		case more == -1:
			less++
		case more == 0 && comesBack(p, node):
			same++
		case more > 0 && comesBack(p, node) && forks: // it has come back as several ones
		default:
			t.Fatalf("%v: %d makes %v of %v", p, node, y, x)
		}
	})
	if less < 1000 || same < 100 {
		t.Errorf("%d tasks with a token less, and %d with as many, test too little", less, same)
	}
	x := impl.Instance{Marks: []int{0, 2, 0, 0, 0}, Values: zeros}
	for value, want := range []int{1, 2} { // the choice behind the task goes on, or back
		y, _ := impl.CompleteTask(repeatTask(), x, 2, []impl.Set{{Variable: 0, Value: value}})
		wantList(t, "tokens before a task in a circle", y.Marks, 0, want, 0, 0, 0)
	}
}

// timersMissing returns the timers of a list that are not in another one, each as often as it is there more often.
func timersMissing(list []impl.Timer, other []impl.Timer) []impl.Timer {
	rest := slices.Clone(other)
	var missing []impl.Timer
	for _, w := range list {
		if i := slices.Index(rest, w); i >= 0 {
			rest = slices.Delete(rest, i, i+1)
		} else {
			missing = append(missing, w)
		}
	}
	return missing
}

func TestPromise36TimersKeepTheirTimes(t *testing.T) {
	kept, added := 0, 0
	withCompleted(t, func(p impl.Process, x impl.Instance, node int, list []impl.Set, y impl.Instance) {
		if missing := timersMissing(x.Timers, y.Timers); len(missing) > 0 {
			t.Fatalf("%v: %d makes %v of %v, without %v", p, node, y, x, missing)
		}
		for _, w := range timersMissing(y.Timers, x.Timers) {
			if w.Due != x.Clock+p.Nodes[w.Node].Value {
				t.Fatalf("%v: %d makes %v of %v, with %v", p, node, y, x, w)
			}
			added++
		}
		kept += len(x.Timers)
	})
	if kept < 1000 || added < 200 {
		t.Errorf("%d timers that stay and %d new ones test too little", kept, added)
	}
}

func TestPromise37MessagesAreTakenByWhoWaits(t *testing.T) {
	withDelivered(t, func(p impl.Process, x impl.Instance, name int, y impl.Instance) {
		waits := func(node int) bool { return p.Nodes[node].Kind == impl.NodeMessage && p.Nodes[node].Value == name }
		if !slices.ContainsFunc(impl.ReadyNodes(p, x.Marks), waits) {
			t.Fatalf("%v: nobody waits for %d in %v", p, name, x)
		}
		if !impl.ValidInstance(p, y) || y.Clock != x.Clock || !slices.Equal(y.Values, x.Values) {
			t.Fatalf("%v: the message %d makes %v of %v", p, name, y, x)
		}
	})
	for _, p := range []impl.Process{lineOf(message(0)), lineOf(message(9)), atOnce(message(5), task())} {
		for name := -1; name <= 10; name++ {
			_, ok := impl.DeliverMessage(p, startOf(t, p), name)
			if want := slices.Contains(p.Nodes, message(name)); ok != want {
				t.Errorf("%v: the message %d is taken: %v", p, name, ok)
			}
		}
	}
}

func TestPromise38MessagesAndTasksDoNotWaitForEachOther(t *testing.T) {
	open := 0
	withDelivered(t, func(p impl.Process, x impl.Instance, name int, y impl.Instance) {
		behind := impl.OpenTasks(p, y)
		for _, node := range impl.OpenTasks(p, x) {
			if !slices.Contains(behind, node) || tokensBefore(p, y, node) < tokensBefore(p, x, node) {
				t.Fatalf("%v: the task %d of %v is not open in %v", p, node, x, y)
			}
			open++
		}
	})
	if open < 500 {
		t.Errorf("%d open tasks test too little", open)
	}
}

func TestPromise39TimeGoesOn(t *testing.T) {
	withAdvanced(t, func(r *rand.Rand, p impl.Process, x impl.Instance, to int, y impl.Instance) {
		if !impl.ValidInstance(p, y) || y.Clock != to || !slices.Equal(y.Values, x.Values) {
			t.Fatalf("%v: the clock makes %v of %v, not of the time %d", p, y, x, to)
		}
		if slices.ContainsFunc(y.Timers, func(w impl.Timer) bool { return w.Due <= to }) {
			t.Fatalf("%v: something is due in %v", p, y)
		}
	})
}

func TestPromise40TimeCanGoOnInSteps(t *testing.T) {
	withAdvanced(t, func(r *rand.Rand, p impl.Process, x impl.Instance, to int, y impl.Instance) {
		between := []int{x.Clock + r.IntN(to-x.Clock+1)}
		for _, w := range x.Timers {
			if w.Due <= to {
				between = append(between, w.Due, w.Due-1)
			}
		}
		for _, at := range between {
			half, ok := impl.AdvanceClock(p, x, at)
			if !ok {
				t.Fatalf("%v: %v can come to the time %d, but not to %d", p, x, to, at)
			}
			whole, ok := impl.AdvanceClock(p, half, to)
			if !ok || !sameInstance(whole, y) {
				t.Fatalf("%v: %v at %d and %d is %v, %v, but at once %v", p, x, at, to, whole, ok, y)
			}
		}
	})
}

func TestPromise41AtTheSameTimeNothingHappens(t *testing.T) {
	withInstances(t, func(r *rand.Rand, p impl.Process, x impl.Instance) {
		if y, ok := impl.AdvanceClock(p, x, x.Clock); !ok || !sameInstance(y, x) {
			t.Fatalf("%v: %v at its time is %v, %v", p, x, y, ok)
		}
	})
}

// withDue calls a function with many instances with timers.
func withDue(t *testing.T, f func(r *rand.Rand, p impl.Process, x impl.Instance, due int)) {
	t.Helper()
	found := 0
	withInstances(t, func(r *rand.Rand, p impl.Process, x impl.Instance) {
		due := impl.NextDue(p, x)
		if (due >= 0) != (len(x.Timers) > 0) {
			t.Fatalf("%v: NextDue of %v = %d", p, x, due)
		}
		if due >= 0 {
			f(r, p, x, due)
			found++
		}
	})
	if found < 2000 {
		t.Errorf("%d instances with timers test too little", found)
	}
}

func TestPromise42NothingIsDueBefore(t *testing.T) {
	withDue(t, func(r *rand.Rand, p impl.Process, x impl.Instance, due int) {
		if due > impl.MaxClock+1 {
			return
		}
		if y, ok := impl.AdvanceClock(p, x, due-1); !ok || !sameInstance(y, withClock(x, due-1)) {
			t.Fatalf("%v: %v before %d is %v, %v", p, x, due, y, ok)
		}
	})
}

func TestPromise43TheNextTimerIsTheFirstOne(t *testing.T) {
	withDue(t, func(r *rand.Rand, p impl.Process, x impl.Instance, due int) {
		least := x.Timers[0].Due
		for _, w := range x.Timers {
			least = min(least, w.Due)
		}
		if due != least {
			t.Fatalf("%v: NextDue of %v = %d", p, x, due)
		}
	})
}

func TestPromise132WithoutSetsValuesStay(t *testing.T) {
	count := 0
	withInstances(t, func(r *rand.Rand, p impl.Process, x impl.Instance) {
		for _, node := range impl.OpenTasks(p, x) {
			for _, list := range [][]impl.Set{nil, {}} {
				y, ok := impl.CompleteTask(p, x, node, list)
				if ok && !slices.Equal(y.Values, x.Values) {
					t.Fatalf("%v: %d makes %v of %v", p, node, y, x)
				}
				count += bit(ok)
			}
		}
	})
	if count < 1000 {
		t.Errorf("%d completed tasks test too little", count)
	}
}

func TestPromise133TwoTasksCanBeCompletedInAnyOrder(t *testing.T) {
	pairs := 0
	withInstances(t, func(r *rand.Rand, p impl.Process, x impl.Instance) {
		if impl.HasCircle(p) || slices.ContainsFunc(p.Nodes, func(n impl.Node) bool { return n.Kind == impl.NodeChoice }) {
			return
		}
		both := func(a int, b int) (impl.Instance, bool) {
			y, ok := impl.CompleteTask(p, x, a, nil)
			if !ok {
				return y, false
			}
			return impl.CompleteTask(p, y, b, nil)
		}
		for _, a := range impl.OpenTasks(p, x) {
			for _, b := range impl.OpenTasks(p, x) {
				one, ok1 := both(a, b)
				two, ok2 := both(b, a)
				if a == b || !ok1 || !ok2 {
					continue
				}
				if !slices.Equal(one.Marks, two.Marks) {
					t.Fatalf("%v: of %v the tasks %d, %d make %v, and the other way round %v", p, x, a, b, one, two)
				}
				pairs++
			}
		}
	})
	if pairs < 500 {
		t.Errorf("%d pairs test too little", pairs)
	}
	p := atOnce(task(), task(), timer(5))
	for _, order := range [][]int{{2, 3}, {3, 2}} {
		x := startOf(t, p)
		for _, node := range order {
			y, ok := impl.CompleteTask(p, x, node, nil)
			if !ok {
				t.Fatalf("the task %d of %v cannot be completed", node, x)
			}
			x = y
		}
		wantList(t, "tokens behind both tasks", x.Marks, 0, 0, 0, 1, 1, 1, 0, 0)
	}
}

func TestPromise134MessagesHaveNames(t *testing.T) {
	withInstances(t, func(r *rand.Rand, p impl.Process, x impl.Instance) {
		for name := -1; name <= impl.MaxName+1; name++ {
			if !slices.Contains(p.Nodes, message(name)) {
				y, ok := impl.DeliverMessage(p, x, name)
				wantFailed(t, "a name that no node has", y, ok)
			}
		}
	})
}

func TestPromise135IfNothingIsDueNothingHappens(t *testing.T) {
	later := 0
	withInstances(t, func(r *rand.Rand, p impl.Process, x impl.Instance) {
		last := impl.MaxClock
		for _, w := range x.Timers {
			last = min(last, w.Due-1)
		}
		for _, to := range []int{x.Clock, last, x.Clock + r.IntN(last-x.Clock+1)} {
			y, ok := impl.AdvanceClock(p, x, to)
			if !ok || !slices.Equal(y.Marks, x.Marks) || !slices.Equal(y.Timers, x.Timers) {
				t.Fatalf("%v: %v at %d is %v, %v", p, x, to, y, ok)
			}
			later += bit(to > x.Clock && len(x.Timers) > 0)
		}
	})
	if later < 1000 {
		t.Errorf("%d later times test too little", later)
	}
}

func TestPromise136NothingHappensToWhatIsDone(t *testing.T) {
	withDone(t, func(r *rand.Rand, p impl.Process, x impl.Instance) {
		for n := -1; n <= 10; n++ {
			y, ok := impl.CompleteTask(p, x, n, nil)
			wantFailed(t, "a task of what is done", y, ok)
			y, ok = impl.DeliverMessage(p, x, n)
			wantFailed(t, "a message for what is done", y, ok)
		}
	})
}
