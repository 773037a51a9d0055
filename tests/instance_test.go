package tests

import (
	"math"
	"math/rand/v2"
	"slices"
	"testing"

	"loop.example/processengine/impl"
)

func TestInstanceConstants(t *testing.T) {
	wantList(t, "limits", []int{impl.MaxClock, impl.MaxSteps}, 9999, 30)
}

func TestStartInstance(t *testing.T) {
	wait := func(node int, due int) []impl.Timer { return []impl.Timer{{Node: node, Due: due}} }
	repeat := repeatTask()
	emptyChoice := conditionedChoice(parts(variable(0)), parts(variable(1)), nil)
	for _, x := range []struct {
		what   string
		p      impl.Process
		marks  []int
		timers []impl.Timer
	}{
		{"no task", line(), []int{0}, nil},
		{"a task", line(impl.NodeTask), []int{1, 0}, nil},
		{"a timer", lineOf(timer(7)), []int{1, 0}, wait(1, 7)},
		{"a timer that waits as long as it can", lineOf(timer(100)), []int{1, 0}, wait(1, 100)},
		{"a message", lineOf(message(3)), []int{1, 0}, nil},
		{"a timer behind a task", lineOf(task(), timer(7)), []int{1, 0, 0}, nil},
		{"a task behind a timer", lineOf(timer(7), task()), []int{1, 0, 0}, wait(1, 7)},
		{"two tasks in any order", bothTasks(), []int{0, 1, 0, 0, 0, 1}, nil},
		{"a task and a timer", atOnce(task(), timer(5)), []int{0, 1, 1, 0, 0, 0}, wait(3, 5)},
		{"three timers", atOnce(timer(5), timer(3), timer(5)), []int{0, 1, 1, 1, 0, 0, 0, 0}, []impl.Timer{{Node: 3, Due: 3}, {Node: 2, Due: 5}, {Node: 4, Due: 5}}},
		{"two tokens at a timer", severalAt(timer(5), 2), []int{0, 2, 0, 0, 0}, slices.Repeat(wait(3, 5), 2)},
		{"three tokens at a timer", severalAt(timer(5), 3), []int{0, 3, 0, 0, 0, 0}, slices.Repeat(wait(3, 5), 3)},
		{"a task in a circle", repeat, []int{0, 1, 0, 0, 0}, nil},
		{"a wide fork", wideFork(12), make([]int, 14), nil},
		{"a choice with a rest", emptyChoice, []int{0, 0, 0, 0}, nil},
		{"an empty circle that is left", emptyCircle(), []int{0, 0, 0, 0}, nil},
		{"a join that waits for itself", ownCircle(impl.NodeJoin), []int{0, 1}, nil},
		{"a join behind a choice", twoWays(impl.NodeChoice, impl.NodeJoin), []int{0, 1, 0, 0, 0, 0}, nil},
		{"a fork without a join", twoWays(impl.NodeFork, impl.NodeMerge), []int{0, 1, 1, 0, 0, 0}, nil},
	} {
		got, ok := impl.StartInstance(x.p, []int{0, 0, 7, -9999})
		wantInstance(t, x.what, got, ok, impl.Instance{Marks: x.marks, Values: []int{0, 0, 7, -9999}, Timers: x.timers})
		if !impl.ValidInstance(x.p, got) {
			t.Errorf("%s: %v is not valid", x.what, got)
		}
	}
}

func TestStartInstanceWithValues(t *testing.T) {
	p := draw([]int{impl.NodeStart, impl.NodeChoice, impl.NodeTask, impl.NodeTask, impl.NodeMerge, impl.NodeEnd},
		[2]int{0, 1}, [2]int{1, 2}, [2]int{1, 3}, [2]int{2, 4}, [2]int{3, 4}, [2]int{4, 5})
	p.Flows[1].When = parts(variable(0), number(9999), operator(impl.PartEqual))
	p.Flows[2].When = parts(variable(0), number(-9999), operator(impl.PartEqual))
	wantList(t, "tokens of the first way", startOf(t, p, 9999, 0, 0, 0).Marks, 0, 1, 0, 0, 0, 0)
	wantList(t, "tokens of the second way", startOf(t, p, -9999, 0, 0, 0).Marks, 0, 0, 1, 0, 0, 0)
	for _, n := range []int{0, 9998, -9998} {
		x, ok := impl.StartInstance(p, []int{n, 9999, 9999, -9999})
		wantFailed(t, "a choice without a way", x, ok)
	}
	for _, v := range badValues() {
		for _, p := range []impl.Process{p, line(), line(impl.NodeTask)} {
			x, ok := impl.StartInstance(p, v)
			wantFailed(t, "values that are not valid", x, ok)
		}
	}
	for _, n := range []int{-9999, 9999} {
		wantList(t, "values at the limit", startOf(t, line(), n, n, n, n).Values, n, n, n, n)
	}
}

func TestStartInstanceThatFails(t *testing.T) {
	for _, p := range badProcesses() {
		x, ok := impl.StartInstance(p, zeros)
		wantFailed(t, "a process that is not valid", x, ok)
	}
	x, ok := impl.StartInstance(severalAt(timer(5), 4), zeros)
	wantFailed(t, "four tokens at a timer", x, ok)
	x, ok = impl.StartInstance(ownCircle(impl.NodeMerge), zeros)
	wantFailed(t, "a merge that follows itself", x, ok)
	for _, n := range []int{-9999, -1, 1, 9999} {
		x, ok = impl.StartInstance(emptyCircle(), []int{n, 0, 0, 0})
		wantFailed(t, "an empty circle that is not left", x, ok)
	}
	fork := draw([]int{impl.NodeStart, impl.NodeMerge, impl.NodeFork, impl.NodeTask}, [2]int{0, 1}, [2]int{1, 2}, [2]int{2, 1}, [2]int{2, 3}, [2]int{3, 1})
	x, ok = impl.StartInstance(fork, zeros)
	wantFailed(t, "an empty circle that puts a token at a task each time", x, ok)
}

func TestAsManyStepsAsTheLimit(t *testing.T) {
	for _, steps := range []int{29, 30} {
		p := withoutNode(longWay(task(), steps))
		x := startOf(t, p)
		wantInstance(t, "a long way", x, true, impl.Instance{Marks: make([]int, len(p.Flows)), Values: zeros})
		// Nodes near the start go on first, so that four tokens come to a flow.
		x, ok := impl.StartInstance(upsideDown(p), zeros)
		wantFailed(t, "a long way upside down", x, ok)
	}
	x, ok := impl.StartInstance(withoutNode(longWay(task(), 31)), zeros)
	wantFailed(t, "a way that is too long", x, ok)
}

func TestTheFirstNodeGoesOnFirst(t *testing.T) {
	// Three tokens go one after the other, each to its end, only if the end comes before the merge, and this before the fork.
	p := draw([]int{impl.NodeEnd, impl.NodeMerge, impl.NodeFork, impl.NodeStart}, [2]int{3, 2}, [2]int{2, 1}, [2]int{2, 1}, [2]int{2, 1}, [2]int{2, 1}, [2]int{1, 0})
	wantInstance(t, "the end first", startOf(t, p), true, impl.Instance{Marks: make([]int, 6), Values: zeros})
	x, ok := impl.StartInstance(upsideDown(p), zeros)
	wantFailed(t, "the end last", x, ok)
}

func TestValidInstance(t *testing.T) {
	p := atOnce(timer(5), timer(3), task())
	good := func(marks []int, clock int, timers ...impl.Timer) {
		t.Helper()
		x := impl.Instance{Marks: marks, Values: []int{9999, -9999, 0, 1}, Clock: clock, Timers: timers}
		if !impl.ValidInstance(p, x) {
			t.Errorf("%v is not valid", x)
		}
	}
	bad := func(marks []int, clock int, timers ...impl.Timer) {
		t.Helper()
		x := impl.Instance{Marks: marks, Values: zeros, Clock: clock, Timers: timers}
		if impl.ValidInstance(p, x) {
			t.Errorf("%v is valid", x)
		}
	}
	none, both := []int{0, 0, 0, 0, 0, 0, 0, 0}, []int{0, 1, 1, 1, 0, 0, 0, 0}
	for _, clock := range []int{0, 1, 100, 9998, 9999} {
		good(none, clock)
		good(both, clock, impl.Timer{Node: 2, Due: clock + 1}, impl.Timer{Node: 3, Due: clock + 1})
		good(both, clock, impl.Timer{Node: 3, Due: clock + 1}, impl.Timer{Node: 2, Due: clock + 2})
		good(both, clock, impl.Timer{Node: 2, Due: 10098}, impl.Timer{Node: 3, Due: 10099})
		bad(both, clock, impl.Timer{Node: 3, Due: clock + 1}, impl.Timer{Node: 2, Due: clock + 1})
		bad(both, clock, impl.Timer{Node: 2, Due: clock + 2}, impl.Timer{Node: 3, Due: clock + 1})
		bad(both, clock, impl.Timer{Node: 2, Due: clock}, impl.Timer{Node: 3, Due: clock + 1})
		bad(both, clock, impl.Timer{Node: 2, Due: clock - 1}, impl.Timer{Node: 3, Due: clock + 1})
		bad(both, clock, impl.Timer{Node: 2, Due: 10099}, impl.Timer{Node: 3, Due: 10100})
		bad(both, clock, impl.Timer{Node: 2, Due: clock + 1}, impl.Timer{Node: 3, Due: math.MaxInt})
	}
	for _, clock := range []int{math.MinInt, -1, 10000, 10098, math.MaxInt} {
		bad(none, clock)
		bad(both, clock, impl.Timer{Node: 2, Due: 10099}, impl.Timer{Node: 3, Due: 10099})
	}
	good([]int{0, 0, 0, 3, 3, 3, 0, 0}, 0)
	good([]int{0, 0, 0, 0, 0, 3, 3, 0}, 0)
	bad([]int{0, 0, 0, 0, 1, 1, 1, 0}, 0) // the join can go on
	bad([]int{1, 0, 0, 0, 0, 0, 0, 0}, 0) // the fork
	bad([]int{0, 0, 0, 0, 0, 0, 0, 1}, 0) // the end
	bad([]int{0, 0, 0, 4, 0, 0, 0, 0}, 0)
	bad([]int{0, 0, 0, -1, 0, 0, 0, 0}, 0)
	bad([]int{0, 0, 0, 0, 0, 0, 0}, 0)
	bad(nil, 0)
}

func TestValidInstanceHasItsTimers(t *testing.T) {
	p := atOnce(timer(5), timer(3), task())
	a, b := impl.Timer{Node: 2, Due: 4}, impl.Timer{Node: 3, Due: 4}
	for _, x := range []struct {
		first, second int
		timers        []impl.Timer
		want          bool
	}{
		{0, 0, nil, true}, {0, 0, []impl.Timer{}, true}, {1, 0, []impl.Timer{a}, true}, {0, 1, []impl.Timer{b}, true},
		{2, 0, []impl.Timer{a, a}, true}, {3, 3, []impl.Timer{a, a, a, b, b, b}, true}, {2, 1, []impl.Timer{a, a, b}, true},
		{1, 0, nil, false}, {0, 1, nil, false}, {0, 0, []impl.Timer{a}, false}, {1, 0, []impl.Timer{b}, false}, {1, 1, []impl.Timer{a}, false},
		{1, 1, []impl.Timer{b}, false}, {1, 0, []impl.Timer{a, a}, false}, {2, 0, []impl.Timer{a}, false}, {1, 1, []impl.Timer{a, a}, false},
		{2, 1, []impl.Timer{a, b, b}, false}, {2, 1, []impl.Timer{a, b, a}, false}, {1, 0, []impl.Timer{a, b}, false}, {3, 0, slices.Repeat([]impl.Timer{a}, 4), false},
		{0, 0, slices.Repeat([]impl.Timer{a}, 100000), false},
		{3, 0, []impl.Timer{a, {Node: 2, Due: 9}, {Node: 2, Due: 9}}, true}, {3, 0, []impl.Timer{a, {Node: 2, Due: 9}, {Node: 2, Due: 8}}, false},
	} {
		y := impl.Instance{Marks: []int{0, x.first, x.second, 0, 0, 0, 0, 0}, Values: zeros, Timers: x.timers}
		if got := impl.ValidInstance(p, y); got != x.want {
			t.Errorf("ValidInstance(%v) = %v", y, got)
		}
	}
	for _, node := range extremes {
		x := impl.Instance{Marks: []int{0, 1, 0, 1, 0, 0, 0, 0}, Values: zeros, Timers: []impl.Timer{{Node: node, Due: 4}}}
		if got := impl.ValidInstance(p, x); got != (node == 2) {
			t.Errorf("ValidInstance(%v) = %v", x, got)
		}
		x.Timers = append([]impl.Timer{a}, x.Timers...) // one more for a node that has no tokens, or is no timer
		if impl.ValidInstance(p, x) {
			t.Errorf("ValidInstance(%v) = true", x)
		}
	}
	// Tokens that come back to their timer at once.
	own := draw([]int{impl.NodeStart, impl.NodeEnd, impl.NodeTimer}, [2]int{0, 1}, [2]int{2, 2})
	x := impl.Instance{Marks: []int{0, 1}, Values: zeros, Timers: []impl.Timer{{Node: 2, Due: 1}}}
	if !impl.ValidInstance(own, x) {
		t.Errorf("ValidInstance(%v) = false", x)
	}
}

func TestValidInstanceOfEachKind(t *testing.T) {
	for _, p := range []impl.Process{bothTasks(), repeatTask(), twoWays(impl.NodeChoice, impl.NodeMerge), wideFork(3), lineOf(message(3))} {
		for f, w := range p.Flows {
			kind := p.Nodes[w.To].Kind
			x := impl.Instance{Marks: changed(make([]int, len(p.Flows)), f, 1), Values: zeros}
			want := kind == impl.NodeTask || kind == impl.NodeMessage || kind == impl.NodeJoin
			if got := impl.ValidInstance(p, x); got != want {
				t.Errorf("%v: ValidInstance with a token at the node %d = %v", p, w.To, got)
			}
		}
	}
}

// badInstances returns instances that are not valid, each of them for one reason alone, for a process with one task and one timer at once.
func badInstances() []impl.Instance {
	good := startOfBoth()
	var list []impl.Instance
	add := func(change func(x *impl.Instance)) {
		x := copyInstance(good)
		change(&x)
		list = append(list, x)
	}
	for _, v := range badValues() {
		add(func(x *impl.Instance) { x.Values = v })
	}
	for _, n := range []int{math.MinInt, -1, 5, 6, 10000, math.MaxInt} { // the timer is due at 5
		add(func(x *impl.Instance) { x.Clock = n })
	}
	for _, n := range []int{math.MinInt, -1, 0, 10100, math.MaxInt} {
		add(func(x *impl.Instance) { x.Timers[0].Due = n })
	}
	for _, n := range []int{math.MinInt, -1, 0, 1, 2, 4, 5, 6, math.MaxInt} {
		add(func(x *impl.Instance) { x.Timers[0].Node = n })
	}
	add(func(x *impl.Instance) { x.Timers = nil })
	add(func(x *impl.Instance) { x.Timers = append(x.Timers, impl.Timer{Node: 3, Due: 9}) })
	for _, n := range []int{math.MinInt, -1, 4, math.MaxInt} {
		add(func(x *impl.Instance) { x.Marks[1] = n })
		add(func(x *impl.Instance) { x.Marks[3] = n })
	}
	for _, f := range []int{0, 5} { // before the fork and the end
		add(func(x *impl.Instance) { x.Marks[f] = 1 })
	}
	add(func(x *impl.Instance) { x.Marks[3], x.Marks[4] = 1, 1 })
	add(func(x *impl.Instance) { x.Marks = x.Marks[:5] })
	add(func(x *impl.Instance) { x.Marks = append(x.Marks, 0) })
	add(func(x *impl.Instance) { x.Marks = nil })
	return append(list, impl.Instance{})
}

// startOfBoth returns the first instance of atOnce(task(), timer(5)).
func startOfBoth() impl.Instance {
	return impl.Instance{Marks: []int{0, 1, 1, 0, 0, 0}, Values: []int{0, 0, 0, 0}, Timers: []impl.Timer{{Node: 3, Due: 5}}}
}

// wantBadInstance fails if a function gives a process or an instance that is not valid any other than its one result.
func wantBadInstance(t *testing.T, p impl.Process, x impl.Instance) {
	t.Helper()
	if impl.ValidInstance(p, x) || impl.IsDone(p, x) {
		t.Errorf("%v: %v is valid or done", p, x)
	}
	if list := impl.OpenTasks(p, x); len(list) != 0 {
		t.Errorf("OpenTasks(%v, %v) = %v", p, x, list)
	}
	if n := impl.NextDue(p, x); n != -1 {
		t.Errorf("NextDue(%v, %v) = %d", p, x, n)
	}
	for n := -1; n <= 10; n++ {
		y, ok := impl.CompleteTask(p, x, n, nil)
		wantFailed(t, "CompleteTask", y, ok)
		y, ok = impl.DeliverMessage(p, x, n)
		wantFailed(t, "DeliverMessage", y, ok)
	}
	for _, to := range append(extremes, x.Clock) {
		y, ok := impl.AdvanceClock(p, x, to)
		wantFailed(t, "AdvanceClock", y, ok)
	}
}

func TestInstancesThatAreNotValid(t *testing.T) {
	p := atOnce(task(), timer(5))
	if !impl.ValidInstance(p, startOfBoth()) {
		t.Fatalf("%v is not valid", startOfBoth())
	}
	for _, x := range badInstances() {
		wantBadInstance(t, p, x)
	}
	for _, p := range badProcesses() {
		none := impl.Instance{Marks: make([]int, len(p.Flows)), Values: zeros}
		wantBadInstance(t, p, none)
		wantBadInstance(t, p, impl.Instance{Marks: none.Marks, Values: zeros, Clock: 9999})
		wantBadInstance(t, p, impl.Instance{})
	}
	badWhen := lineOf(task(), message(3))
	badWhen.Flows[1].When = parts(number(1))
	wantBadInstance(t, badWhen, impl.Instance{Marks: []int{1, 1, 0}, Values: zeros})
}

func TestOpenTasks(t *testing.T) {
	p := atOnce(task(), timer(5), task(), message(3)) // 2, 3, 4 and 5
	at := []impl.Timer{{Node: 3, Due: 1}}
	for _, x := range []struct {
		marks  []int
		timers []impl.Timer
		want   []int
	}{
		{[]int{0, 1, 1, 1, 1, 0, 0, 0, 0, 0}, at, []int{2, 4}},
		{[]int{0, 3, 0, 0, 1, 0, 0, 0, 0, 0}, nil, []int{2}},
		{[]int{0, 0, 1, 2, 0, 0, 0, 0, 0, 0}, at, []int{4}},
		{[]int{0, 0, 1, 0, 1, 0, 0, 0, 0, 0}, at, nil},
		{[]int{0, 0, 0, 0, 0, 3, 3, 3, 0, 0}, nil, nil},
		{[]int{0, 0, 0, 0, 0, 0, 0, 0, 0, 0}, nil, nil},
	} {
		y := impl.Instance{Marks: x.marks, Values: zeros, Timers: x.timers}
		wantList(t, "OpenTasks", impl.OpenTasks(p, y), x.want...)
		if got := impl.IsDone(p, y); got != (sumOf(x.marks) == 0) {
			t.Errorf("IsDone(%v) = %v", y, got)
		}
	}
	wantList(t, "OpenTasks in any order", impl.OpenTasks(bothTasks(), startOf(t, bothTasks())), 2, 4)
	own := impl.Instance{Marks: []int{0, 2}, Values: zeros, Clock: 9999}
	wantList(t, "OpenTasks that nothing reaches", impl.OpenTasks(lostCircle(), own), 2)
}

func TestIsDone(t *testing.T) {
	if x := startOf(t, line()); !impl.IsDone(line(), x) {
		t.Errorf("%v is not done", x)
	}
	for _, clock := range []int{0, 5, 9999} {
		if x := (impl.Instance{Marks: []int{0, 0}, Values: zeros, Clock: clock}); !impl.IsDone(line(impl.NodeTask), x) || !impl.IsDone(lineOf(timer(1)), x) {
			t.Errorf("%v is not done", x)
		}
	}
	stuck := startOf(t, ownCircle(impl.NodeJoin)) // nobody can do anything, but there is a token
	if impl.IsDone(ownCircle(impl.NodeJoin), stuck) {
		t.Errorf("%v is done", stuck)
	}
	late := impl.Instance{Marks: []int{0, 0}, Values: zeros, Timers: []impl.Timer{{Node: 1, Due: 5}}}
	if impl.IsDone(lineOf(timer(5)), late) {
		t.Errorf("%v is done", late)
	}
}

// TestRandomInstances compares the functions for many instances, valid or not, with what they have to be.
func TestRandomInstances(t *testing.T) {
	t.Parallel()
	bad := 0
	withInstances(t, func(r *rand.Rand, p impl.Process, x impl.Instance) {
		if !impl.ValidInstance(p, x) {
			t.Fatalf("%v: %v is not valid", p, x)
		}
		compareInstance(t, p, x)
		y := alteredInstance(r, x)
		compareInstance(t, p, y)
		bad += bit(!impl.ValidInstance(p, y))
	})
	if bad < 1000 {
		t.Errorf("%d instances that are not valid test too little", bad)
	}
	started, failed := 0, 0
	r := newRandom(15)
	for _, p := range tokenProcesses() {
		v := smallValues(r)
		got, ok := impl.StartInstance(p, v)
		want, wantOk := wantedStart(p, v)
		if !sameInstance(got, want) || ok != wantOk {
			t.Fatalf("StartInstance(%v, %v) = %v, %v, want %v, %v", p, v, got, ok, want, wantOk)
		}
		started, failed = started+bit(ok), failed+bit(!ok)
	}
	if min(started, failed) < 500 {
		t.Errorf("%d instances that begin, and %d that do not, test too little", started, failed)
	}
}

func compareInstance(t *testing.T, p impl.Process, x impl.Instance) {
	t.Helper()
	if got, want := impl.ValidInstance(p, x), wantedValidInstance(p, x); got != want {
		t.Fatalf("ValidInstance(%v, %v) = %v", p, x, got)
	}
	if got, want := impl.OpenTasks(p, x), wantedOpen(p, x); !slices.Equal(got, want) {
		t.Fatalf("OpenTasks(%v, %v) = %v, want %v", p, x, got, want)
	}
	if got, want := impl.IsDone(p, x), wantedDone(p, x); got != want {
		t.Fatalf("IsDone(%v, %v) = %v", p, x, got)
	}
	if got, want := impl.NextDue(p, x), wantedNextDue(p, x); got != want {
		t.Fatalf("NextDue(%v, %v) = %d, want %d", p, x, got, want)
	}
}
