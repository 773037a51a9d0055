package tests

import (
	"math/rand/v2"
	"slices"
	"testing"

	"loop.example/processengine/impl"
)

func TestJournalConstants(t *testing.T) {
	wantList(t, "limits", []int{impl.MaxEvents}, 12)
	wantList(t, "kinds of events", []int{impl.EventComplete, impl.EventMessage, impl.EventClock}, 1, 2, 3)
}

// ofEachKind returns a process with a task, a timer that waits 5 and a message 3 at once: the nodes 2, 3 and 4.
func ofEachKind() impl.Process { return atOnce(task(), timer(5), message(3)) }

func TestApplyEvent(t *testing.T) {
	p := ofEachKind()
	due := impl.Timer{Node: 3, Due: 5}
	x := startOf(t, p)
	set := impl.Set{Variable: 1, Value: -7}
	for _, e := range []struct {
		what string
		e    impl.Event
		want impl.Instance
	}{
		{"a completed task", completed(2), waits([]int{0, 0, 1, 1, 1, 0, 0, 0}, due)},
		{"a completed task with no values", impl.Event{Kind: 1, Value: 2, Sets: []impl.Set{}}, waits([]int{0, 0, 1, 1, 1, 0, 0, 0}, due)},
		{"a completed task with a value", completed(2, set), impl.Instance{Marks: []int{0, 0, 1, 1, 1, 0, 0, 0}, Values: []int{0, -7, 0, 0}, Timers: []impl.Timer{due}}},
		{"a completed task with as many values as it can have", completed(2, set, set, set, impl.Set{Variable: 3, Value: 9999}), impl.Instance{Marks: []int{0, 0, 1, 1, 1, 0, 0, 0}, Values: []int{0, -7, 0, 9999}, Timers: []impl.Timer{due}}},
		{"a message", delivered(3), waits([]int{0, 1, 1, 0, 0, 0, 1, 0}, due)},
		{"a message with no values", impl.Event{Kind: 2, Value: 3, Sets: []impl.Set{}}, waits([]int{0, 1, 1, 0, 0, 0, 1, 0}, due)},
		{"the same time", passed(0), x},
		{"a time before the timer", passed(4), withClock(x, 4)},
		{"the time of the timer", passed(5), withClock(waits([]int{0, 1, 0, 1, 0, 1, 0, 0}), 5)},
		{"the last time", impl.Event{Kind: 3, Value: 9999, Sets: []impl.Set{}}, withClock(waits([]int{0, 1, 0, 1, 0, 1, 0, 0}), 9999)},
	} {
		y, ok := impl.ApplyEvent(p, x, e.e)
		wantInstance(t, e.what, y, ok, e.want)
	}
}

func TestEventsThatFail(t *testing.T) {
	p := ofEachKind()
	x := startOf(t, p)
	set := impl.Set{Variable: 1, Value: 7}
	for _, e := range []impl.Event{
		completed(0), completed(1), completed(3), completed(4), completed(-1), completed(7),
		completed(2, slices.Repeat([]impl.Set{set}, 5)...), completed(2, impl.Set{Variable: 4}), completed(2, impl.Set{Variable: -1}), completed(2, set, impl.Set{Value: 10000}),
		delivered(2), delivered(0), delivered(-1), delivered(10), passed(-1), passed(10000),
		{Kind: 2, Value: 3, Sets: []impl.Set{set}}, {Kind: 2, Value: 3, Sets: []impl.Set{{}}}, {Kind: 2, Value: 3, Sets: []impl.Set{{Variable: 9}}},
		{Kind: 3, Value: 5, Sets: []impl.Set{set}}, {Kind: 3, Value: 5, Sets: []impl.Set{{}}}, {Kind: 3, Value: 0, Sets: slices.Repeat([]impl.Set{set}, 4)},
	} {
		y, ok := impl.ApplyEvent(p, x, e)
		wantFailed(t, "an event that cannot be", y, ok)
	}
	at5 := withClock(waits([]int{0, 1, 0, 1, 0, 1, 0, 0}), 5)
	y, ok := impl.ApplyEvent(p, at5, passed(4))
	wantFailed(t, "a time that has been", y, ok)
	y, ok = impl.ApplyEvent(p, waits([]int{0, 0, 1, 1, 1, 0, 0, 0}, impl.Timer{Node: 3, Due: 5}), completed(2))
	wantFailed(t, "a task that has been completed", y, ok)
}

func TestKindsOfEvents(t *testing.T) {
	p := ofEachKind()
	x := startOf(t, p)
	for _, kind := range extremes {
		for value := -1; value <= 10; value++ {
			y, ok := impl.ApplyEvent(p, x, impl.Event{Kind: kind, Value: value})
			want := kind == 1 && value == 2 || kind == 2 && value == 3 || kind == 3 && value >= 0
			if !want {
				wantFailed(t, "an event of another kind", y, ok)
			} else if !ok {
				t.Errorf("the event %d of %d fails", kind, value)
			}
			if kind < 1 || kind > 3 { // with values it fails, too
				y, ok = impl.ApplyEvent(p, x, impl.Event{Kind: kind, Value: value, Sets: []impl.Set{{Variable: 1, Value: 1}}})
				wantFailed(t, "an event of another kind with values", y, ok)
			}
		}
	}
}

func TestApplyEventToOthers(t *testing.T) {
	all := []impl.Event{completed(2), delivered(3), passed(0), passed(5), passed(9999), completed(1), delivered(0), {}}
	for _, x := range badInstances() {
		for _, e := range all {
			y, ok := impl.ApplyEvent(atOnce(task(), timer(5)), x, e)
			wantFailed(t, "an instance that is not valid", y, ok)
		}
	}
	for _, p := range badProcesses() {
		for _, e := range all {
			y, ok := impl.ApplyEvent(p, impl.Instance{Marks: make([]int, len(p.Flows)), Values: zeros}, e)
			wantFailed(t, "a process that is not valid", y, ok)
		}
	}
}

func TestReplayEvents(t *testing.T) {
	p := ofEachKind()
	due := impl.Timer{Node: 3, Due: 5}
	v := []int{1, 2, 3, 4}
	at := func(clock int, values []int, marks []int, timers ...impl.Timer) impl.Instance {
		return impl.Instance{Marks: marks, Values: values, Clock: clock, Timers: timers}
	}
	list := []impl.Event{passed(2), completed(2, impl.Set{Variable: 0, Value: 9}), passed(7), delivered(3), passed(8)}
	v9 := []int{9, 2, 3, 4}
	stages := []impl.Instance{
		at(0, v, []int{0, 1, 1, 1, 0, 0, 0, 0}, due), at(2, v, []int{0, 1, 1, 1, 0, 0, 0, 0}, due), at(2, v9, []int{0, 0, 1, 1, 1, 0, 0, 0}, due),
		at(7, v9, []int{0, 0, 0, 1, 1, 1, 0, 0}), at(7, v9, make([]int, 8)), at(8, v9, make([]int, 8)),
	}
	bad := []impl.Event{{}, {Kind: 4}, {Kind: impl.EventMessage, Value: 3, Sets: []impl.Set{{}}}, {Kind: impl.EventClock, Value: 9, Sets: []impl.Set{{}}}, completed(3), delivered(4), passed(-1), passed(10000), completed(2, impl.Set{Variable: 4})}
	for n, want := range stages {
		wantReplayed(t, "a beginning", p, v, list[:n], want, n)
		for _, e := range bad {
			wantReplayed(t, "a beginning with an event that fails", p, v, followed(list[:n], e), want, n)
			wantReplayed(t, "an event that fails in the middle", p, v, slices.Concat(list[:n], []impl.Event{e}, list[n:]), want, n)
		}
	}
	wantReplayed(t, "no list", p, v, nil, stages[0], 0)
	wantReplayed(t, "an empty list", p, v, []impl.Event{}, stages[0], 0)
	wantReplayed(t, "a task twice", p, v, []impl.Event{list[0], list[1], list[1], list[2]}, stages[2], 2)
	wantReplayed(t, "a time that has been", p, v, []impl.Event{list[0], list[1], passed(1), list[2]}, stages[2], 2)
}

func TestAsManyEventsAsTheLimit(t *testing.T) {
	p := nodeCircle(task())
	list := slices.Repeat([]impl.Event{completed(2)}, 12)
	wantReplayed(t, "as many events as the limit", p, zeros, list, waits([]int{0, 1, 0}), 12)
	clocks := []impl.Event{}
	for i := range 12 {
		clocks = append(clocks, passed(100*i+100))
	}
	wantReplayed(t, "as many times as the limit", p, zeros, clocks, withClock(waits([]int{0, 1, 0}), 1200), 12)
	last := replaced(list, 11, passed(-1))
	wantReplayed(t, "a last event that fails", p, zeros, last, waits([]int{0, 1, 0}), 11)
	wantReplayed(t, "a first event that fails", p, zeros, replaced(list, 0, passed(-1)), waits([]int{0, 1, 0}), 0)
	wantSplit(t, "as many events as the limit", p, zeros, list, clocks, 1)
	wantSplit(t, "as many events as the limit", p, zeros, list, list, 0)
	wantSplit(t, "as many events as the limit", p, zeros, list, last, 12)
	wantSplit(t, "as many events as the limit", p, zeros, list, list[:11], 12)
	for _, more := range [][]impl.Event{followed(list, completed(2)), followed(list, passed(-1)), followed(last, completed(2)), followed([]impl.Event{{}}, list...), slices.Repeat(list, 1000)} {
		wantReplayed(t, "more events than the limit", p, zeros, more, impl.Instance{}, -1)
		wantSplit(t, "more events than the limit", p, zeros, more, more, -1)
		wantSplit(t, "more events than the limit in one list", p, zeros, list, more, -1)
		wantSplit(t, "more events than the limit in one list", p, zeros, nil, more, -1)
		wantSplit(t, "more events than the limit in one list, behind a split", p, zeros, clocks, more, -1)
	}
}

func TestJournalsOfProcessesThatCannotBegin(t *testing.T) {
	for _, c := range badStarts() {
		for _, list := range [][]impl.Event{nil, {}, {completed(1)}, {passed(0)}, {{}}, slices.Repeat([]impl.Event{passed(1)}, 12), slices.Repeat([]impl.Event{passed(1)}, 13)} {
			if x, n := impl.ReplayEvents(c.p, c.v, list); n != -1 || x.Marks != nil || x.Values != nil || x.Clock != 0 || x.Timers != nil {
				t.Errorf("ReplayEvents(%v, %v, %v) = %v, %d", c.p, c.v, list, x, n)
			}
			wantSplit(t, "a process that cannot begin", c.p, c.v, list, list, -1)
			wantSplit(t, "a process that cannot begin", c.p, c.v, list, nil, -1)
			wantSplit(t, "a process that cannot begin", c.p, c.v, list, []impl.Event{passed(5), delivered(3)}, -1)
		}
	}
}

func TestFirstSplit(t *testing.T) {
	p := ofEachKind()
	list := []impl.Event{passed(2), completed(2, impl.Set{Variable: 0, Value: 9}), passed(7), delivered(3), passed(8)}
	wantSplit(t, "two empty journals", p, zeros, nil, []impl.Event{}, 0)
	wantSplit(t, "a journal and none", p, zeros, nil, list, 1)
	wantSplit(t, "equal journals", p, zeros, list, journal(list...), 0)
	for n := range list {
		wantSplit(t, "a journal and its beginning", p, zeros, list, list[:n], n+1)
		wantSplit(t, "an event that fails in one journal", p, zeros, list, replaced(list, n, passed(1-n)), n+1)
		both := replaced(list, n, impl.Event{})
		wantSplit(t, "an event that fails in both", p, zeros, both, both, 0)
		wantSplit(t, "events that fail in both for other reasons", p, zeros, both, replaced(list, n, completed(3)), 0)
		wantSplit(t, "events that fail in both, with other ones behind them", p, zeros, followed(list[:n], impl.Event{}, passed(50)), followed(list[:n], delivered(9), passed(60)), 0)
		wantSplit(t, "events that fail in both, with nothing behind one of them", p, zeros, both, followed(list[:n], impl.Event{}), 0)
		wantSplit(t, "an event that fails, and no event", p, zeros, list[:n], followed(list[:n], impl.Event{}), n+1)
		wantSplit(t, "an event that fails, and no event, with more events", p, zeros, list[:n], followed(list[:n], impl.Event{}, passed(60)), n+1)
		wantSplit(t, "an event more", p, zeros, list, slices.Concat(list[:n], []impl.Event{passed(1000)}, list[n:]), n+1)
	}
	wantSplit(t, "another last time", p, zeros, list, replaced(list, 4, passed(9)), 5)
	wantSplit(t, "another first time", p, zeros, list, replaced(list, 0, passed(1)), 1)
	wantSplit(t, "another value", p, zeros, list, replaced(list, 1, completed(2, impl.Set{Variable: 0, Value: 8})), 2)
	wantSplit(t, "another variable", p, zeros, list, replaced(list, 1, completed(2, impl.Set{Variable: 1, Value: 9})), 2)
	// Each event can only follow the one before it.
	two := []impl.Event{completed(1), completed(2), passed(5)}
	wantSplit(t, "a time behind two tasks", line(impl.NodeTask, impl.NodeTask), zeros, two, replaced(two, 2, passed(6)), 3)
	wantSplit(t, "nothing behind two tasks", line(impl.NodeTask, impl.NodeTask), zeros, two[:2], two[:1], 2)
	wantSplit(t, "a task twice", line(impl.NodeTask, impl.NodeTask), zeros, two, replaced(two, 1, completed(1)), 2)
	wantSplit(t, "other tokens", p, zeros, []impl.Event{completed(2)}, []impl.Event{delivered(3)}, 1)
}

func TestOtherEventsToTheSameInstance(t *testing.T) {
	p := atOnce(task(), timer(5), message(3), task()) // 2, 3, 4 and 5
	list := []impl.Event{completed(2, impl.Set{Variable: 0, Value: 9}), passed(1)}
	same := replaced(list, 0, completed(2, impl.Set{Variable: 1, Value: 0}, impl.Set{Variable: 0, Value: 3}, impl.Set{Variable: 0, Value: 9}))
	wantSplit(t, "values that are set in another way", p, zeros, list, same, 0)
	wantSplit(t, "values that are set in another way, and then an event more", p, zeros, list, followed(same, passed(2)), 3)
	wantSplit(t, "values that are set as they are", p, zeros, []impl.Event{completed(2)}, []impl.Event{completed(2, impl.Set{})}, 0)
	wantSplit(t, "the other order", p, zeros, []impl.Event{completed(2), completed(5)}, []impl.Event{completed(5), completed(2)}, 1)
	circle := nodeCircle(task())
	wantSplit(t, "a task that comes back, and no time", circle, zeros, []impl.Event{completed(2), passed(9)}, []impl.Event{passed(0), passed(9)}, 0)
	wantSplit(t, "a task that comes back, and time", circle, zeros, []impl.Event{completed(2), passed(9)}, []impl.Event{passed(1), passed(9)}, 1)
	wantSplit(t, "a time in two steps, and in one", lineOf(timer(5), message(1)), zeros, []impl.Event{passed(3), passed(5)}, []impl.Event{passed(5), passed(5)}, 1)
}

// TestDifferentWaysToTheSameTokens has a task and a message at once, each before a way to the same timer.
func TestDifferentWaysToTheSameTokens(t *testing.T) {
	p := draw([]int{impl.NodeStart, impl.NodeFork, impl.NodeMerge, impl.NodeTimer, impl.NodeEnd, impl.NodeTask, impl.NodeMessage},
		[2]int{0, 1}, [2]int{1, 5}, [2]int{1, 6}, [2]int{5, 2}, [2]int{6, 2}, [2]int{2, 3}, [2]int{3, 4})
	p.Nodes[3].Value = 5
	at := func(due int) impl.Timer { return impl.Timer{Node: 3, Due: due} }
	early := []impl.Event{completed(5), passed(3), delivered(0)}
	late := []impl.Event{passed(3), completed(5), delivered(0)}
	wantReplayed(t, "a timer that starts early", p, zeros, early, withClock(waits([]int{0, 0, 0, 0, 0, 2, 0}, at(5), at(8)), 3), 3)
	wantReplayed(t, "both timers at once", p, zeros, late, withClock(waits([]int{0, 0, 0, 0, 0, 2, 0}, at(8), at(8)), 3), 3)
	wantSplit(t, "a timer that starts early", p, zeros, early, late, 1)
	other := []impl.Event{passed(3), delivered(0), completed(5)}
	wantReplayed(t, "both in the other order", p, zeros, other, withClock(waits([]int{0, 0, 0, 0, 0, 2, 0}, at(8), at(8)), 3), 3)
	// They lead to the same instance in the end, but not between.
	wantSplit(t, "both orders at the same time", p, zeros, late, other, 2)
	wantSplit(t, "both orders at the same time, one of them not done", p, zeros, late, other[:2], 2)
}

// journalCount is how often journals end in each way.
type journalCount struct{ all, some, none, first, last, middle, both, shorter int }

// TestRandomJournals compares the functions for many journals with what they have to be.
func TestRandomJournals(t *testing.T) {
	t.Parallel()
	var n journalCount
	r := newRandom(23)
	for _, c := range journalCases() {
		v := c.v
		if r.IntN(50) == 0 {
			v = badValues()[r.IntN(len(badValues()))]
		}
		a, b := c.a, c.b
		if r.IntN(50) == 0 {
			a = followed(a, slices.Repeat([]impl.Event{passed(0)}, 13-len(a))...)
		}
		compareJournals(t, c.p, v, a, b, &n)
	}
	if min(n.all, n.some, n.none, n.first, n.last, n.middle, n.both, n.shorter) < 50 {
		t.Errorf("%+v test too little", n)
	}
}

func compareJournals(t *testing.T, p impl.Process, v []int, a []impl.Event, b []impl.Event, n *journalCount) {
	t.Helper()
	for _, list := range [][]impl.Event{a, b} {
		x, many := impl.ReplayEvents(p, v, list)
		want, wantMany := wantedReplay(p, v, list)
		if many != wantMany || !sameInstance(x, want) {
			t.Fatalf("ReplayEvents(%v, %v, %v) = %v, %d, want %v, %d", p, v, list, x, many, want, wantMany)
		}
		n.all += bit(many == len(list))
		n.some += bit(many > 0 && many < len(list))
		n.none += bit(many == -1)
	}
	split, want := impl.FirstSplit(p, v, a, b), wantedSplit(p, v, a, b)
	if split != want {
		t.Fatalf("FirstSplit(%v, %v, %v, %v) = %d, want %d", p, v, a, b, split, want)
	}
	n.first += bit(split == 1)
	n.last += bit(split > 1 && split == len(a) && len(a) == len(b))
	n.middle += bit(split > 1 && split < min(len(a), len(b)))
	n.shorter += bit(split > min(len(a), len(b)))
	if _, many := impl.ReplayEvents(p, v, a); split == 0 && many < len(a) {
		n.both++
	}
}

// TestRandomEvents compares ApplyEvent for many instances, valid or not, with what it has to be.
func TestRandomEvents(t *testing.T) {
	t.Parallel()
	succeeded, failed := 0, 0
	withInstances(t, func(r *rand.Rand, p impl.Process, x impl.Instance) {
		if r.IntN(8) == 0 {
			x = alteredInstance(r, x)
		}
		for _, e := range []impl.Event{someEvent(r, p, x), someEvent(r, p, x), badEvent(r, p), anyEvent(r)} {
			y, ok := impl.ApplyEvent(p, x, e)
			want, wantOk := wantedApply(p, x, e)
			if ok != wantOk || !sameInstance(y, want) {
				t.Fatalf("ApplyEvent(%v, %v, %v) = %v, %v, want %v, %v", p, x, e, y, ok, want, wantOk)
			}
			succeeded += bit(ok)
			failed += bit(!ok)
		}
	})
	if min(succeeded, failed) < 5000 {
		t.Errorf("%d events that succeed and %d that fail test too little", succeeded, failed)
	}
}

// anyEvent returns an event that hardly ever can be.
func anyEvent(r *rand.Rand) impl.Event {
	e := impl.Event{Kind: r.IntN(5), Value: anyNumber(r)}
	if r.IntN(4) == 0 {
		e.Kind = anyNumber(r)
	}
	for range r.IntN(7) * r.IntN(2) {
		e.Sets = append(e.Sets, impl.Set{Variable: anyNumber(r), Value: anyNumber(r)})
	}
	return e
}
