package tests

import (
	"math"
	"math/rand/v2"
	"slices"
	"testing"

	"loop.example/processengine/impl"
)

func TestRunConstants(t *testing.T) {
	wantList(t, "limits", []int{impl.MaxSets}, 4)
}

// waits returns an instance without values other than 0 at the time 0.
func waits(marks []int, timers ...impl.Timer) impl.Instance {
	return impl.Instance{Marks: marks, Values: []int{0, 0, 0, 0}, Timers: timers}
}

// withClock returns an instance at another time.
func withClock(x impl.Instance, clock int) impl.Instance {
	y := copyInstance(x)
	y.Clock = clock
	return y
}

func TestCompleteTask(t *testing.T) {
	p := atOnce(task(), timer(5))
	x, ok := impl.CompleteTask(p, startOfBoth(), 2, nil)
	wantInstance(t, "a task beside a timer", x, ok, waits([]int{0, 0, 1, 1, 0, 0}, impl.Timer{Node: 3, Due: 5}))
	late := impl.Instance{Marks: []int{0, 1, 0, 0, 1, 0}, Values: []int{1, 2, 3, 4}, Clock: 77}
	x, ok = impl.CompleteTask(p, late, 2, nil)
	wantInstance(t, "a task behind a timer", x, ok, impl.Instance{Marks: make([]int, 6), Values: []int{1, 2, 3, 4}, Clock: 77})
	several := waits([]int{0, 3, 0, 2, 0, 0})
	x, ok = impl.CompleteTask(p, several, 2, nil)
	wantInstance(t, "one of three tokens at a task", x, ok, waits([]int{0, 2, 0, 3, 0, 0}))
	x, ok = impl.CompleteTask(p, x, 2, nil)
	wantFailed(t, "a task before a full flow", x, ok)
	next := lineOf(task(), task())
	x, ok = impl.CompleteTask(next, waits([]int{1, 2, 0}), 1, nil)
	wantInstance(t, "a task before another one", x, ok, waits([]int{0, 3, 0}))
	x, ok = impl.CompleteTask(next, waits([]int{1, 3, 0}), 1, nil)
	wantFailed(t, "a task before a full one", x, ok)
	x, ok = impl.CompleteTask(next, waits([]int{1, 3, 0}), 2, nil)
	wantInstance(t, "a task that is full", x, ok, waits([]int{1, 2, 0}))
	x, ok = impl.CompleteTask(lostCircle(), waits([]int{0, 3}), 2, nil)
	wantInstance(t, "a task that follows itself", x, ok, waits([]int{0, 3}))
	x, ok = impl.CompleteTask(nodeCircle(task()), waits([]int{0, 1, 0}), 2, nil)
	wantInstance(t, "a task in a circle", x, ok, waits([]int{0, 1, 0}))
}

func TestCompleteTaskStartsTimers(t *testing.T) {
	p := lineOf(task(), timer(100))
	for _, clock := range []int{0, 1, 9998, 9999} {
		x, ok := impl.CompleteTask(p, withClock(waits([]int{1, 0, 0}), clock), 1, nil)
		wantInstance(t, "a timer behind a task", x, ok, withClock(waits([]int{0, 1, 0}, impl.Timer{Node: 2, Due: clock + 100}), clock))
		x, ok = impl.CompleteTask(p, withClock(waits([]int{1, 2, 0}, impl.Timer{Node: 2, Due: clock + 7}, impl.Timer{Node: 2, Due: 10099}), clock), 1, nil)
		wantInstance(t, "a timer that runs already", x, ok, withClock(waits([]int{0, 3, 0}, impl.Timer{Node: 2, Due: clock + 7}, impl.Timer{Node: 2, Due: clock + 100}, impl.Timer{Node: 2, Due: 10099}), clock))
	}
	// Behind the task 1 and the fork 2 lie the timers 3, 4 and 5, and one of them may run already.
	many := draw([]int{impl.NodeStart, impl.NodeTask, impl.NodeFork, impl.NodeTimer, impl.NodeTimer, impl.NodeTimer, impl.NodeJoin, impl.NodeEnd},
		[2]int{0, 1}, [2]int{1, 2}, [2]int{2, 5}, [2]int{2, 4}, [2]int{2, 3}, [2]int{3, 6}, [2]int{4, 6}, [2]int{5, 6}, [2]int{6, 7})
	many.Nodes[3].Value, many.Nodes[4].Value, many.Nodes[5].Value = 9, 2, 9
	at := func(node int, due int) impl.Timer { return impl.Timer{Node: node, Due: due} }
	x, ok := impl.CompleteTask(many, waits([]int{1, 0, 0, 0, 0, 0, 0, 0, 0}), 1, nil)
	wantInstance(t, "three timers", x, ok, waits([]int{0, 0, 1, 1, 1, 0, 0, 0, 0}, at(4, 2), at(3, 9), at(5, 9)))
	x, ok = impl.CompleteTask(many, waits([]int{1, 0, 0, 2, 0, 0, 0, 0, 0}, at(4, 1), at(4, 9)), 1, nil)
	wantInstance(t, "three timers more", x, ok, waits([]int{0, 0, 1, 3, 1, 0, 0, 0, 0}, at(4, 1), at(4, 2), at(3, 9), at(4, 9), at(5, 9)))
	x, ok = impl.CompleteTask(many, waits([]int{1, 0, 0, 3, 0, 0, 0, 0, 0}, at(4, 1), at(4, 1), at(4, 1)), 1, nil)
	wantFailed(t, "a fourth token at a timer", x, ok)
}

func TestCompleteTaskSetsValues(t *testing.T) {
	p := repeatTask() // goes back if the variable 0 is not 0
	start := impl.Instance{Marks: []int{0, 1, 0, 0, 0}, Values: []int{0, 5, 6, 7}}
	back, done := []int{0, 1, 0, 0, 0}, []int{0, 0, 0, 0, 0}
	set := func(variable int, value int) impl.Set { return impl.Set{Variable: variable, Value: value} }
	for _, x := range []struct {
		list   []impl.Set
		marks  []int
		values []int
	}{
		{nil, done, []int{0, 5, 6, 7}},
		{[]impl.Set{}, done, []int{0, 5, 6, 7}},
		{[]impl.Set{set(0, 3)}, back, []int{3, 5, 6, 7}},
		{[]impl.Set{set(0, 3), set(0, 0)}, done, []int{0, 5, 6, 7}},
		{[]impl.Set{set(0, 0), set(0, 3)}, back, []int{3, 5, 6, 7}},
		{[]impl.Set{set(0, 3), set(1, 1), set(0, 4)}, back, []int{4, 1, 6, 7}},
		{[]impl.Set{set(3, -9999), set(2, 9999), set(1, 0), set(0, -1)}, back, []int{-1, 0, 9999, -9999}},
		{[]impl.Set{set(1, 1), set(1, 2), set(1, 3), set(1, 4)}, done, []int{0, 4, 6, 7}},
	} {
		got, ok := impl.CompleteTask(p, start, 2, x.list)
		wantInstance(t, "a task with values", got, ok, impl.Instance{Marks: x.marks, Values: x.values})
	}
	for _, list := range [][]impl.Set{
		slices.Repeat([]impl.Set{set(1, 1)}, 5), slices.Repeat([]impl.Set{set(1, 1)}, 100000),
		{set(1, 1), set(4, 0)}, {set(-1, 0), set(1, 1)}, {set(math.MinInt, 0)}, {set(math.MaxInt, 0)},
		{set(1, 10000)}, {set(1, -10000)}, {set(1, math.MinInt)}, {set(1, math.MaxInt)},
		{set(1, 10000), set(1, 0)}, {set(0, 0), set(1, 1), set(2, 2), set(3, 10000)},
	} {
		got, ok := impl.CompleteTask(p, start, 2, list)
		wantFailed(t, "a task with values that cannot be set", got, ok)
	}
}

func TestCompleteTaskOfOtherNodes(t *testing.T) {
	p := atOnce(task(), timer(5), message(3), task()) // 2, 3, 4 and 5
	x := waits([]int{0, 1, 1, 1, 0, 0, 0, 0, 0, 0}, impl.Timer{Node: 3, Due: 5})
	for _, node := range extremes {
		got, ok := impl.CompleteTask(p, x, node, nil)
		if node == 2 {
			wantInstance(t, "an open task", got, ok, waits([]int{0, 0, 1, 1, 0, 1, 0, 0, 0, 0}, impl.Timer{Node: 3, Due: 5}))
			got, ok = impl.CompleteTask(p, got, node, nil)
		}
		wantFailed(t, "a node that is no open task", got, ok)
	}
}

func TestStepsThatFail(t *testing.T) {
	choice := conditionedChoice(parts(variable(0)), parts(variable(1)))
	choice.Nodes = append(choice.Nodes, task())
	choice.Flows[0].To = 4
	choice.Flows = append(choice.Flows, impl.Flow{From: 4, To: 1})
	x := startOf(t, choice)
	y, ok := impl.CompleteTask(choice, x, 4, nil)
	wantFailed(t, "a task before a choice without a way", y, ok)
	y, ok = impl.CompleteTask(choice, x, 4, []impl.Set{{Variable: 1, Value: 1}})
	wantInstance(t, "a task before a choice with a way", y, ok, impl.Instance{Marks: []int{0, 0, 0, 0}, Values: []int{0, 1, 0, 0}})
	choice.Nodes[4] = timer(5)
	x = startOf(t, choice)
	y, ok = impl.AdvanceClock(choice, x, 4)
	wantInstance(t, "a timer that is not due", y, ok, withClock(x, 4))
	for _, to := range []int{5, 6, 9999} {
		y, ok = impl.AdvanceClock(choice, x, to)
		wantFailed(t, "a timer before a choice without a way", y, ok)
	}
	choice.Nodes[4] = message(5)
	y, ok = impl.DeliverMessage(choice, startOf(t, choice), 5)
	wantFailed(t, "a message before a choice without a way", y, ok)
}

func TestEmptyCirclesBehindNodes(t *testing.T) {
	for _, n := range []impl.Node{task(), timer(1), message(1)} {
		p := emptyCircle()
		p.Nodes = append(p.Nodes, n)
		p.Flows[0].To = 4
		p.Flows = append(p.Flows, impl.Flow{From: 4, To: 1})
		x := startOf(t, p, 1, 0, 0, 0)
		y, ok := impl.CompleteTask(p, x, 4, nil)
		wantFailed(t, "an empty circle behind a task", y, ok)
		y, ok = impl.AdvanceClock(p, x, 1)
		if n.Kind == impl.NodeTimer {
			wantFailed(t, "an empty circle behind a timer", y, ok)
		} else {
			wantInstance(t, "no timer", y, ok, withClock(x, 1))
		}
		y, ok = impl.DeliverMessage(p, x, 1)
		wantFailed(t, "an empty circle behind a message", y, ok)
		if n.Kind == impl.NodeTask {
			y, ok = impl.CompleteTask(p, x, 4, []impl.Set{{}})
			wantInstance(t, "an empty circle that is left", y, ok, waits(make([]int, 5)))
		}
	}
}

// TestLongWaysBehindNodes checks that neither the node itself nor what was done before counts as a step to settle.
func TestLongWaysBehindNodes(t *testing.T) {
	for _, steps := range []int{29, 30, 31} {
		for _, n := range []impl.Node{task(), timer(1), message(1)} {
			p := longWay(n, steps)
			node := slices.Index(p.Nodes, n)
			x := startOf(t, p)
			var y impl.Instance
			var ok bool
			switch n.Kind {
			case impl.NodeTask:
				y, ok = impl.CompleteTask(p, x, node, nil)
			case impl.NodeTimer:
				y, ok = impl.AdvanceClock(p, x, 1)
			case impl.NodeMessage:
				y, ok = impl.DeliverMessage(p, x, 1)
			}
			if steps > 30 {
				wantFailed(t, "a way that is too long", y, ok)
				continue
			}
			wantInstance(t, "a long way", y, ok, withClock(waits(make([]int, len(p.Flows))), bit(n.Kind == impl.NodeTimer)))
		}
	}
	// Each of three tokens has a long way of its own.
	p := longWay(timer(1), 30)
	x := waits(changed(make([]int, len(p.Flows)), 0, 3), impl.Timer{Node: 9, Due: 4}, impl.Timer{Node: 9, Due: 4}, impl.Timer{Node: 9, Due: 5})
	y, ok := impl.AdvanceClock(p, x, 9)
	wantInstance(t, "three long ways", y, ok, withClock(waits(make([]int, len(p.Flows))), 9))
}

func TestDeliverMessage(t *testing.T) {
	p := atOnce(message(3), message(0), message(3), message(9)) // 2, 3, 4 and 5
	x := startOf(t, p)
	for _, name := range extremes {
		y, ok := impl.DeliverMessage(p, x, name)
		switch name {
		case 0:
			wantInstance(t, "the name 0", y, ok, waits([]int{0, 1, 0, 1, 1, 0, 1, 0, 0, 0}))
		case 3:
			wantInstance(t, "the name 3", y, ok, waits([]int{0, 0, 1, 1, 1, 1, 0, 0, 0, 0}))
			y, ok = impl.DeliverMessage(p, y, name)
			wantInstance(t, "the name 3 again", y, ok, waits([]int{0, 0, 1, 0, 1, 1, 0, 1, 0, 0}))
			y, ok = impl.DeliverMessage(p, y, name)
			wantFailed(t, "the name 3 a third time", y, ok)
		case 9:
			wantInstance(t, "the name 9", y, ok, waits([]int{0, 1, 1, 1, 0, 0, 0, 0, 1, 0}))
		default:
			wantFailed(t, "a name that no node has", y, ok)
		}
	}
	y, ok := impl.DeliverMessage(p, waits([]int{0, 0, 1, 2, 1, 0, 0, 0, 0, 0}), 3)
	wantInstance(t, "the second node with a name", y, ok, waits([]int{0, 0, 1, 1, 1, 0, 0, 1, 0, 0}))
	y, ok = impl.DeliverMessage(p, waits([]int{0, 0, 1, 0, 1, 0, 0, 0, 0, 0}), 3)
	wantFailed(t, "a name for which nobody waits", y, ok)
	y, ok = impl.DeliverMessage(p, waits(make([]int, 10)), 3)
	wantFailed(t, "an instance without tokens", y, ok)
	y, ok = impl.DeliverMessage(p, waits([]int{0, 1, 0, 1, 0, 3, 0, 0, 0, 0}), 3)
	wantFailed(t, "a first node before a full flow", y, ok) // although the second one could go on
}

func TestDeliverMessageOneAfterTheOther(t *testing.T) {
	p := lineOf(message(3), message(3))
	x := impl.Instance{Marks: []int{1, 0, 0}, Values: []int{1, 2, 3, 4}, Clock: 7}
	x, ok := impl.DeliverMessage(p, x, 3)
	wantInstance(t, "the first message", x, ok, impl.Instance{Marks: []int{0, 1, 0}, Values: []int{1, 2, 3, 4}, Clock: 7})
	x, ok = impl.DeliverMessage(p, x, 3)
	wantInstance(t, "the second message", x, ok, impl.Instance{Marks: []int{0, 0, 0}, Values: []int{1, 2, 3, 4}, Clock: 7})
	// A timer or a task with the same Value is no message.
	other := atOnce(timer(3), task(), message(3))
	x, ok = impl.DeliverMessage(other, startOf(t, other), 3)
	wantInstance(t, "a message beside a timer", x, ok, waits([]int{0, 1, 1, 0, 0, 0, 1, 0}, impl.Timer{Node: 2, Due: 3}))
	for _, name := range []int{0, 3} {
		y, ok := impl.DeliverMessage(other, x, name)
		wantFailed(t, "a message for a task or a timer", y, ok)
	}
	wait := lineOf(message(1), timer(8))
	y, ok := impl.DeliverMessage(wait, withClock(startOf(t, wait), 20), 1)
	wantInstance(t, "a timer behind a message", y, ok, withClock(waits([]int{0, 1, 0}, impl.Timer{Node: 2, Due: 28}), 20))
}

func TestAdvanceClock(t *testing.T) {
	p := lineOf(timer(5), timer(3))
	x := startOf(t, p)
	first, second, done := waits([]int{1, 0, 0}, impl.Timer{Node: 1, Due: 5}), waits([]int{0, 1, 0}, impl.Timer{Node: 2, Due: 8}), waits([]int{0, 0, 0})
	for to, want := range map[int]impl.Instance{0: first, 1: first, 4: first, 5: second, 6: second, 7: second, 8: done, 9: done, 9999: done} {
		y, ok := impl.AdvanceClock(p, x, to)
		wantInstance(t, "two timers", y, ok, withClock(want, to))
	}
	for _, to := range []int{math.MinInt, -1, 10000, 10099, math.MaxInt} {
		y, ok := impl.AdvanceClock(p, x, to)
		wantFailed(t, "a time that cannot come", y, ok)
	}
	at4, _ := impl.AdvanceClock(p, x, 4)
	for _, to := range []int{0, 3} {
		y, ok := impl.AdvanceClock(p, at4, to)
		wantFailed(t, "a time that has been", y, ok)
	}
	y, ok := impl.AdvanceClock(p, at4, 4)
	wantInstance(t, "the same time", y, ok, withClock(first, 4))
	last := withClock(waits([]int{1, 0, 0}, impl.Timer{Node: 1, Due: 10000}), 9999)
	y, ok = impl.AdvanceClock(p, last, 9999)
	wantInstance(t, "the last time", y, ok, last)
	y, ok = impl.AdvanceClock(p, last, 10000)
	wantFailed(t, "a time behind the last one", y, ok)
	y, ok = impl.AdvanceClock(p, waits([]int{1, 0, 0}, impl.Timer{Node: 1, Due: 9999}), 9999)
	wantInstance(t, "a timer at the last time", y, ok, withClock(waits([]int{0, 1, 0}, impl.Timer{Node: 2, Due: 10002}), 9999))
	y, ok = impl.AdvanceClock(p, done, 9999)
	wantInstance(t, "an instance that is done", y, ok, withClock(done, 9999))
	y, ok = impl.AdvanceClock(p, impl.Instance{Marks: []int{1, 0, 0}, Values: []int{1, 2, 3, 4}, Timers: x.Timers}, 8)
	wantInstance(t, "values", y, ok, impl.Instance{Marks: []int{0, 0, 0}, Values: []int{1, 2, 3, 4}, Clock: 8})
}

func TestSeveralTokensAtATimer(t *testing.T) {
	p := severalAt(timer(5), 3)
	at := func(due int) impl.Timer { return impl.Timer{Node: 3, Due: due} }
	x := startOf(t, p)
	y, ok := impl.AdvanceClock(p, x, 4)
	wantInstance(t, "three timers that are not due", y, ok, withClock(x, 4))
	y, ok = impl.AdvanceClock(p, x, 5)
	wantInstance(t, "three timers that are due", y, ok, withClock(waits(make([]int, 6)), 5))
	x = waits([]int{0, 3, 0, 0, 0, 0}, at(5), at(5), at(9))
	y, ok = impl.AdvanceClock(p, x, 8)
	wantInstance(t, "two of three timers", y, ok, withClock(waits([]int{0, 1, 0, 0, 0, 0}, at(9)), 8))
	// The end behind the timers is a timer, too, so that all of them wait again.
	next := severalAt(timer(5), 3)
	next.Nodes = append(next.Nodes, timer(2))
	next.Flows[2].To = 5
	next.Flows = append(next.Flows, impl.Flow{From: 5, To: 4})
	x = startOf(t, next)
	y, ok = impl.AdvanceClock(next, x, 6)
	behind := impl.Timer{Node: 5, Due: 7}
	wantInstance(t, "three timers behind three timers", y, ok, withClock(waits([]int{0, 0, 3, 0, 0, 0, 0}, behind, behind, behind), 6))
	y, ok = impl.AdvanceClock(next, x, 7)
	wantInstance(t, "three timers after three timers", y, ok, withClock(waits(make([]int, 7)), 7))
}

func TestTimersAtTheSameTime(t *testing.T) {
	p := atOnce(timer(5), timer(5)) // 2 and 3, before the flows 3 and 4
	at := func(node int, due int) impl.Timer { return impl.Timer{Node: node, Due: due} }
	// The first timer lets the join take a token of the other flow, so that this is not full any more for the second one.
	y, ok := impl.AdvanceClock(p, waits([]int{0, 1, 1, 0, 3, 0}, at(2, 5), at(3, 5)), 5)
	wantInstance(t, "the smaller node first", y, ok, withClock(waits([]int{0, 0, 0, 0, 3, 0}), 5))
	y, ok = impl.AdvanceClock(p, waits([]int{0, 1, 1, 3, 0, 0}, at(2, 5), at(3, 5)), 5)
	wantFailed(t, "the smaller node first, before a full flow", y, ok)
	y, ok = impl.AdvanceClock(p, waits([]int{0, 1, 1, 3, 0, 0}, at(3, 4), at(2, 5)), 5)
	wantInstance(t, "the smaller time first", y, ok, withClock(waits([]int{0, 0, 0, 3, 0, 0}), 5))
	y, ok = impl.AdvanceClock(p, waits([]int{0, 1, 1, 0, 3, 0}, at(3, 4), at(2, 5)), 5)
	wantFailed(t, "the smaller time first, before a full flow", y, ok)
	// All of many timers have a time of their own, in the reverse order of the nodes.
	many := atOnce(timer(6), timer(5), timer(4), timer(3), timer(2), timer(1))
	y, ok = impl.AdvanceClock(many, startOf(t, many), 3)
	wantInstance(t, "half of the timers", y, ok, withClock(waits([]int{0, 1, 1, 1, 0, 0, 0, 0, 0, 0, 1, 1, 1, 0}, at(4, 4), at(3, 5), at(2, 6)), 3))
	y, ok = impl.AdvanceClock(many, startOf(t, many), 6)
	wantInstance(t, "all timers", y, ok, withClock(waits(make([]int, 14)), 6))
}

// TestTimersThatStartAtTheSameTime has a timer that starts while another one is due at the very time that it gets.
func TestTimersThatStartAtTheSameTime(t *testing.T) {
	at := func(node int, due int) impl.Timer { return impl.Timer{Node: node, Due: due} }
	p := draw([]int{impl.NodeStart, impl.NodeFork, impl.NodeTimer, impl.NodeTimer, impl.NodeTimer, impl.NodeJoin, impl.NodeEnd},
		[2]int{0, 1}, [2]int{1, 3}, [2]int{1, 4}, [2]int{3, 2}, [2]int{2, 5}, [2]int{4, 5}, [2]int{5, 6})
	p.Nodes[2].Value, p.Nodes[3].Value, p.Nodes[4].Value = 4, 3, 7
	x := startOf(t, p)
	wantInstance(t, "two timers", x, true, waits([]int{0, 1, 1, 0, 0, 0, 0}, at(3, 3), at(4, 7)))
	y, ok := impl.AdvanceClock(p, x, 3)
	wantInstance(t, "a timer that starts", y, ok, withClock(waits([]int{0, 0, 1, 1, 0, 0, 0}, at(2, 7), at(4, 7)), 3))
	y, ok = impl.AdvanceClock(p, x, 7)
	wantInstance(t, "both at once", y, ok, withClock(waits(make([]int, 7)), 7))
	// The timer that has just started has the smaller node, and has to be the first one.
	full := waits([]int{0, 1, 1, 0, 0, 3, 0}, at(3, 3), at(4, 7))
	y, ok = impl.AdvanceClock(p, full, 7)
	wantInstance(t, "the smaller node first", y, ok, withClock(waits([]int{0, 0, 0, 0, 0, 3, 0}), 7))
}

func TestAsManyTimersAsTheLimit(t *testing.T) {
	for _, wait := range []int{1, 2, 100} {
		p := nodeCircle(timer(wait))
		x := startOf(t, p)
		for _, times := range []int{1, 29, 30} {
			for _, to := range []int{times * wait, times*wait + wait - 1} {
				y, ok := impl.AdvanceClock(p, x, to)
				wantInstance(t, "a timer that comes again", y, ok, withClock(waits([]int{0, 1, 0}, impl.Timer{Node: 2, Due: (times + 1) * wait}), to))
			}
		}
		for _, to := range []int{31 * wait, 40 * wait, 9999} {
			y, ok := impl.AdvanceClock(p, x, to)
			wantFailed(t, "a timer that comes again too often", y, ok)
		}
		half, _ := impl.AdvanceClock(p, x, 20*wait)
		y, ok := impl.AdvanceClock(p, half, 50*wait)
		wantInstance(t, "a timer that comes again in two steps", y, ok, withClock(waits([]int{0, 1, 0}, impl.Timer{Node: 2, Due: 51 * wait}), 50*wait))
	}
	p := atOnce(timer(1), timer(1), timer(1), timer(1), timer(1), timer(1))
	var timers []impl.Timer
	for node := 2; node < 8; node++ {
		timers = append(timers, slices.Repeat([]impl.Timer{{Node: node, Due: 1}}, 3)...)
	}
	x := waits([]int{0, 3, 3, 3, 3, 3, 3, 0, 0, 0, 0, 0, 0, 0}, timers...)
	y, ok := impl.AdvanceClock(p, x, 1)
	wantInstance(t, "eighteen timers at the same time", y, ok, withClock(waits(make([]int, 14)), 1))
}

func TestNextDue(t *testing.T) {
	p := atOnce(timer(5), timer(3), task())
	for _, x := range []struct {
		x    impl.Instance
		want int
	}{
		{startOf(t, p), 3},
		{waits([]int{0, 1, 0, 1, 0, 0, 0, 0}, impl.Timer{Node: 2, Due: 1}), 1},
		{waits([]int{0, 1, 1, 0, 0, 0, 0, 0}, impl.Timer{Node: 2, Due: 77}, impl.Timer{Node: 3, Due: 77}), 77},
		{waits([]int{0, 0, 1, 0, 0, 0, 0, 0}, impl.Timer{Node: 3, Due: 10099}), 10099},
		{withClock(waits([]int{0, 0, 1, 0, 0, 0, 0, 0}, impl.Timer{Node: 3, Due: 10000}), 9999), 10000},
		{waits([]int{0, 0, 0, 1, 0, 0, 0, 0}), -1},
		{waits(make([]int, 8)), -1},
	} {
		if got := impl.NextDue(p, x.x); got != x.want {
			t.Errorf("NextDue(%v) = %d, want %d", x.x, got, x.want)
		}
	}
}

// runCount is how often each function of a chapter has succeeded, and how often it has failed for arguments that promise more.
type runCount struct{ completed, stuck, delivered, advanced, failed int }

// TestRandomRuns compares the functions for many instances, valid or not, with what they have to be.
func TestRandomRuns(t *testing.T) {
	t.Parallel()
	var n runCount
	withInstances(t, func(r *rand.Rand, p impl.Process, x impl.Instance) {
		compareRuns(t, r, p, x, &n)
		if r.IntN(3) == 0 {
			compareRuns(t, r, p, alteredInstance(r, x), &runCount{})
		}
	})
	if min(n.completed, n.delivered, n.advanced) < 1000 || min(n.stuck, n.failed) < 100 {
		t.Errorf("%+v test too little", n)
	}
}

func compareRuns(t *testing.T, r *rand.Rand, p impl.Process, x impl.Instance, n *runCount) {
	t.Helper()
	for node := -1; node <= len(p.Nodes); node++ {
		list := randomSets(r, impl.MaxSets+1)
		got, ok := impl.CompleteTask(p, x, node, list)
		want, wantOk := wantedComplete(p, x, node, list)
		if !sameInstance(got, want) || ok != wantOk {
			t.Fatalf("CompleteTask(%v, %v, %d, %v) = %v, %v, want %v, %v", p, x, node, list, got, ok, want, wantOk)
		}
		n.completed += bit(ok)
		n.stuck += bit(!ok && len(list) <= impl.MaxSets && slices.Contains(impl.OpenTasks(p, x), node))
	}
	for _, name := range []int{-1, 0, 1, 2, r.IntN(impl.MaxName + 1), p.Nodes[r.IntN(len(p.Nodes))].Value} {
		got, ok := impl.DeliverMessage(p, x, name)
		want, wantOk := wantedDeliver(p, x, name)
		if !sameInstance(got, want) || ok != wantOk {
			t.Fatalf("DeliverMessage(%v, %v, %d) = %v, %v, want %v, %v", p, x, name, got, ok, want, wantOk)
		}
		n.delivered += bit(ok)
	}
	due := impl.NextDue(p, x)
	for _, to := range []int{x.Clock, x.Clock - 1, x.Clock + r.IntN(8), x.Clock + r.IntN(50), due, due + r.IntN(10), due + r.IntN(200)} {
		got, ok := impl.AdvanceClock(p, x, to)
		want, wantOk := wantedAdvance(p, x, to)
		if !sameInstance(got, want) || ok != wantOk {
			t.Fatalf("AdvanceClock(%v, %v, %d) = %v, %v, want %v, %v", p, x, to, got, ok, want, wantOk)
		}
		n.advanced += bit(ok && due >= 0 && to >= due)
		n.failed += bit(!ok && due >= 0 && to >= due && to <= impl.MaxClock)
	}
}
