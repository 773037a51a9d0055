package tests

import (
	"math/rand/v2"
	"slices"
	"testing"

	"loop.example/processengine/impl"
)

func TestPromise98MovedTokensAreAsMany(t *testing.T) {
	withMovedMarks(t, func(r *rand.Rand, m move, marks []int, next []int) {
		if before, behind := impl.TokenCount(m.p, marks), impl.TokenCount(m.q, next); before < 0 || before != behind {
			t.Fatalf("MoveMarks(%v, %v) = %v, with %d tokens instead of %d", m, marks, next, behind, before)
		}
		for g, many := range next { // and they are where they were moved to
			for f, other := range m.flows {
				if other == g {
					many -= marks[f]
				}
			}
			if many != 0 {
				t.Fatalf("MoveMarks(%v, %v) = %v, which has others on the flow %d", m, marks, next, g)
			}
		}
	})
}

func TestPromise99StayingIsMovingToItself(t *testing.T) {
	full := 0
	withTokens(t, func(r *rand.Rand, p impl.Process, marks []int, v []int) {
		wantMarksMoved(t, "to itself", toItself(p), marks, marks...)
		wantMarksMoved(t, "to a copy of itself", move{p, copyProcess(p), eachItself(p)}, marks, marks...)
		m := rearranged(r, p)
		next, _ := impl.MoveMarks(m.p, m.q, m.flows, marks)
		back := make([]int, len(m.flows))
		for f, other := range m.flows {
			back[other] = f
		}
		wantMarksMoved(t, "there and back", move{m.q, m.p, back}, next, marks...)
		full += bit(slices.Max(marks) == impl.MaxTokens)
		if t.Failed() {
			t.FailNow()
		}
	})
	if full < 500 {
		t.Errorf("%d times a full flow tests too little", full)
	}
	wantBadMovesFail(t, movesMarks)
	wantBadTokensStay(t)
}

func TestPromise100FaithfulMapsKeepKinds(t *testing.T) {
	yes, no, kinds, values := 0, 0, 0, 0
	for _, c := range moveCases() {
		m := c.move
		wantFaithful(t, "to no flows at all", move{m.p, m.q, toNone(m.p)}, true)
		wantFaithful(t, "to itself", toItself(m.p), true)
		same := true
		for f, other := range m.flows {
			if other < 0 {
				continue
			}
			before, behind := endOfFlow(m.p, f), endOfFlow(m.q, other)
			same = same && before == behind
			// Alone it is faithful, or not, too.
			alone := move{m.p, m.q, changed(toNone(m.p), f, other)}
			wantFaithful(t, "one flow alone", alone, before == behind)
			kinds += bit(before.Kind != behind.Kind)
			values += bit(before.Kind == behind.Kind && before.Value != behind.Value)
		}
		wantFaithful(t, "all flows", m, same)
		yes += bit(same)
		no += bit(!same)
		if t.Failed() {
			t.FailNow()
		}
	}
	if min(yes, no) < 800 || min(kinds, values) < 100 {
		t.Errorf("%d faithful maps and %d others, with %d other kinds and %d other values, test too little", yes, no, kinds, values)
	}
	wantBadMovesFail(t, areFaithful)
}

// duesOf returns the times at which timers are due, in order.
func duesOf(list []impl.Timer) []int {
	var dues []int
	for _, w := range list {
		dues = append(dues, w.Due)
	}
	return dues
}

func TestPromise101MovedInstancesAreValid(t *testing.T) {
	withMoved(t, func(r *rand.Rand, m move, x impl.Instance, y impl.Instance) {
		if !impl.ValidInstance(m.q, y) || !slices.Equal(y.Values, x.Values) || y.Clock != x.Clock || !slices.Equal(duesOf(y.Timers), duesOf(x.Timers)) {
			t.Fatalf("MoveInstance(%v, %v) = %v", m, x, y)
		}
		if marks, ok := impl.MoveMarks(m.p, m.q, m.flows, x.Marks); !ok || !slices.Equal(marks, y.Marks) || !impl.IsFaithful(m.p, m.q, m.flows) {
			t.Fatalf("MoveInstance(%v, %v) = %v, but the tokens are %v", m, x, y, marks)
		}
		var timers []impl.Timer
		for _, w := range x.Timers {
			f := impl.FlowsIn(m.p, w.Node)[0]
			timers = append(timers, impl.Timer{Node: m.q.Flows[m.flows[f]].To, Due: w.Due})
		}
		sortTimers(timers)
		if !slices.Equal(y.Timers, timers) {
			t.Fatalf("MoveInstance(%v, %v) = %v, want the timers %v", m, x, y, timers)
		}
	})
	wantReadyInstancesStay(t)
}

// wantReadyInstancesStay fails if an instance is moved whose tokens would not wait any more, or if one stays whose tokens do.
func wantReadyInstancesStay(t *testing.T) {
	t.Helper()
	moved, ready := 0, 0
	for _, c := range moveCases() {
		marks, ok := impl.MoveMarks(c.p, c.q, c.flows, c.x.Marks)
		if !ok || !impl.IsFaithful(c.p, c.q, c.flows) {
			wantInstanceStays(t, "a map that is not faithful, or loses a token", c.move, c.x)
			continue
		}
		waiting := !slices.ContainsFunc(impl.ReadyNodes(c.q, marks), func(node int) bool { return !mayWait(c.q.Nodes[node].Kind) })
		if _, ok := impl.MoveInstance(c.p, c.q, c.flows, c.x); ok != waiting {
			t.Fatalf("MoveInstance(%v, %v) succeeds: %v, for the tokens %v", c.move, c.x, ok, marks)
		}
		moved += bit(waiting)
		ready += bit(!waiting)
	}
	if moved < 1000 || ready < 100 {
		t.Errorf("%d instances that are moved, and %d that would be ready, test too little", moved, ready)
	}
}

func TestPromise102StayingChangesNothing(t *testing.T) {
	timers := 0
	withInstances(t, func(r *rand.Rand, p impl.Process, x impl.Instance) {
		wantInstanceMoved(t, "to itself", toItself(p), x, x)
		wantInstanceMoved(t, "to a copy of itself", move{p, copyProcess(p), eachItself(p)}, x, x)
		if sumOf(x.Marks) == 0 {
			wantInstanceMoved(t, "no tokens, to no flows", move{p, p, toNone(p)}, x, x)
		} else {
			wantInstanceStays(t, "tokens to no flows", move{p, p, toNone(p)}, x)
		}
		if y := alteredInstance(r, x); !impl.ValidInstance(p, y) {
			wantInstanceStays(t, "to itself, but not valid", toItself(p), y)
		}
		timers += bit(len(x.Timers) > 1)
		if t.Failed() {
			t.FailNow()
		}
	})
	if timers < 500 {
		t.Errorf("%d instances with several timers test too little", timers)
	}
	wantBadMovesFail(t, movesInstances)
}

// tokensAtTasks returns how many tokens wait at the open tasks of an instance.
func tokensAtTasks(p impl.Process, x impl.Instance) int {
	sum := 0
	for _, node := range impl.OpenTasks(p, x) {
		sum += tokensBefore(p, x, node)
	}
	return sum
}

func TestPromise103TasksAreMovedToTasks(t *testing.T) {
	open := 0
	withMoved(t, func(r *rand.Rand, m move, x impl.Instance, y impl.Instance) {
		before, behind := tokensAtTasks(m.p, x), tokensAtTasks(m.q, y)
		if before != behind {
			t.Fatalf("MoveInstance(%v, %v) = %v, with %d tokens at tasks instead of %d", m, x, y, behind, before)
		}
		open += bit(before > 0)
	})
	if open < 500 {
		t.Errorf("%d instances with open tasks test too little", open)
	}
	// A task cannot become anything else, also if nobody waits there.
	for _, other := range []impl.Node{timer(5), message(3)} {
		m := move{lineOf(task()), lineOf(other), []int{0, 1}}
		for _, marks := range [][]int{{1, 0}, {0, 0}} {
			wantInstanceStays(t, "a task to another node", m, waits(marks))
			wantInstanceStays(t, "another node to a task", move{m.q, m.p, m.flows}, waits([]int{0, 0}))
		}
	}
}

func TestPromise156TokensCannotGetLost(t *testing.T) {
	lost, none := 0, 0
	withTokens(t, func(r *rand.Rand, p impl.Process, marks []int, v []int) {
		other := []impl.Process{p, line(), repeatTask(), bothTasks()}[r.IntN(4)]
		m := move{p, other, toNone(p)}
		if sumOf(marks) > 0 {
			wantMarksStay(t, "tokens to no flows", m, marks)
			lost++
		} else {
			wantMarksMoved(t, "no tokens to no flows", m, marks, make([]int, len(other.Flows))...)
			none++
		}
		wantMarksMoved(t, "nothing to no flows", m, make([]int, len(marks)), make([]int, len(other.Flows))...)
		one := make([]int, len(marks)) // tokens on any flow alone
		for f := r.IntN(4); f < len(one); f += 4 {
			one[f] = 1 + r.IntN(impl.MaxTokens)
			wantMarksStay(t, "tokens on one flow", m, one)
			only := move{p, p, changed(toNone(p), f, f)}
			wantMarksMoved(t, "only this flow to itself", only, one, one...)
			all := toItself(p)
			all.flows[f] = -1
			wantMarksStay(t, "all other flows to themselves", all, one)
			one[f] = 0
		}
		if t.Failed() {
			t.FailNow()
		}
	})
	if lost < 5000 || none < 50 {
		t.Errorf("%d times tokens and %d times none test too little", lost, none)
	}
	wantBadMovesFail(t, movesMarks)
	wantBadTokensStay(t)
}
