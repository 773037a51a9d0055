package tests

import (
	"math"
	"math/rand/v2"
	"slices"
	"testing"

	"loop.example/processengine/impl"
)

func TestMoveMarks(t *testing.T) {
	p, q := lineOf(task()), lineOf(task(), task())
	wantMarksMoved(t, "a token before the task", move{p, q, []int{0, 2}}, []int{1, 0}, 1, 0, 0)
	wantMarksMoved(t, "a token behind the task", move{p, q, []int{0, 2}}, []int{0, 1}, 0, 0, 1)
	wantMarksMoved(t, "flows in another order", move{p, q, []int{2, 0}}, []int{2, 3}, 3, 0, 2)
	wantMarksMoved(t, "to a process with fewer flows", move{q, p, []int{0, 1, 1}}, []int{0, 1, 0}, 0, 1)
	wantMarksMoved(t, "no tokens", move{p, q, []int{0, 2}}, []int{0, 0}, 0, 0, 0)
	wantMarksMoved(t, "no tokens and no flows", move{p, q, []int{-1, -1}}, []int{0, 0}, 0, 0, 0)
	wantMarksMoved(t, "to itself", toItself(q), []int{3, 1, 2}, 3, 1, 2)
	wantMarksMoved(t, "none without a token", move{p, q, []int{-1, 1}}, []int{0, 3}, 0, 3, 0)
	wantMarksStay(t, "none with a token", move{p, q, []int{-1, 1}}, []int{1, 3})
	wantMarksStay(t, "none with a token alone", move{p, q, []int{-1, 1}}, []int{1, 0})
	wantMarksStay(t, "the last one to none", move{p, q, []int{1, -1}}, []int{0, 1})
	wantMarksMoved(t, "to nodes of other kinds", move{p, lineOf(timer(5), message(3)), []int{1, 0}}, []int{1, 2}, 2, 1, 0)
	wantMarksMoved(t, "with conditions", move{p, repeatTask(), []int{3, 4}}, []int{1, 2}, 0, 0, 0, 1, 2)
	wantMarksMoved(t, "of a process with conditions", move{repeatTask(), p, []int{0, 0, 0, 1, 1}}, []int{1, 1, 1, 1, 1}, 3, 2)
}

func TestMoveMarksOfSeveralFlowsToOne(t *testing.T) {
	p := lineOf(task(), task(), task())
	q := lineOf(task())
	all := move{p, q, []int{1, 1, 1, 1}}
	for i := range 256 { // all tokens
		marks := []int{i % 4, i / 4 % 4, i / 16 % 4, i / 64}
		if sum := sumOf(marks); sum <= 3 {
			wantMarksMoved(t, "room for all", all, marks, 0, sum)
		} else {
			wantMarksStay(t, "more than the limit", all, marks)
		}
		if a, b := marks[0]+marks[2], marks[1]+marks[3]; a <= 3 && b <= 3 {
			wantMarksMoved(t, "room for all on two flows", move{p, q, []int{0, 1, 0, 1}}, marks, a, b)
		} else {
			wantMarksStay(t, "more than the limit on one of two flows", move{p, q, []int{0, 1, 0, 1}}, marks)
		}
		if marks[3] == 0 && marks[0] == 0 && marks[1]+marks[2] <= 3 {
			wantMarksMoved(t, "two flows to one", move{p, q, []int{-1, 0, 0, -1}}, marks, marks[1]+marks[2], 0)
		} else {
			wantMarksStay(t, "two flows to one, and tokens on others", move{p, q, []int{-1, 0, 0, -1}}, marks)
		}
	}
	wide := wideFork(impl.MaxFlows - 2)
	full := slices.Repeat([]int{3}, 14)
	wantMarksMoved(t, "all flows full", toItself(wide), full, full...)
	wantMarksStay(t, "all full flows to one", move{wide, q, make([]int, 14)}, full)
	wantMarksStay(t, "a token on each of too many flows", move{wide, q, make([]int, 14)}, slices.Repeat([]int{1}, 14))
	wantMarksMoved(t, "tokens on three of many flows", move{wide, q, make([]int, 14)}, []int{0, 1, 0, 0, 1, 0, 0, 0, 0, 0, 0, 0, 0, 1}, 3, 0)
}

func TestMovesThatAreNotValid(t *testing.T) {
	for _, m := range badMoves() {
		if wantFaithful(t, "a bad move", m, false); t.Failed() {
			return
		}
		for _, marks := range [][]int{nil, {}, make([]int, len(m.p.Flows)), make([]int, len(m.flows)), {0, 1, 0}, {1, 0}} {
			wantMarksStay(t, "a bad move", m, marks)
			wantInstanceStays(t, "a bad move", m, waits(marks))
		}
	}
	wantBadTokensStay(t)
}

func TestIsFaithful(t *testing.T) {
	kinds := []impl.Node{task(), timer(5), timer(6), timer(100), message(0), message(3), message(9)}
	for _, a := range kinds {
		for _, b := range kinds {
			p, q := lineOf(a, task()), lineOf(task(), b)
			wantFaithful(t, "from one node to another one", move{p, q, []int{1, -1, -1}}, a == b)
			wantFaithful(t, "from one node to another one, and the end", move{p, q, []int{1, -1, 2}}, a == b)
			wantFaithful(t, "to none", move{p, q, []int{-1, 0, -1}}, true)
			wantFaithful(t, "the end to the end", move{p, q, []int{-1, -1, 2}}, true)
			wantFaithful(t, "the end to a node", move{p, q, []int{-1, -1, 1}}, false)
			wantFaithful(t, "a node to the end", move{p, q, []int{2, -1, -1}}, false)
			wantFaithful(t, "a task to the end", move{p, q, []int{-1, 2, -1}}, false)
			wantFaithful(t, "several to one", move{p, q, []int{1, 1, -1}}, a == b && a == task())
			wantFaithful(t, "only the last one is not", move{p, q, []int{-1, 0, 0}}, false)
		}
	}
	same := []int{impl.NodeChoice, impl.NodeFork, impl.NodeMerge, impl.NodeJoin}
	for _, split := range same[:2] { // the flow 0 leads to the node that splits, the flows 3 and 4 to the other one
		for _, meet := range same[2:] {
			for _, otherSplit := range same[:2] {
				for _, otherMeet := range same[2:] {
					m := move{twoWays(split, meet), twoWays(otherSplit, otherMeet), toNone(twoWays(split, meet))}
					wantFaithful(t, "to no flows at all", m, true)
					m.flows = []int{0, -1, -1, -1, -1, -1}
					wantFaithful(t, "where ways part", m, split == otherSplit)
					m.flows = []int{-1, 2, 1, 4, 3, 5}
					wantFaithful(t, "where ways meet", m, meet == otherMeet)
					m.flows = []int{-1, -1, -1, -1, 0, -1}
					wantFaithful(t, "from where ways meet to where they part", m, false)
				}
			}
		}
	}
	p := repeatTask()
	q := copyProcess(p)
	q.Flows[3].When = parts(number(7), number(8), operator(impl.PartLess))
	wantFaithful(t, "another condition", move{p, q, eachItself(p)}, true)
	wantFaithful(t, "a flow from another node", move{p, q, []int{3, 1, 2, 0, 4}}, true)
	wantFaithful(t, "to a node at another place", rearranged(newRandom(73), p), true)
}

func TestMoveInstance(t *testing.T) {
	p, q := atOnce(task(), timer(5)), atOnce(timer(5), task())
	x := startOfBoth()
	wantInstanceMoved(t, "to itself", toItself(p), x, x)
	m := move{p, q, []int{0, 2, 1, 4, 3, 5}}
	wantInstanceMoved(t, "nodes that have changed their places", m, x, waits([]int{0, 1, 1, 0, 0, 0}, impl.Timer{Node: 2, Due: 5}))
	wantInstanceStays(t, "the same flows lead to other kinds", move{p, q, eachItself(p)}, x)
	wantInstanceMoved(t, "flows without tokens to none", move{p, q, []int{-1, 2, 1, -1, -1, -1}}, x, waits([]int{0, 1, 1, 0, 0, 0}, impl.Timer{Node: 2, Due: 5}))
	wantInstanceStays(t, "the flow of a task to none", move{p, q, []int{0, -1, 1, 4, 3, 5}}, x)
	wantInstanceStays(t, "the flow of a timer to none", move{p, q, []int{0, 2, -1, 4, 3, 5}}, x)
	wantInstanceStays(t, "a flow without a token to another kind", move{p, q, []int{5, 2, 1, 4, 3, 5}}, x)
	wantInstanceStays(t, "another timer", move{p, atOnce(timer(6), task()), m.flows}, x)
	wantInstanceMoved(t, "another timer, but none to it", move{p, atOnce(timer(6), task()), []int{0, 2, -1, 4, 3, 5}}, waits([]int{0, 1, 0, 0, 1, 0}), waits([]int{0, 0, 1, 1, 0, 0}))
	values := impl.Instance{Marks: []int{0, 2, 1, 0, 0, 0}, Values: []int{9999, -9999, 0, 7}, Clock: 9999, Timers: []impl.Timer{{Node: 3, Due: 10099}}}
	wantInstanceMoved(t, "values and times at their limits", m, values, impl.Instance{Marks: []int{0, 1, 2, 0, 0, 0}, Values: values.Values, Clock: 9999, Timers: []impl.Timer{{Node: 2, Due: 10099}}})
	done := impl.Instance{Marks: make([]int, 6), Values: []int{1, 2, 3, 4}, Clock: 50}
	for _, flows := range [][]int{m.flows, toNone(p)} {
		wantInstanceMoved(t, "one that is done", move{p, q, flows}, done, done)
	}
	wantInstanceMoved(t, "one that is done, to a line", move{p, lineOf(message(3)), toNone(p)}, done, impl.Instance{Marks: []int{0, 0}, Values: []int{1, 2, 3, 4}, Clock: 50})
	wantInstanceMoved(t, "messages", move{lineOf(message(3)), lineOf(task(), message(3)), []int{1, 2}}, waits([]int{1, 0}), waits([]int{0, 1, 0}))
	wantInstanceStays(t, "messages with another name", move{lineOf(message(3)), lineOf(task(), message(4)), []int{1, 2}}, waits([]int{1, 0}))
}

// TestMoveInstanceWithTimers has timers whose nodes get other numbers, so that some are due at the same time in another order.
func TestMoveInstanceWithTimers(t *testing.T) {
	p := atOnce(timer(5), timer(5), timer(5), timer(9)) // the flows 1..4 lead to the nodes 2..5
	x := waits([]int{0, 1, 1, 1, 1, 0, 0, 0, 0, 0}, impl.Timer{Node: 2, Due: 5}, impl.Timer{Node: 3, Due: 5}, impl.Timer{Node: 4, Due: 7}, impl.Timer{Node: 5, Due: 7})
	wantInstanceMoved(t, "to itself", toItself(p), x, x)
	q := atOnce(timer(9), timer(5), timer(5), timer(5))
	m := move{p, q, []int{0, 4, 3, 2, 1, 8, 7, 6, 5, 9}}
	wantInstanceMoved(t, "nodes in reverse order", m, x, waits(x.Marks, impl.Timer{Node: 4, Due: 5}, impl.Timer{Node: 5, Due: 5}, impl.Timer{Node: 2, Due: 7}, impl.Timer{Node: 3, Due: 7}))
	m.flows = []int{0, 2, 2, 2, 1, 6, 6, 6, 5, 9}
	wantInstanceMoved(t, "several nodes to one", m, x, waits([]int{0, 1, 3, 0, 0, 0, 0, 0, 0, 0}, impl.Timer{Node: 3, Due: 5}, impl.Timer{Node: 3, Due: 5}, impl.Timer{Node: 2, Due: 7}, impl.Timer{Node: 3, Due: 7}))
	two := waits([]int{0, 2, 1, 1, 0, 0, 0, 0, 0, 0}, impl.Timer{Node: 2, Due: 1}, impl.Timer{Node: 2, Due: 5}, impl.Timer{Node: 3, Due: 5}, impl.Timer{Node: 4, Due: 6})
	wantInstanceStays(t, "more at one node than there is room for", m, two)
	m.flows = []int{0, 3, 3, 2, 1, 6, 6, 6, 5, 9}
	wantInstanceMoved(t, "as many at one node as there is room for", m, two, waits([]int{0, 0, 1, 3, 0, 0, 0, 0, 0, 0}, impl.Timer{Node: 4, Due: 1}, impl.Timer{Node: 4, Due: 5}, impl.Timer{Node: 4, Due: 5}, impl.Timer{Node: 3, Due: 6}))
	several := severalAt(timer(5), 3)
	y := waits([]int{0, 3, 0, 0, 0, 0}, impl.Timer{Node: 3, Due: 2}, impl.Timer{Node: 3, Due: 2}, impl.Timer{Node: 3, Due: 4})
	wantInstanceMoved(t, "several tokens at one node", move{several, lineOf(timer(5)), []int{-1, 0, 1, -1, -1, -1}}, y, waits([]int{3, 0}, impl.Timer{Node: 1, Due: 2}, impl.Timer{Node: 1, Due: 2}, impl.Timer{Node: 1, Due: 4}))
	// The times stay, whatever a node tells for new timers.
	wantInstanceMoved(t, "a timer that is due later than its node tells", move{lineOf(timer(5)), lineOf(task(), timer(5)), []int{1, 2}}, waits([]int{1, 0}, impl.Timer{Node: 1, Due: 10099}), waits([]int{0, 1, 0}, impl.Timer{Node: 2, Due: 10099}))
}

// TestMoveInstanceToJoins has tokens that wait at joins, and would be enough where they are moved to.
func TestMoveInstanceToJoins(t *testing.T) {
	p, q := atOnce(task(), task(), task()), atOnce(task(), task()) // the flows 4..6, and 3 and 4, lead to the joins
	m := move{p, q, []int{0, 1, 2, 2, 3, 4, 4, 5}}
	wantInstanceMoved(t, "a token that waits", m, waits([]int{0, 0, 1, 1, 1, 0, 0, 0}), waits([]int{0, 0, 2, 1, 0, 0}))
	wantInstanceMoved(t, "two tokens on one flow", m, waits([]int{0, 1, 0, 0, 0, 1, 1, 0}), waits([]int{0, 1, 0, 0, 2, 0}))
	wantInstanceStays(t, "enough tokens", m, waits([]int{0, 0, 0, 1, 1, 1, 0, 0}))
	wantInstanceStays(t, "enough tokens, and more", m, waits([]int{0, 0, 1, 0, 2, 0, 3, 0}))
	if marks, ok := impl.MoveMarks(p, q, m.flows, []int{0, 0, 0, 1, 1, 1, 0, 0}); !ok || !impl.IsFaithful(p, q, m.flows) {
		t.Errorf("the tokens %v, %v are not moved", marks, ok)
	}
	m.flows = []int{0, 1, 2, 2, 3, 3, 4, 5}
	wantInstanceMoved(t, "the same tokens on one flow", m, waits([]int{0, 0, 0, 1, 1, 1, 0, 0}), waits([]int{0, 0, 1, 2, 0, 0}))
	m.flows = []int{0, 1, 2, 2, 3, -1, -1, 5}
	wantInstanceMoved(t, "a token that waits, others to none", m, waits([]int{0, 1, 1, 0, 3, 0, 0, 0}), waits([]int{0, 1, 1, 3, 0, 0}))
}

func TestInstancesThatCannotBeMoved(t *testing.T) {
	p := atOnce(task(), timer(5))
	for _, x := range badInstances() {
		wantInstanceStays(t, "to itself", toItself(p), x)
		wantInstanceStays(t, "to another one", move{p, atOnce(timer(5), task()), []int{0, 2, 1, 4, 3, 5}}, x)
		wantInstanceStays(t, "to no flows", move{p, p, toNone(p)}, x)
	}
	line := lineOf(task())
	for _, n := range []int{math.MinInt, -1, 4, math.MaxInt} {
		wantInstanceStays(t, "tokens outside the range", toItself(line), waits([]int{n, 0}))
	}
	wantInstanceStays(t, "tokens that do not wait", toItself(line), waits([]int{0, 1}))
	// A join makes of tokens that do not wait some that do, but the instance has to be valid before.
	wantInstanceStays(t, "tokens that would wait", move{atOnce(task(), task()), atOnce(task(), task(), task()), []int{0, 1, 2, 4, 5, 7}}, waits([]int{0, 0, 0, 1, 1, 0}))
	wantInstanceStays(t, "a timer that is not there", toItself(lineOf(timer(5))), waits([]int{1, 0}))
	wantInstanceStays(t, "a timer too many", toItself(lineOf(timer(5))), waits([]int{0, 0}, impl.Timer{Node: 1, Due: 5}))
	wantInstanceStays(t, "a timer at a task", toItself(line), waits([]int{1, 0}, impl.Timer{Node: 1, Due: 5}))
}

// TestRandomMoves compares the functions for many moves, valid or not, with what they have to be.
func TestRandomMoves(t *testing.T) {
	r := newRandom(74)
	done := map[string]int{}
	for _, c := range moveCases() {
		m, marks, x := c.move, c.marks, c.x
		switch r.IntN(8) {
		case 0:
			m.flows = changed(m.flows, r.IntN(len(m.flows)), []int{-2, len(m.q.Flows), anyNumber(r)}[r.IntN(3)])
		case 1:
			marks = changed(marks, r.IntN(len(marks)), anyNumber(r))
		case 2:
			x = alteredInstance(r, x)
		}
		next, ok := impl.MoveMarks(m.p, m.q, m.flows, marks)
		want, wantOk := wantedMoveMarks(m.p, m.q, m.flows, marks)
		if ok != wantOk || !slices.Equal(next, want) {
			t.Fatalf("MoveMarks(%v, %v) = %v, %v, want %v, %v", m, marks, next, ok, want, wantOk)
		}
		faithful := wantedFaithful(m.p, m.q, m.flows)
		wantFaithful(t, "a random move", m, faithful)
		y, okY := impl.MoveInstance(m.p, m.q, m.flows, x)
		wantY, wantOkY := wantedMoveInstance(m.p, m.q, m.flows, x)
		if okY != wantOkY || !sameInstance(y, wantY) {
			t.Fatalf("MoveInstance(%v, %v) = %v, %v, want %v, %v", m, x, y, okY, wantY, wantOkY)
		}
		done["marks"] += bit(ok)
		done["no marks"] += bit(!ok)
		done["faithful"] += bit(faithful)
		done["not faithful"] += bit(!faithful)
		done["instances"] += bit(okY)
		done["no instances"] += bit(!okY)
		_, moved := wantedMoveMarks(m.p, m.q, m.flows, x.Marks)
		done["instances that would be ready"] += bit(!okY && moved && faithful && wantedValidInstance(m.p, x))
		if t.Failed() {
			t.FailNow()
		}
	}
	for what, least := range map[string]int{"marks": 1000, "no marks": 1000, "faithful": 1000, "not faithful": 1000, "instances": 1000, "no instances": 1000, "instances that would be ready": 100} {
		if done[what] < least {
			t.Errorf("%d times '%s' test too little", done[what], what)
		}
	}
}

// TestAllSmallMoves compares all maps between small processes, with many tokens, with what they have to be.
func TestAllSmallMoves(t *testing.T) {
	list := []impl.Process{line(), lineOf(task()), lineOf(timer(5)), lineOf(timer(5), task()), lostCircle(), ownCircle(impl.NodeMerge), ownCircle(impl.NodeJoin)}
	for _, p := range list {
		for _, q := range list {
			many := len(q.Flows) + 3
			for i := range int(math.Pow(float64(many), float64(len(p.Flows)))) {
				m := move{p, q, nil}
				for range p.Flows {
					m.flows = append(m.flows, i%many-2)
					i /= many
				}
				wantFaithful(t, "a small move", m, wantedFaithful(p, q, m.flows))
				for k := range 125 {
					marks := []int{k % 5, k / 5 % 5, k / 25}[:len(p.Flows)]
					next, ok := impl.MoveMarks(p, q, m.flows, marks)
					want, wantOk := wantedMoveMarks(p, q, m.flows, marks)
					if ok != wantOk || !slices.Equal(next, want) {
						t.Fatalf("MoveMarks(%v, %v) = %v, %v, want %v, %v", m, marks, next, ok, want, wantOk)
					}
				}
			}
		}
	}
}

// TestMovedInstancesGoOn moves instances to a process that is rearranged, where the same happens to them as before.
func TestMovedInstancesGoOn(t *testing.T) {
	gone := 0
	withInstances(t, func(r *rand.Rand, p impl.Process, x impl.Instance) {
		if r.IntN(4) > 0 {
			return
		}
		m := rearranged(r, p)
		y, ok := impl.MoveInstance(m.p, m.q, m.flows, x)
		if !ok || impl.IsDone(m.q, y) != impl.IsDone(p, x) || impl.NextDue(m.q, y) != impl.NextDue(p, x) {
			t.Fatalf("MoveInstance(%v, %v) = %v, %v", m, x, y, ok)
		}
		for _, node := range impl.OpenTasks(p, x) {
			f := slices.IndexFunc(p.Flows, func(w impl.Flow) bool { return w.To == node })
			other := m.q.Flows[m.flows[f]].To
			if !slices.Contains(impl.OpenTasks(m.q, y), other) {
				t.Fatalf("%v: the task %d of %v is not open as %d in %v", m, node, x, other, y)
			}
			gone++
		}
	})
	if gone < 500 {
		t.Errorf("%d open tasks test too little", gone)
	}
}
