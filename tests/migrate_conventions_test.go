package tests

import (
	"math/rand/v2"
	"slices"
	"sync"
	"testing"

	"loop.example/processengine/impl"
)

// askMove asks about a move, some tokens and an instance.
func askMove(m move, marks []int, x impl.Instance) answers {
	a := answers{valid: impl.IsFaithful(m.p, m.q, m.flows)}
	next, ok := impl.MoveMarks(m.p, m.q, m.flows, marks)
	a.ok = ok
	a.lists = append(a.lists, next)
	a.add(impl.MoveInstance(m.p, m.q, m.flows, x))
	return a
}

// wantedMoveAnswers returns what askMove has to return.
func wantedMoveAnswers(m move, marks []int, x impl.Instance) answers {
	a := answers{valid: wantedFaithful(m.p, m.q, m.flows)}
	next, ok := wantedMoveMarks(m.p, m.q, m.flows, marks)
	a.ok = ok
	a.lists = append(a.lists, next)
	a.add(wantedMoveInstance(m.p, m.q, m.flows, x))
	return a
}

// alteredMove returns a case with one thing changed, so that often it is not valid any more.
func alteredMove(r *rand.Rand, c moveCase) moveCase {
	some := badProcesses()
	switch r.IntN(7) {
	case 0:
		c.p = some[r.IntN(len(some))]
	case 1:
		c.q = some[r.IntN(len(some))]
	case 2:
		c.flows = without(c.flows, r.IntN(len(c.flows)))
	case 3:
		c.flows = append(slices.Clone(c.flows), 0)
	case 4:
		c.flows = changed(c.flows, r.IntN(len(c.flows)), anyNumber(r))
	case 5:
		c.marks = changed(c.marks, r.IntN(len(c.marks)), anyNumber(r))
	case 6:
		c.x = alteredInstance(r, c.x)
	}
	return c
}

// mixedCases returns many moves, most of them valid. Nobody may change them.
var mixedCases = sync.OnceValue(func() []moveCase {
	r := newRandom(75)
	var cases []moveCase
	for _, c := range moveCases() {
		if r.IntN(4) == 0 {
			c = alteredMove(r, c)
		}
		cases = append(cases, c)
	}
	return cases
})

func TestMoveFunctionsLeaveTheirArguments(t *testing.T) {
	mark := impl.Timer{Node: -5, Due: -5}
	moved, instances := 0, 0
	for _, c := range mixedCases() {
		m := move{roomyProcess(c.p), roomyProcess(c.q), withRoom(c.flows, -5)}
		marks := withRoom(c.marks, -5)
		x := impl.Instance{Marks: withRoom(c.x.Marks, -5), Values: withRoom(c.x.Values, -5), Clock: c.x.Clock, Timers: withRoom(c.x.Timers, mark)}
		first := askMove(m, marks, x)
		want := first.copied()
		first.spoil()
		wantRoomy(t, m.p, c.p)
		wantRoomy(t, m.q, c.q)
		if !sameRoom(m.flows, c.flows, -5) || !sameRoom(marks, c.marks, -5) {
			t.Fatalf("%v: flows or tokens have become %v and %v", c, m.flows, marks)
		}
		if !sameRoom(x.Marks, c.x.Marks, -5) || !sameRoom(x.Values, c.x.Values, -5) || !sameRoom(x.Timers, c.x.Timers, mark) {
			t.Fatalf("%v: the instance has become %v", c, x)
		}
		if !sameAnswers(askMove(m, marks, x), want) {
			t.Fatalf("the second results for %v differ", c)
		}
		moved += bit(want.ok)
		instances += bit(len(want.lists[1]) > 0)
	}
	if min(moved, instances) < 1000 {
		t.Errorf("%d times tokens, and %d instances, that are moved test too little", moved, instances)
	}
}

func TestMovesShareNoMemory(t *testing.T) {
	for i, c := range mixedCases() {
		if i%2 != 0 {
			continue
		}
		x := copyInstance(c.x)
		m := move{c.p, c.q, slices.Clone(c.flows)}
		marks := slices.Clone(c.marks)
		same := toItself(c.p)
		all := []answers{askMove(m, marks, x), askMove(m, marks, x), askMove(same, marks, x), askMove(same, marks, x)}
		lists, timers := [][]int{m.flows, same.flows, marks, x.Marks, x.Values}, [][]impl.Timer{x.Timers}
		for _, a := range all {
			lists = slices.Concat(lists, a.lists)
			timers = slices.Concat(timers, a.timers)
		}
		wantApart(t, c, lists)
		wantTimersApart(t, c, timers)
	}
}

func TestEmptyAndNilMovesAreTheSame(t *testing.T) {
	none := impl.Process{Nodes: []impl.Node{}, Flows: []impl.Flow{}}
	empty := impl.Instance{Marks: []int{}, Values: []int{}, Timers: []impl.Timer{}}
	if !sameAnswers(askMove(move{}, nil, impl.Instance{}), askMove(move{none, none, []int{}}, []int{}, empty)) {
		t.Error("an empty move is not as none")
	}
	for _, c := range moveCases() {
		m, marks, x := c.move, c.marks, c.x
		n, y := move{copyProcess(m.p), copyProcess(m.q), m.flows}, copyInstance(x)
		for _, p := range []impl.Process{n.p, n.q} {
			for f, w := range p.Flows {
				if len(w.When) == 0 {
					p.Flows[f].When = []impl.Part{}
				}
			}
		}
		if len(y.Timers) == 0 {
			x.Timers, y.Timers = nil, []impl.Timer{}
		}
		if !sameAnswers(askMove(m, marks, x), askMove(n, marks, y)) {
			t.Fatalf("empty lists of %v are not as none", c)
		}
		if !sameAnswers(askMove(m, nil, impl.Instance{}), askMove(n, []int{}, empty)) {
			t.Fatalf("empty tokens for %v are not as none", c)
		}
		m.flows, n.flows = nil, []int{}
		if !sameAnswers(askMove(m, marks, x), askMove(n, marks, y)) {
			t.Fatalf("an empty map for %v is not as none", c)
		}
	}
}

// TestMoveFunctionsReturnForEveryArgument fails by a panic if they do not.
func TestMoveFunctionsReturnForEveryArgument(t *testing.T) {
	r := newRandom(76)
	moved, instances := 0, 0
	ask := func(m move, marks []int, x impl.Instance) {
		got, want := askMove(m, marks, x), wantedMoveAnswers(m, marks, x)
		if !sameAnswers(got, want) {
			t.Fatalf("%v with %v and %v: %v, want %v", m, marks, x, got, want)
		}
		moved += bit(want.ok)
		instances += bit(len(want.lists[1]) > 0)
	}
	for _, c := range mixedCases() {
		ask(c.move, c.marks, c.x)
		p := c.p
		if r.IntN(3) == 0 {
			p = impl.Process{Nodes: []impl.Node{{Kind: anyNumber(r), Value: anyNumber(r)}}, Flows: []impl.Flow{{From: anyNumber(r), To: anyNumber(r), When: anyCondition(r)}}}
		}
		ask(move{p, c.q, anyNumbers(r, len(p.Flows))}, anyNumbers(r, len(p.Flows)), anyInstance(r, p))
		ask(move{c.p, p, anyNumbers(r, len(c.p.Flows))}, c.marks, c.x)
		ask(move{c.p, c.q, c.flows}, anyNumbers(r, len(c.flows)), anyInstance(r, c.p))
	}
	if min(moved, instances) < 1000 {
		t.Errorf("%d times tokens, and %d instances, that are moved test too little", moved, instances)
	}
}

// TestMovesAtTheSameTime fails if a call about a move keeps something for the next one, or for one beside it.
func TestMovesAtTheSameTime(t *testing.T) {
	cases := mixedCases()[:1500]
	want := make([]answers, len(cases))
	for i, c := range cases {
		want[i] = askMove(c.move, c.marks, c.x)
	}
	var group sync.WaitGroup
	for k := range 8 {
		group.Go(func() {
			for i := range cases {
				j := (i*7 + k*31) % len(cases)
				if !sameAnswers(askMove(cases[j].move, cases[j].marks, cases[j].x), want[j]) {
					t.Errorf("results for %v differ", cases[j])
				}
			}
		})
	}
	group.Wait()
}
