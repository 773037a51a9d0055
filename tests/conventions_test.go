package tests

import (
	"math/rand/v2"
	"reflect"
	"slices"
	"sync"
	"testing"

	"loop.example/processengine/impl"
)

// withRoom returns a copy of a list with room behind its end, filled with a mark that no call may change.
func withRoom[T any](list []T, mark T) []T {
	room := append(slices.Clone(list), mark, mark, mark)
	return room[:len(list)]
}

// sameRoom reports whether a list and the room behind its end are as withRoom made them.
func sameRoom[T comparable](list []T, before []T, mark T) bool {
	if !slices.Equal(list, before) {
		return false
	}
	behind := list[len(list) : len(list)+3]
	return slices.Equal(behind, []T{mark, mark, mark})
}

// copyProcess returns a process that shares no memory with another one.
func copyProcess(p impl.Process) impl.Process {
	q := impl.Process{Nodes: slices.Clone(p.Nodes), Flows: slices.Clone(p.Flows)}
	for i := range q.Flows {
		q.Flows[i].When = slices.Clone(q.Flows[i].When)
	}
	return q
}

// spoil writes over a list, and over all the room behind its end.
func spoil[T any](list []T, mark T) {
	list = list[:cap(list)]
	for i := range list {
		list[i] = mark
	}
}

// answers are the results of all functions of a chapter for some arguments.
type answers struct {
	valid bool
	value int
	ok    bool
	parts []impl.Part
	lists [][]int
	// timers are those of each instance in the results.
	timers [][]impl.Timer
}

func askCondition(c []impl.Part, v []int) answers {
	a := answers{valid: impl.ValidCondition(c), value: impl.EvalCondition(c, v)}
	a.lists = append(a.lists, impl.UsedVariables(c))
	a.parts, a.ok = impl.NotCondition(c)
	return a
}

func askProcess(p impl.Process) answers {
	a := answers{valid: impl.ValidProcess(p), ok: impl.HasCircle(p)}
	for i := range p.Nodes {
		a.lists = append(a.lists, impl.FlowsOut(p, i), impl.FlowsIn(p, i))
	}
	a.lists = append(a.lists, impl.Reachable(p))
	return a
}

// askTokens asks about tokens, and about one node with values.
func askTokens(p impl.Process, marks []int, node int, v []int) answers {
	a := answers{value: impl.TokenCount(p, marks)}
	a.lists = append(a.lists, impl.FirstMarks(p), impl.ReadyNodes(p, marks), []int{impl.ChooseFlow(p, node, v)})
	next, ok := impl.FireNode(p, marks, node, v)
	a.ok = ok
	a.lists = append(a.lists, next)
	return a
}

func askSound(p impl.Process) answers {
	a := answers{valid: impl.IsSound(p)}
	a.lists, a.ok = impl.AllMarks(p)
	a.value = len(a.lists)
	a.lists = append(a.lists, impl.StuckMarks(p)...)
	a.lists = append(a.lists, impl.NeverReady(p))
	return a
}

// askAll asks about a process with tokens in all chapters.
func askAll(p impl.Process, marks []int, node int, v []int) answers {
	a, b, c := askProcess(p), askTokens(p, marks, node, v), askSound(p)
	return answers{
		valid: a.valid && c.valid,
		value: b.value*100 + c.value,
		ok:    b.ok,
		lists: slices.Concat(a.lists, b.lists, c.lists, [][]int{{bit(a.valid), bit(a.ok), bit(c.valid), bit(c.ok)}}),
	}
}

func (a answers) spoil() {
	spoil(a.parts, impl.Part{Kind: -7, Value: -7})
	for _, list := range a.lists {
		spoil(list, -7)
	}
	for _, list := range a.timers {
		spoil(list, impl.Timer{Node: -7, Due: -7})
	}
}

// sameAnswers reports whether results are the same, where a nil slice is an empty one.
func sameAnswers(a answers, b answers) bool {
	return a.valid == b.valid && a.value == b.value && a.ok == b.ok && slices.Equal(a.parts, b.parts) && slices.EqualFunc(a.lists, b.lists, slices.Equal) && slices.EqualFunc(a.timers, b.timers, slices.Equal)
}

// copied returns results that share no memory with others.
func (a answers) copied() answers {
	b := a
	b.parts = slices.Clone(a.parts)
	b.lists = nil
	for _, list := range a.lists {
		b.lists = append(b.lists, slices.Clone(list))
	}
	b.timers = nil
	for _, list := range a.timers {
		b.timers = append(b.timers, slices.Clone(list))
	}
	return b
}

func TestConditionFunctionsLeaveTheirArguments(t *testing.T) {
	mark := impl.Part{Kind: -5, Value: -5}
	r := newRandom(6)
	for i := range 2000 {
		c, v := randomCondition(r, impl.MaxParts), randomValues(r)
		if i%4 == 0 {
			c = append(c, number(1)) // one that is not valid
		}
		c2, v2 := withRoom(c, mark), withRoom(v, -5)
		first := askCondition(c2, v2)
		if !sameRoom(c2, c, mark) || !sameRoom(v2, v, -5) {
			t.Fatalf("arguments %v and %v have become %v and %v", c, v, c2, v2)
		}
		want := first.copied()
		first.spoil()
		if !sameRoom(c2, c, mark) || !sameRoom(v2, v, -5) {
			t.Fatalf("a result shares memory with an argument of %v, %v", c, v)
		}
		if !sameAnswers(askCondition(c2, v2), want) {
			t.Fatalf("the second results for %v, %v differ", c, v)
		}
	}
}

// roomyProcess returns a copy of a process with room behind each of its lists, filled with marks that no call may change.
func roomyProcess(p impl.Process) impl.Process {
	q := copyProcess(p)
	q.Nodes = withRoom(q.Nodes, impl.Node{Kind: -5, Value: -5})
	q.Flows = append(q.Flows, impl.Flow{From: -5})[:len(q.Flows)]
	for i := range q.Flows {
		q.Flows[i].When = withRoom(q.Flows[i].When, impl.Part{Kind: -5, Value: -5})
	}
	return q
}

// wantRoomy fails if a process is not as roomyProcess made it of another one.
func wantRoomy(t *testing.T, q impl.Process, p impl.Process) {
	t.Helper()
	if !sameRoom(q.Nodes, p.Nodes, impl.Node{Kind: -5, Value: -5}) || q.Flows[:len(q.Flows)+1][len(q.Flows)].From != -5 {
		t.Fatalf("nodes or flows of %v are changed", p)
	}
	for i, w := range p.Flows {
		f := q.Flows[i]
		if f.From != w.From || f.To != w.To || !sameRoom(f.When, w.When, impl.Part{Kind: -5, Value: -5}) {
			t.Fatalf("the flow %d of %v is changed", i, p)
		}
	}
}

func TestModelFunctionsLeaveTheirArguments(t *testing.T) {
	r := newRandom(10)
	for _, p := range slices.Concat(tokenProcesses(), badProcesses()) {
		marks, v, node := randomMarks(r, p), smallValues(r), r.IntN(len(p.Nodes)+1)
		if ready := impl.ReadyNodes(p, marks); len(ready) > 0 && r.IntN(4) > 0 {
			node = ready[r.IntN(len(ready))]
		}
		q, marks2, v2 := roomyProcess(p), withRoom(marks, -5), withRoom(v, -5)
		first := askAll(q, marks2, node, v2)
		want := first.copied()
		first.spoil()
		wantRoomy(t, q, p)
		if !sameRoom(marks2, marks, -5) || !sameRoom(v2, v, -5) {
			t.Fatalf("%v: tokens %v and values %v have become %v and %v", p, marks, v, marks2, v2)
		}
		if !sameAnswers(askAll(q, marks2, node, v2), want) {
			t.Fatalf("the second results for %v differ", p)
		}
	}
}

// wantApart fails if lists share memory, for each of them is written over and then has to be as it was written.
func wantApart(t *testing.T, what any, lists [][]int) {
	t.Helper()
	for i, list := range lists {
		spoil(list, -100-i)
	}
	for i, list := range lists {
		if slices.ContainsFunc(list[:cap(list)], func(n int) bool { return n != -100-i }) {
			t.Fatalf("%v: the list %d shares memory with another one", what, i)
		}
	}
}

func TestListsOfTokensShareNoMemory(t *testing.T) {
	r := newRandom(11)
	for _, p := range tokenProcesses() {
		marks, v := randomMarks(r, p), smallValues(r)
		lists := [][]int{marks, v}
		for node := range p.Nodes {
			next, _ := impl.FireNode(p, marks, node, v)
			lists = append(lists, next)
		}
		lists = append(lists, impl.FirstMarks(p), impl.FirstMarks(p), impl.ReadyNodes(p, marks), impl.ReadyNodes(p, marks))
		for range 2 {
			all, _ := impl.AllMarks(p)
			lists = slices.Concat(lists, all, impl.StuckMarks(p), [][]int{impl.NeverReady(p)})
		}
		wantApart(t, p, lists)
	}
}

func TestResultsShareNoMemory(t *testing.T) {
	for _, p := range someProcesses() {
		a := askProcess(p)
		for i := range a.lists {
			b := askProcess(p)
			want := b.copied()
			spoil(b.lists[i], -7)
			b.lists[i] = want.lists[i]
			if !sameAnswers(b, want) {
				t.Fatalf("%v: the result %d shares memory with another one", p, i)
			}
		}
	}
	c := parts(variable(2), variable(1), operator(impl.PartAdd))
	one, _ := impl.NotCondition(c)
	two, _ := impl.NotCondition(c)
	spoil(one, impl.Part{Kind: -7})
	c[0] = number(5)
	if !reflect.DeepEqual(two, parts(variable(2), variable(1), operator(impl.PartAdd), operator(impl.PartNot))) {
		t.Errorf("NotCondition shares memory: %v", two)
	}
	c = parts(variable(2), variable(1), operator(impl.PartAdd))
	used := impl.UsedVariables(c)
	spoil(impl.UsedVariables(c), -7)
	wantList(t, "UsedVariables", used, 1, 2)
}

func TestEmptyAndNilAreTheSame(t *testing.T) {
	if !sameAnswers(askCondition(nil, nil), askCondition([]impl.Part{}, []int{})) {
		t.Error("an empty condition is not as none")
	}
	none := impl.Process{Nodes: []impl.Node{}, Flows: []impl.Flow{}}
	if !sameAnswers(askAll(impl.Process{}, nil, 0, nil), askAll(none, []int{}, 0, []int{})) {
		t.Error("an empty process is not as none")
	}
	for _, p := range tokenProcesses() {
		q := copyProcess(p)
		for i := range q.Flows {
			if len(q.Flows[i].When) == 0 {
				q.Flows[i].When = []impl.Part{}
			}
		}
		marks := impl.FirstMarks(p)
		node := impl.ReadyNodes(p, marks)
		node = append(node, 0) // if there is none
		if !sameAnswers(askAll(p, marks, node[0], zeros), askAll(q, marks, node[0], zeros)) {
			t.Fatalf("empty conditions of %v are not as none", p)
		}
		if !sameAnswers(askAll(p, nil, node[0], nil), askAll(q, []int{}, node[0], []int{})) {
			t.Fatalf("empty tokens and values of %v are not as none", p)
		}
	}
}

func anyNumber(r *rand.Rand) int {
	if r.IntN(3) == 0 {
		return extremes[r.IntN(len(extremes))]
	}
	return r.IntN(12) - 1
}

// anyNumbers returns numbers, often as many as told.
func anyNumbers(r *rand.Rand, many int) []int {
	if r.IntN(3) == 0 {
		many = r.IntN(17)
	}
	var list []int
	for range many {
		list = append(list, anyNumber(r))
	}
	return list
}

func anyCondition(r *rand.Rand) []impl.Part {
	var c []impl.Part
	for range r.IntN(16) {
		c = append(c, impl.Part{Kind: anyNumber(r), Value: anyNumber(r)})
	}
	return c
}

// TestFunctionsReturnForEveryArgument fails by a panic, or by its time, if they do not.
func TestFunctionsReturnForEveryArgument(t *testing.T) {
	r := newRandom(7)
	for range 50000 {
		c := anyCondition(r)
		v := anyNumbers(r, impl.Variables)
		if a := askCondition(c, v); a.valid != wantedValid(c) || a.value != wantedValue(c, v) {
			t.Fatalf("conditions: %v with %v", c, v)
		}
		var p impl.Process
		for range r.IntN(13) {
			p.Nodes = append(p.Nodes, impl.Node{Kind: anyNumber(r), Value: anyNumber(r)})
		}
		for range r.IntN(17) {
			p.Flows = append(p.Flows, impl.Flow{From: anyNumber(r), To: anyNumber(r), When: anyCondition(r)})
		}
		askAll(p, anyNumbers(r, len(p.Flows)), anyNumber(r), v)
		impl.FlowsOut(p, anyNumber(r))
		impl.FlowsIn(p, anyNumber(r))
		askRun(p, anyInstance(r, p), anyQuestion(r))
		if _, want := wantedProcess(p); impl.ValidProcess(p) != want {
			t.Fatalf("ValidProcess(%v) = %v", p, !want)
		}
	}
}

// TestTokenFunctionsReturnForEveryArgument fails by a panic, or by its time, if they do not for processes that are valid.
func TestTokenFunctionsReturnForEveryArgument(t *testing.T) {
	r := newRandom(12)
	for _, p := range tokenProcesses() {
		for range 10 {
			marks, v := anyNumbers(r, len(p.Flows)), anyNumbers(r, impl.Variables)
			node := anyNumber(r)
			got, want := askTokens(p, marks, node, v), answers{value: wantedCount(p, marks)}
			next, ok := wantedFire(p, marks, node, v)
			want.ok = ok
			want.lists = [][]int{wantedFirst(p), wantedReady(p, marks), {wantedChoice(p, node, v)}, next}
			if !sameAnswers(got, want) {
				t.Fatalf("%v with %v, %d, %v: %v, want %v", p, marks, node, v, got, want)
			}
		}
	}
}

// TestCallsAtTheSameTime fails if a call keeps something for the next one, or for one beside it.
func TestCallsAtTheSameTime(t *testing.T) {
	list := slices.Concat(someProcesses()[:100], blockProcesses()[:100])
	ask := func(p impl.Process) answers { return askAll(p, impl.FirstMarks(p), p.Flows[0].To, zeros) }
	want := make([]answers, len(list))
	for i, p := range list {
		want[i] = ask(p)
	}
	var group sync.WaitGroup
	for k := range 8 {
		group.Go(func() {
			for i := range list {
				j := (i*7 + k*31) % len(list)
				if !sameAnswers(ask(list[j]), want[j]) {
					t.Errorf("results for %v differ", list[j])
				}
			}
		})
	}
	group.Wait()
}
