package tests

import (
	"math/rand/v2"
	"slices"
	"sync"
	"testing"

	"loop.example/processengine/impl"
)

// question is what is asked about an instance in the chapters of instances and runs.
type question struct {
	values []int
	node   int
	sets   []impl.Set
	name   int
	to     int
}

// add puts an instance, and whether there is one, into results.
func (a *answers) add(x impl.Instance, ok bool) {
	a.lists = append(a.lists, x.Marks, x.Values, []int{x.Clock, bit(ok)})
	a.timers = append(a.timers, x.Timers)
}

// askRun asks about an instance.
func askRun(p impl.Process, x impl.Instance, q question) answers {
	a := answers{valid: impl.ValidInstance(p, x), value: impl.NextDue(p, x), ok: impl.IsDone(p, x)}
	a.lists = append(a.lists, impl.OpenTasks(p, x))
	a.add(impl.StartInstance(p, q.values))
	a.add(impl.CompleteTask(p, x, q.node, q.sets))
	a.add(impl.DeliverMessage(p, x, q.name))
	a.add(impl.AdvanceClock(p, x, q.to))
	return a
}

// randomQuestion returns a question about an instance, most of whose parts have an answer.
func randomQuestion(r *rand.Rand, p impl.Process, x impl.Instance) question {
	q := question{values: smallValues(r), sets: randomSets(r, impl.MaxSets), node: r.IntN(len(p.Nodes)), name: r.IntN(3), to: x.Clock + r.IntN(100)}
	if open := impl.OpenTasks(p, x); len(open) > 0 {
		q.node = open[r.IntN(len(open))]
	}
	for _, i := range r.Perm(len(p.Nodes)) {
		if p.Nodes[i].Kind == impl.NodeMessage {
			q.name = p.Nodes[i].Value
		}
	}
	if due := impl.NextDue(p, x); due >= 0 && r.IntN(2) == 0 {
		q.to = due + r.IntN(5)
	}
	return q
}

func TestRunFunctionsLeaveTheirArguments(t *testing.T) {
	markTimer, markSet := impl.Timer{Node: -5, Due: -5}, impl.Set{Variable: -5, Value: -5}
	withInstances(t, func(r *rand.Rand, p impl.Process, x impl.Instance) {
		if r.IntN(8) == 0 {
			x = alteredInstance(r, x)
		}
		ask := randomQuestion(r, p, x)
		q := roomyProcess(p)
		y := impl.Instance{Marks: withRoom(x.Marks, -5), Values: withRoom(x.Values, -5), Clock: x.Clock, Timers: withRoom(x.Timers, markTimer)}
		ask2 := ask
		ask2.values, ask2.sets = withRoom(ask.values, -5), withRoom(ask.sets, markSet)
		first := askRun(q, y, ask2)
		want := first.copied()
		first.spoil()
		wantRoomy(t, q, p)
		if !sameRoom(y.Marks, x.Marks, -5) || !sameRoom(y.Values, x.Values, -5) || !sameRoom(y.Timers, x.Timers, markTimer) {
			t.Fatalf("%v: the instance %v has become %v by %v", p, x, y, ask)
		}
		if !sameRoom(ask2.values, ask.values, -5) || !sameRoom(ask2.sets, ask.sets, markSet) {
			t.Fatalf("%v with %v: %v has become %v", p, x, ask, ask2)
		}
		if !sameAnswers(askRun(q, y, ask2), want) {
			t.Fatalf("the second results for %v, %v differ", p, x)
		}
	})
}

// wantTimersApart fails if lists of timers share memory.
func wantTimersApart(t *testing.T, what any, lists [][]impl.Timer) {
	t.Helper()
	for i, list := range lists {
		spoil(list, impl.Timer{Node: i})
	}
	for i, list := range lists {
		if slices.ContainsFunc(list[:cap(list)], func(w impl.Timer) bool { return w.Node != i }) {
			t.Fatalf("%v: the timers %d share memory with others", what, i)
		}
	}
}

func TestInstancesShareNoMemory(t *testing.T) {
	withInstances(t, func(r *rand.Rand, p impl.Process, x impl.Instance) {
		if r.IntN(4) > 0 {
			return
		}
		y, q := copyInstance(x), randomQuestion(r, p, x)
		first, second := askRun(p, y, q), askRun(p, y, q)
		wantApart(t, p, slices.Concat([][]int{y.Marks, y.Values, q.values}, first.lists, second.lists))
		wantTimersApart(t, p, slices.Concat([][]impl.Timer{y.Timers}, first.timers, second.timers))
	})
}

func TestEmptyAndNilInstancesAreTheSame(t *testing.T) {
	none := impl.Instance{Marks: []int{}, Values: []int{}, Timers: []impl.Timer{}}
	p := impl.Process{Nodes: []impl.Node{}, Flows: []impl.Flow{}}
	if !sameAnswers(askRun(impl.Process{}, impl.Instance{}, question{}), askRun(p, none, question{values: []int{}, sets: []impl.Set{}})) {
		t.Error("an empty instance is not as none")
	}
	withInstances(t, func(r *rand.Rand, p impl.Process, x impl.Instance) {
		q := randomQuestion(r, p, x)
		q.sets = nil
		y, other := copyInstance(x), q
		other.sets = []impl.Set{}
		if len(y.Timers) == 0 {
			x.Timers, y.Timers = nil, []impl.Timer{}
		}
		if !sameAnswers(askRun(p, x, q), askRun(p, y, other)) {
			t.Fatalf("%v: empty lists of %v are not as none", p, x)
		}
		q.values, other.values = nil, []int{}
		x.Marks, y.Marks = nil, []int{}
		if !sameAnswers(askRun(p, x, q), askRun(p, y, other)) {
			t.Fatalf("%v: empty tokens and values of %v are not as none", p, x)
		}
	})
}

// anyInstance returns an instance that is hardly ever valid.
func anyInstance(r *rand.Rand, p impl.Process) impl.Instance {
	x := impl.Instance{Marks: anyNumbers(r, len(p.Flows)), Values: anyNumbers(r, impl.Variables), Clock: anyNumber(r)}
	for range r.IntN(5) {
		x.Timers = append(x.Timers, impl.Timer{Node: anyNumber(r), Due: anyNumber(r)})
	}
	return x
}

func anyQuestion(r *rand.Rand) question {
	q := question{values: anyNumbers(r, impl.Variables), node: anyNumber(r), name: anyNumber(r), to: anyNumber(r)}
	for range r.IntN(7) {
		q.sets = append(q.sets, impl.Set{Variable: anyNumber(r), Value: anyNumber(r)})
	}
	return q
}

// wantedRun returns what askRun has to return.
func wantedRun(p impl.Process, x impl.Instance, q question) answers {
	a := answers{valid: wantedValidInstance(p, x), value: wantedNextDue(p, x), ok: wantedDone(p, x)}
	a.lists = append(a.lists, wantedOpen(p, x))
	a.add(wantedStart(p, q.values))
	a.add(wantedComplete(p, x, q.node, q.sets))
	a.add(wantedDeliver(p, x, q.name))
	a.add(wantedAdvance(p, x, q.to))
	return a
}

// TestRunFunctionsReturnForEveryArgument fails by a panic, or by its time, if they do not for processes that are valid.
func TestRunFunctionsReturnForEveryArgument(t *testing.T) {
	t.Parallel()
	withInstances(t, func(r *rand.Rand, p impl.Process, x impl.Instance) {
		for range 2 {
			y, q := anyInstance(r, p), anyQuestion(r)
			switch r.IntN(4) { // so that some parts are valid
			case 0:
				y = x
			case 1:
				y.Marks, y.Timers = x.Marks, x.Timers
			case 2:
				y.Values, y.Clock = x.Values, x.Clock
			}
			if got, want := askRun(p, y, q), wantedRun(p, y, q); !sameAnswers(got, want) {
				t.Fatalf("%v, %v with %v: %v, want %v", p, y, q, got, want)
			}
		}
	})
}

// TestRunsAtTheSameTime fails if a call about an instance keeps something for the next one, or for one beside it.
func TestRunsAtTheSameTime(t *testing.T) {
	r := newRandom(18)
	list := runCases()[:2000]
	questions, want := make([]question, len(list)), make([]answers, len(list))
	for i, c := range list {
		questions[i] = randomQuestion(r, c.p, c.x)
		want[i] = askRun(c.p, c.x, questions[i])
	}
	var group sync.WaitGroup
	for k := range 8 {
		group.Go(func() {
			for i := range list {
				j := (i*7 + k*31) % len(list)
				if !sameAnswers(askRun(list[j].p, list[j].x, questions[j]), want[j]) {
					t.Errorf("results for %v differ", list[j])
				}
			}
		})
	}
	group.Wait()
}
