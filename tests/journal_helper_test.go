package tests

import (
	"math/rand/v2"
	"slices"
	"sync"
	"testing"

	"loop.example/processengine/impl"
)

func completed(node int, list ...impl.Set) impl.Event {
	return impl.Event{Kind: impl.EventComplete, Value: node, Sets: list}
}

func delivered(name int) impl.Event { return impl.Event{Kind: impl.EventMessage, Value: name} }

func passed(to int) impl.Event { return impl.Event{Kind: impl.EventClock, Value: to} }

// journal returns a new list of events; no two of them share memory.
func journal(list ...impl.Event) []impl.Event {
	events := slices.Clone(list)
	for i := range events {
		events[i].Sets = slices.Clone(events[i].Sets)
	}
	return events
}

// followed returns a new journal that is a journal with more events behind it.
func followed(list []impl.Event, more ...impl.Event) []impl.Event {
	return journal(slices.Concat(list, more)...)
}

// replaced returns a journal with another event at an index.
func replaced(list []impl.Event, i int, e impl.Event) []impl.Event {
	events := journal(list...)
	events[i] = e
	return events
}

// someEvent returns an event that often succeeds for an instance.
func someEvent(r *rand.Rand, p impl.Process, x impl.Instance) impl.Event {
	q := randomQuestion(r, p, x)
	switch r.IntN(3) {
	case 0:
		return completed(q.node, q.sets...)
	case 1:
		return delivered(q.name)
	}
	return passed(min(q.to, impl.MaxClock))
}

// badEvent returns an event that fails for each instance of a process.
func badEvent(r *rand.Rand, p impl.Process) impl.Event {
	set := impl.Set{Variable: r.IntN(impl.Variables), Value: r.IntN(3)}
	return []impl.Event{
		{}, {Kind: 4, Value: r.IntN(10)}, {Kind: -1}, completed(len(p.Nodes)), completed(-1), delivered(-1), delivered(impl.MaxName + 1), passed(-1), passed(impl.MaxClock + 1),
		{Kind: impl.EventMessage, Value: r.IntN(10), Sets: []impl.Set{set}}, {Kind: impl.EventClock, Value: impl.MaxClock, Sets: []impl.Set{set}},
		completed(r.IntN(len(p.Nodes)), impl.Set{Variable: 4}), completed(r.IntN(len(p.Nodes)), slices.Repeat([]impl.Set{set}, 5)...),
	}[r.IntN(13)]
}

// going returns an event that succeeds for an instance, if it can be found soon, and what it leads to.
func going(r *rand.Rand, p impl.Process, x impl.Instance) (impl.Event, impl.Instance) {
	for range 10 {
		e := someEvent(r, p, x)
		if y, ok := impl.ApplyEvent(p, x, e); ok {
			return e, y
		}
	}
	return passed(x.Clock), x
}

// goingOn returns a journal with so many events more, nearly all of which succeed.
func goingOn(r *rand.Rand, p impl.Process, v []int, list []impl.Event, more int) []impl.Event {
	events := journal(list...)
	x, _ := impl.ReplayEvents(p, v, events)
	for range more {
		if r.IntN(20) == 0 {
			events = append(events, badEvent(r, p))
			continue
		}
		e, y := going(r, p, x)
		events = append(events, e)
		x = y
	}
	return events
}

// randomJournal returns at most MaxEvents events.
func randomJournal(r *rand.Rand, p impl.Process, v []int) []impl.Event {
	many := r.IntN(impl.MaxEvents + 1)
	if r.IntN(3) == 0 {
		many = impl.MaxEvents
	}
	return goingOn(r, p, v, nil, many)
}

// otherJournal returns a journal that is as another one up to some event.
func otherJournal(r *rand.Rand, p impl.Process, v []int, list []impl.Event) []impl.Event {
	if len(list) == 0 || r.IntN(8) == 0 {
		return randomJournal(r, p, v)
	}
	i := r.IntN(len(list))
	x, _ := impl.ReplayEvents(p, v, list[:i])
	switch r.IntN(7) {
	case 0:
		return journal(list...)
	case 1:
		return journal(list[:i]...)
	case 2:
		return replaced(list, i, someEvent(r, p, x))
	case 3:
		return replaced(list, i, badEvent(r, p))
	case 4: // the last event is another one
		return replaced(list, len(list)-1, passed(r.IntN(impl.MaxClock)))
	case 5: // another value is set, which often is that of a variable already
		e := journal(list[i])[0]
		if e.Kind == impl.EventComplete && len(e.Sets) < impl.MaxSets {
			e.Sets = append(e.Sets, impl.Set{Variable: r.IntN(impl.Variables), Value: r.IntN(3) - 1})
		}
		return replaced(list, i, e)
	}
	return goingOn(r, p, v, list[:i], r.IntN(impl.MaxEvents+1-i))
}

// journalCase is two journals of a valid process and values, with which it may not begin.
type journalCase struct {
	p impl.Process
	v []int
	a []impl.Event
	b []impl.Event
}

// journalCases returns many journals. Nobody may change them.
var journalCases = sync.OnceValue(func() []journalCase {
	r := newRandom(19)
	var list []journalCase
	for _, p := range runProcesses() {
		for range 2 {
			v := smallValues(r)
			a := randomJournal(r, p, v)
			b := otherJournal(r, p, v, a)
			// Events that fail in the middle of both, so that the others do not matter.
			if i := min(len(a), len(b)); i > 0 && r.IntN(6) == 0 {
				i = r.IntN(i)
				a[i], b[i] = badEvent(r, p), badEvent(r, p)
			}
			list = append(list, journalCase{p, v, a, b})
		}
	}
	return list
})

// withJournals calls a function with many journals of processes that begin.
func withJournals(t *testing.T, f func(r *rand.Rand, c journalCase, start impl.Instance)) {
	t.Helper()
	r := newRandom(20)
	events := 0
	for _, c := range journalCases() {
		if x, ok := impl.StartInstance(c.p, c.v); ok {
			f(r, c, x)
			events += len(c.a)
		}
	}
	if events < 10000 {
		t.Errorf("%d events test too little", events)
	}
}

// badStarts returns processes with values with which they cannot begin.
func badStarts() []journalCase {
	var list []journalCase
	for _, p := range badProcesses() {
		list = append(list, journalCase{p: p, v: zeros})
	}
	for _, v := range badValues() {
		list = append(list, journalCase{p: line(impl.NodeTask), v: v})
	}
	noWay := conditionedChoice(parts(variable(0)), parts(variable(1)))
	list = append(list, journalCase{p: noWay, v: zeros}, journalCase{p: emptyCircle(), v: []int{1, 0, 0, 0}}, journalCase{p: severalAt(task(), 4), v: zeros})
	return append(list, journalCase{}, journalCase{p: withoutNode(longWay(task(), 31)), v: zeros})
}

// wantReplayed fails if events of a process do not lead to an instance, or another number of them succeeds.
func wantReplayed(t *testing.T, what string, p impl.Process, v []int, list []impl.Event, want impl.Instance, many int) {
	t.Helper()
	if x, n := impl.ReplayEvents(p, v, list); n != many || !sameInstance(x, want) {
		t.Errorf("%s: ReplayEvents = %v, %d, want %v, %d", what, x, n, want, many)
	}
}

// wantSplit fails if two journals of a process do not split where they have to, in one order or the other.
func wantSplit(t *testing.T, what string, p impl.Process, v []int, a []impl.Event, b []impl.Event, want int) {
	t.Helper()
	if n := impl.FirstSplit(p, v, a, b); n != want {
		t.Errorf("%s: FirstSplit = %d, want %d", what, n, want)
	}
	if n := impl.FirstSplit(p, v, b, a); n != want {
		t.Errorf("%s, the other way round: FirstSplit = %d, want %d", what, n, want)
	}
}
