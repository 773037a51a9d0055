package tests

import (
	"math/rand/v2"
	"slices"
	"sync"
	"testing"

	"loop.example/processengine/impl"
)

var (
	roomSet   = impl.Set{Variable: -5, Value: -5}
	roomTimer = impl.Timer{Node: -5, Due: -5}
	roomEvent = impl.Event{Kind: -5}
)

// roomyEvents returns a copy of a journal with room behind it and behind the values of each event.
func roomyEvents(list []impl.Event) []impl.Event {
	events := append(journal(list...), roomEvent)
	for i := range list {
		events[i].Sets = withRoom(list[i].Sets, roomSet)
	}
	return events[:len(list)]
}

// sameEvents reports whether a journal is as roomyEvents made it of another one.
func sameEvents(list []impl.Event, before []impl.Event) bool {
	if behind := list[:len(list)+1][len(list)]; len(list) != len(before) || behind.Kind != roomEvent.Kind || behind.Sets != nil {
		return false
	}
	for i, e := range before {
		if list[i].Kind != e.Kind || list[i].Value != e.Value || !sameRoom(list[i].Sets, e.Sets, roomSet) {
			return false
		}
	}
	return true
}

// askJournal asks about two journals, and about an event for an instance.
func askJournal(c journalCase, x impl.Instance, e impl.Event) answers {
	a := answers{value: impl.FirstSplit(c.p, c.v, c.a, c.b)}
	a.add(impl.ApplyEvent(c.p, x, e))
	for _, list := range [][]impl.Event{c.a, c.b} {
		y, n := impl.ReplayEvents(c.p, c.v, list)
		a.add(y, n >= 0)
		a.lists = append(a.lists, []int{n})
	}
	return a
}

// wantedJournal returns what askJournal has to return.
func wantedJournal(c journalCase, x impl.Instance, e impl.Event) answers {
	a := answers{value: wantedSplit(c.p, c.v, c.a, c.b)}
	a.add(wantedApply(c.p, x, e))
	for _, list := range [][]impl.Event{c.a, c.b} {
		y, n := wantedReplay(c.p, c.v, list)
		a.add(y, n >= 0)
		a.lists = append(a.lists, []int{n})
	}
	return a
}

// someInstance returns an instance of a process, which often is valid.
func someInstance(r *rand.Rand, p impl.Process) impl.Instance {
	x := randomInstance(r, p)
	if r.IntN(8) == 0 {
		x = alteredInstance(r, x)
	}
	return x
}

func TestJournalFunctionsLeaveTheirArguments(t *testing.T) {
	r := newRandom(24)
	for _, c := range journalCases() {
		if r.IntN(10) == 0 {
			c.a = followed(c.a, slices.Repeat([]impl.Event{passed(0)}, 13-len(c.a))...)
		}
		x := someInstance(r, c.p)
		e := someEvent(r, c.p, x)
		c2 := journalCase{p: roomyProcess(c.p), v: withRoom(c.v, -5), a: roomyEvents(c.a), b: roomyEvents(c.b)}
		x2 := impl.Instance{Marks: withRoom(x.Marks, -5), Values: withRoom(x.Values, -5), Clock: x.Clock, Timers: withRoom(x.Timers, roomTimer)}
		e2 := roomyEvents([]impl.Event{e})
		first := askJournal(c2, x2, e2[0])
		want := first.copied()
		first.spoil()
		wantRoomy(t, c2.p, c.p)
		if !sameRoom(c2.v, c.v, -5) || !sameEvents(c2.a, c.a) || !sameEvents(c2.b, c.b) {
			t.Fatalf("%v: %v has become %v", c.p, c, c2)
		}
		if !sameRoom(x2.Marks, x.Marks, -5) || !sameRoom(x2.Values, x.Values, -5) || !sameRoom(x2.Timers, x.Timers, roomTimer) || !sameEvents(e2, []impl.Event{e}) {
			t.Fatalf("%v: %v and %v have become %v and %v", c.p, x, e, x2, e2)
		}
		if !sameAnswers(askJournal(c2, x2, e2[0]), want) {
			t.Fatalf("the second results for %v differ", c)
		}
	}
}

func TestInstancesOfJournalsShareNoMemory(t *testing.T) {
	r := newRandom(25)
	for _, c := range journalCases() {
		v, x := slices.Clone(c.v), someInstance(r, c.p)
		e := someEvent(r, c.p, x)
		c.v = v
		first, second := askJournal(c, x, e), askJournal(c, x, e)
		wantApart(t, c.p, slices.Concat([][]int{v, x.Marks, x.Values}, first.lists, second.lists))
		wantTimersApart(t, c.p, slices.Concat([][]impl.Timer{x.Timers}, first.timers, second.timers))
	}
}

func TestEmptyAndNilJournalsAreTheSame(t *testing.T) {
	r := newRandom(26)
	none := impl.Process{Nodes: []impl.Node{}, Flows: []impl.Flow{}}
	noInstance := impl.Instance{Marks: []int{}, Values: []int{}, Timers: []impl.Timer{}}
	if !sameAnswers(askJournal(journalCase{}, impl.Instance{}, impl.Event{}), askJournal(journalCase{p: none, v: []int{}, a: []impl.Event{}, b: []impl.Event{}}, noInstance, impl.Event{Sets: []impl.Set{}})) {
		t.Error("empty journals of nothing are not as none")
	}
	// emptied returns a journal in which lists without values are empty ones.
	emptied := func(list []impl.Event) []impl.Event {
		events := journal(list...)
		for i, e := range events {
			if len(e.Sets) == 0 {
				events[i].Sets = []impl.Set{}
			}
		}
		return events
	}
	for _, c := range journalCases() {
		x := someInstance(r, c.p)
		y := copyInstance(x)
		if len(x.Timers) == 0 {
			x.Timers, y.Timers = nil, []impl.Timer{}
		}
		e := someEvent(r, c.p, x)
		if r.IntN(3) == 0 {
			c.b = nil
		}
		other := journalCase{p: c.p, v: c.v, a: emptied(c.a), b: emptied(c.b)}
		if len(c.b) == 0 {
			other.b = []impl.Event{}
		}
		if !sameAnswers(askJournal(c, x, e), askJournal(other, y, emptied([]impl.Event{e})[0])) {
			t.Fatalf("empty lists of %v are not as none", c)
		}
	}
}

// TestJournalFunctionsReturnForEveryArgument fails by a panic, or by its time, if they do not.
func TestJournalFunctionsReturnForEveryArgument(t *testing.T) {
	t.Parallel()
	r := newRandom(27)
	anyJournal := func() []impl.Event {
		var list []impl.Event
		for range r.IntN(15) {
			list = append(list, anyEvent(r))
		}
		return list
	}
	bad := slices.Concat(badProcesses(), []impl.Process{lostCircle(), line()})
	for _, c := range journalCases() {
		x := someInstance(r, c.p)
		switch r.IntN(6) { // so that the other parts are valid
		case 0:
			c.p = bad[r.IntN(len(bad))]
		case 1:
			c.v = anyNumbers(r, impl.Variables)
		case 2:
			c.a = anyJournal()
		case 3:
			c.a, c.b = followed(c.a, anyJournal()...), followed(c.a, anyJournal()...)
		case 4:
			x = anyInstance(r, c.p)
		case 5:
			c = journalCase{p: c.p, v: anyNumbers(r, impl.Variables), a: anyJournal(), b: anyJournal()}
		}
		e := anyEvent(r)
		if got, want := askJournal(c, x, e), wantedJournal(c, x, e); !sameAnswers(got, want) {
			t.Fatalf("%v with %v and %v: %v, want %v", c, x, e, got, want)
		}
	}
}

// TestJournalsAtTheSameTime fails if a call about journals or letters keeps something for the next one, or for one beside it.
func TestJournalsAtTheSameTime(t *testing.T) {
	r := newRandom(28)
	list, offices := journalCases()[:500], posts()[:500]
	instances, events, mail := make([]impl.Instance, len(list)), make([]impl.Event, len(list)), make([]postQuestion, len(list))
	want, wantMail := make([]answers, len(list)), make([]postAnswers, len(list))
	for i, c := range list {
		instances[i] = randomInstance(r, c.p)
		events[i], mail[i] = someEvent(r, c.p, instances[i]), randomPostQuestion(r)
		want[i], wantMail[i] = askJournal(c, instances[i], events[i]), askPost(offices[i], mail[i])
	}
	var group sync.WaitGroup
	for k := range 8 {
		group.Go(func() {
			for i := range list {
				j := (i*7 + k*31) % len(list)
				if !sameAnswers(askJournal(list[j], instances[j], events[j]), want[j]) || !samePostAnswers(askPost(offices[j], mail[j]), wantMail[j]) {
					t.Errorf("results for %v or %v differ", list[j], offices[j])
				}
			}
		})
	}
	group.Wait()
}
