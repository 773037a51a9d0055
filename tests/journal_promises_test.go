package tests

import (
	"math/rand/v2"
	"slices"
	"testing"

	"loop.example/processengine/impl"
)

// command returns an instance after what an event stands for.
func command(p impl.Process, x impl.Instance, e impl.Event) (impl.Instance, bool) {
	switch e.Kind {
	case impl.EventComplete:
		return impl.CompleteTask(p, x, e.Value, e.Sets)
	case impl.EventMessage:
		return impl.DeliverMessage(p, x, e.Value)
	}
	return impl.AdvanceClock(p, x, e.Value)
}

func TestPromise44EventsAreCommands(t *testing.T) {
	var done [4]int
	withInstances(t, func(r *rand.Rand, p impl.Process, x impl.Instance) {
		for kind := impl.EventComplete; kind <= impl.EventClock; kind++ {
			q := randomQuestion(r, p, x)
			e := impl.Event{Kind: kind}
			if kind == impl.EventComplete {
				e.Sets = q.sets
			}
			for _, value := range []int{q.node, q.name, q.to, r.IntN(11) - 1} {
				e.Value = value
				y, ok := impl.ApplyEvent(p, x, e)
				want, wantOk := command(p, x, e)
				if ok != wantOk || !sameInstance(y, want) {
					t.Fatalf("%v: %v makes %v, %v of %v, and its command %v, %v", p, e, y, ok, x, want, wantOk)
				}
				done[kind] += bit(ok && !sameInstance(x, y))
			}
		}
	})
	if min(done[1], done[2], done[3]) < 1000 {
		t.Errorf("%v events of each kind test too little", done[1:])
	}
}

func TestPromise45EventsLeadToPossibleTokens(t *testing.T) {
	changes := 0
	withJournals(t, func(r *rand.Rand, c journalCase, start impl.Instance) {
		all, ok := impl.AllMarks(c.p)
		if !ok {
			return
		}
		for _, x := range slices.Concat([]impl.Instance{start}, instancesWith(r, c.p, all)) {
			for _, e := range slices.Concat(c.a, []impl.Event{someEvent(r, c.p, x), someEvent(r, c.p, x)}) {
				y, ok := impl.ApplyEvent(c.p, x, e)
				if !ok {
					continue
				}
				if !hasMarks(all, y.Marks) {
					t.Fatalf("%v: %v makes %v of %v, but there are only %v", c.p, e, y, x, all)
				}
				changes += bit(!slices.Equal(x.Marks, y.Marks))
				x = y
			}
		}
	})
	if changes < 2000 {
		t.Errorf("%d events with other tokens test too little", changes)
	}
}

// instancesWith returns a valid instance for each of some tokens for which there is one.
func instancesWith(r *rand.Rand, p impl.Process, all [][]int) []impl.Instance {
	var list []impl.Instance
	for _, marks := range all {
		x := impl.Instance{Marks: marks, Values: smallValues(r)}
		for f, w := range p.Flows {
			if p.Nodes[w.To].Kind == impl.NodeTimer && marks[f] == 1 {
				x.Timers = append(x.Timers, impl.Timer{Node: w.To, Due: 1 + r.IntN(9)})
			}
		}
		sortTimers(x.Timers)
		if impl.ValidInstance(p, x) {
			list = append(list, x)
		}
	}
	return list
}

func TestPromise46JournalsAreReplayed(t *testing.T) {
	whole, part := 0, 0
	withJournals(t, func(r *rand.Rand, c journalCase, x impl.Instance) {
		many := 0
		for _, e := range c.a {
			y, ok := impl.ApplyEvent(c.p, x, e)
			if !ok {
				break
			}
			x = y
			many++
		}
		if y, n := impl.ReplayEvents(c.p, c.v, c.a); n != many || !sameInstance(y, x) {
			t.Fatalf("%v: ReplayEvents with %v, %v = %v, %d, but one after the other %v, %d", c.p, c.v, c.a, y, n, x, many)
		}
		whole += bit(many == len(c.a) && many > 1)
		part += bit(many < len(c.a) && many > 0)
	})
	if whole < 1000 || part < 300 {
		t.Errorf("%d journals, and %d with an event that fails, test too little", whole, part)
	}
}

func TestPromise47JournalsHaveBeginnings(t *testing.T) {
	shorter := 0
	withJournals(t, func(r *rand.Rand, c journalCase, start impl.Instance) {
		x, n := impl.ReplayEvents(c.p, c.v, c.a)
		if n < 0 || n > len(c.a) {
			t.Fatalf("%v: ReplayEvents with %v, %v = %v, %d", c.p, c.v, c.a, x, n)
		}
		for i, e := range c.a[:n] { // they succeed
			var ok bool
			if start, ok = impl.ApplyEvent(c.p, start, e); !ok {
				t.Fatalf("%v: ReplayEvents with %v, %v = %v, %d, but the event %d fails", c.p, c.v, c.a, x, n, i)
			}
		}
		y, m := impl.ReplayEvents(c.p, c.v, c.a[:n])
		if m != n || !sameInstance(x, y) {
			t.Fatalf("%v: ReplayEvents with %v, %v = %v, %d, but its beginning leads to %v, %d", c.p, c.v, c.a, x, n, y, m)
		}
		shorter += bit(n < len(c.a))
	})
	if shorter < 500 {
		t.Errorf("%d journals with an event that fails test too little", shorter)
	}
}

func TestPromise48EqualJournalsDoNotSplit(t *testing.T) {
	split, failing := 0, 0
	withJournals(t, func(r *rand.Rand, c journalCase, start impl.Instance) {
		for _, list := range [][]impl.Event{c.a, c.b} {
			if n := impl.FirstSplit(c.p, c.v, list, journal(list...)); n != 0 {
				t.Fatalf("%v: with %v, %v and itself split at %d", c.p, c.v, list, n)
			}
			_, n := impl.ReplayEvents(c.p, c.v, list)
			failing += bit(n < len(list))
		}
		n, m := impl.FirstSplit(c.p, c.v, c.a, c.b), impl.FirstSplit(c.p, c.v, c.b, c.a)
		if n != m {
			t.Fatalf("%v: with %v, %v and %v split at %d, the other way round at %d", c.p, c.v, c.a, c.b, n, m)
		}
		split += bit(n > 0)
	})
	if split < 1000 || failing < 500 {
		t.Errorf("%d journals that split, and %d that fail, test too little", split, failing)
	}
}

func TestPromise49BeforeTheSplitInstancesAreEqual(t *testing.T) {
	later := 0
	withJournals(t, func(r *rand.Rand, c journalCase, start impl.Instance) {
		n := impl.FirstSplit(c.p, c.v, c.a, c.b)
		if n <= 0 {
			return
		}
		if n > max(len(c.a), len(c.b)) || n-1 > min(len(c.a), len(c.b)) {
			t.Fatalf("%v: with %v, %v and %v split at %d", c.p, c.v, c.a, c.b, n)
		}
		x, i := impl.ReplayEvents(c.p, c.v, c.a[:n-1])
		y, j := impl.ReplayEvents(c.p, c.v, c.b[:n-1])
		if i != n-1 || j != n-1 || !sameInstance(x, y) {
			t.Fatalf("%v: with %v, %v and %v split at %d, but before they lead to %v, %d and %v, %d", c.p, c.v, c.a, c.b, n, x, i, y, j)
		}
		later += bit(n > 1)
	})
	if later < 500 {
		t.Errorf("%d journals that split behind their first event test too little", later)
	}
}

func TestPromise137OnlyThreeKindsOfEventsAreKnown(t *testing.T) {
	withInstances(t, func(r *rand.Rand, p impl.Process, x impl.Instance) {
		set := impl.Set{Variable: r.IntN(impl.Variables), Value: r.IntN(3) - 1}
		e := someEvent(r, p, x)
		for _, kind := range []int{0, 4, -1, extremes[r.IntN(len(extremes))]} {
			if kind < impl.EventComplete || kind > impl.EventClock {
				y, ok := impl.ApplyEvent(p, x, impl.Event{Kind: kind, Value: e.Value, Sets: e.Sets})
				wantFailed(t, "an event of another kind", y, ok)
			}
		}
		for name := 0; name <= impl.MaxName; name++ {
			y, ok := impl.ApplyEvent(p, x, impl.Event{Kind: impl.EventMessage, Value: name, Sets: []impl.Set{set}})
			wantFailed(t, "a message with values", y, ok)
		}
		y, ok := impl.ApplyEvent(p, x, impl.Event{Kind: impl.EventClock, Value: x.Clock, Sets: []impl.Set{set}})
		wantFailed(t, "a time with values", y, ok)
	})
}

func TestPromise138JournalsBeginWithTheStart(t *testing.T) {
	begun, failed := 0, 0
	for _, c := range slices.Concat(journalCases(), badStarts()) {
		want, ok := impl.StartInstance(c.p, c.v)
		for _, list := range [][]impl.Event{nil, {}} {
			x, n := impl.ReplayEvents(c.p, c.v, list)
			if n != bit(ok)-1 || !sameInstance(x, want) {
				t.Fatalf("%v: with %v no events lead to %v, %d, and it begins as %v, %v", c.p, c.v, x, n, want, ok)
			}
		}
		begun += bit(ok)
		failed += bit(!ok)
	}
	if begun < 2000 || failed < 50 {
		t.Errorf("%d processes that begin, and %d that do not, test too little", begun, failed)
	}
}

func TestPromise139AMissingEventIsASplit(t *testing.T) {
	whole, longest := 0, 0
	withJournals(t, func(r *rand.Rand, c journalCase, start impl.Instance) {
		_, many := impl.ReplayEvents(c.p, c.v, c.a)
		for n := 1; n <= many; n++ {
			if got := impl.FirstSplit(c.p, c.v, c.a[:n], c.a[:n-1]); got != n {
				t.Fatalf("%v: with %v, %v and it without its last event split at %d", c.p, c.v, c.a[:n], got)
			}
			whole++
		}
		longest += bit(many == impl.MaxEvents)
	})
	if whole < 5000 || longest < 300 {
		t.Errorf("%d journals, and %d of the greatest length, test too little", whole, longest)
	}
}
