package tests

import (
	"slices"

	"loop.example/processengine/impl"
)

// The rules for instances and runs a second time, and in another way: tokens are those of
// the second rules for tokens, timers are looked for where they are needed, and the clock ticks.

// wantedTokensAt returns how many tokens are on the flows into a node.
func wantedTokensAt(p impl.Process, marks []int, node int) int {
	sum := 0
	for f, w := range p.Flows {
		if w.To == node {
			sum += marks[f]
		}
	}
	return sum
}

// wantedTimersAt returns how many timers a node has.
func wantedTimersAt(list []impl.Timer, node int) int {
	sum := 0
	for _, t := range list {
		sum += bit(t.Node == node)
	}
	return sum
}

// wantedValidInstance reports whether an instance is valid, for a process that may be not.
func wantedValidInstance(p impl.Process, x impl.Instance) bool {
	if !wantedMarks(p, x.Marks) || !wantedVector(x.Values) || x.Clock < 0 || x.Clock > 9999 {
		return false
	}
	for _, node := range wantedReady(p, x.Marks) {
		if k := p.Nodes[node].Kind; k < 2 || k > 4 {
			return false
		}
	}
	all := 0
	for i, n := range p.Nodes {
		if n.Kind != 3 {
			continue
		}
		many := wantedTimersAt(x.Timers, i)
		if many != wantedTokensAt(p, x.Marks, i) {
			return false
		}
		all += many
	}
	for i, t := range x.Timers {
		if t.Due <= x.Clock || t.Due > 10099 {
			return false
		}
		if i > 0 && (t.Due < x.Timers[i-1].Due || t.Due == x.Timers[i-1].Due && t.Node < x.Timers[i-1].Node) {
			return false
		}
	}
	return all == len(x.Timers)
}

// wantedRest returns tokens after at most so many steps, when nothing but tasks, timers and messages is ready.
func wantedRest(p impl.Process, marks []int, v []int, left int) ([]int, bool) {
	for _, node := range wantedReady(p, marks) {
		if k := p.Nodes[node].Kind; k >= 2 && k <= 4 {
			continue
		}
		next, ok := wantedFire(p, marks, node, v)
		if left == 0 || !ok {
			return nil, false
		}
		return wantedRest(p, next, v, left-1)
	}
	return marks, true
}

// wantedSettled returns an instance with some tokens after it is settled.
func wantedSettled(p impl.Process, x impl.Instance, marks []int) (impl.Instance, bool) {
	marks, ok := wantedRest(p, marks, x.Values, 30)
	if !ok {
		return impl.Instance{}, false
	}
	timers := slices.Clone(x.Timers)
	for i, n := range p.Nodes {
		for n.Kind == 3 && wantedTimersAt(timers, i) < wantedTokensAt(p, marks, i) {
			timers = append(timers, impl.Timer{Node: i, Due: x.Clock + n.Value})
		}
	}
	slices.SortFunc(timers, func(a impl.Timer, b impl.Timer) int { return (a.Due-b.Due)*10 + a.Node - b.Node })
	return impl.Instance{Marks: marks, Values: x.Values, Clock: x.Clock, Timers: timers}, true
}

// wantedGone returns an instance after a node has gone on and it is settled.
func wantedGone(p impl.Process, x impl.Instance, node int) (impl.Instance, bool) {
	marks, ok := wantedFire(p, x.Marks, node, x.Values)
	if !ok {
		return impl.Instance{}, false
	}
	return wantedSettled(p, x, marks)
}

func wantedStart(p impl.Process, v []int) (impl.Instance, bool) {
	if _, ok := wantedProcess(p); !ok || !wantedVector(v) {
		return impl.Instance{}, false
	}
	return wantedSettled(p, impl.Instance{Values: v}, wantedFirst(p))
}

func wantedOpen(p impl.Process, x impl.Instance) []int {
	if !wantedValidInstance(p, x) {
		return nil
	}
	var list []int
	for i, n := range p.Nodes {
		if n.Kind == 2 && wantedTokensAt(p, x.Marks, i) > 0 {
			list = append(list, i)
		}
	}
	return list
}

func wantedDone(p impl.Process, x impl.Instance) bool {
	return wantedValidInstance(p, x) && slices.Max(x.Marks) == 0
}

func wantedComplete(p impl.Process, x impl.Instance, node int, list []impl.Set) (impl.Instance, bool) {
	if !slices.Contains(wantedOpen(p, x), node) || len(list) > 4 {
		return impl.Instance{}, false
	}
	v := slices.Clone(x.Values)
	for _, s := range list {
		if s.Variable < 0 || s.Variable > 3 || s.Value != clip(s.Value) {
			return impl.Instance{}, false
		}
		v[s.Variable] = s.Value
	}
	x.Values = v
	return wantedGone(p, x, node)
}

func wantedDeliver(p impl.Process, x impl.Instance, name int) (impl.Instance, bool) {
	if !wantedValidInstance(p, x) {
		return impl.Instance{}, false
	}
	node := slices.IndexFunc(wantedReady(p, x.Marks), func(i int) bool { return p.Nodes[i] == impl.Node{Kind: 4, Value: name} })
	if node < 0 {
		return impl.Instance{}, false
	}
	return wantedGone(p, x, wantedReady(p, x.Marks)[node])
}

// wantedAdvance returns an instance after its clock has ticked up to a time. At each tick timers are due, the smallest node first.
func wantedAdvance(p impl.Process, x impl.Instance, to int) (impl.Instance, bool) {
	if !wantedValidInstance(p, x) || to < x.Clock || to > 9999 {
		return impl.Instance{}, false
	}
	rung := 0
	for ; ; x.Clock++ {
		for node := 0; node < len(p.Nodes); {
			i := slices.Index(x.Timers, impl.Timer{Node: node, Due: x.Clock})
			if i < 0 {
				node++
				continue
			}
			x.Timers = slices.Delete(slices.Clone(x.Timers), i, i+1)
			next, ok := wantedGone(p, x, node)
			if !ok || rung == 30 {
				return impl.Instance{}, false
			}
			x = next
			rung++
		}
		if x.Clock == to {
			return x, true
		}
	}
}

func wantedNextDue(p impl.Process, x impl.Instance) int {
	if len(x.Timers) == 0 || !wantedValidInstance(p, x) {
		return -1
	}
	due := x.Timers[0].Due
	for _, t := range x.Timers {
		due = min(due, t.Due)
	}
	return due
}

// sameInstance reports whether two instances are the same, where a nil slice is an empty one.
func sameInstance(a impl.Instance, b impl.Instance) bool {
	return slices.Equal(a.Marks, b.Marks) && slices.Equal(a.Values, b.Values) && a.Clock == b.Clock && slices.Equal(a.Timers, b.Timers)
}
