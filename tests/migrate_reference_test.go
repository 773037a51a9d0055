package tests

import (
	"slices"

	"loop.example/processengine/impl"
)

// The rules for migrations a second time, and in another way: each flow and each node of the second process
// looks for what comes to it, and what nobody has found is lost.

// wantedMove reports whether flows of a valid process can be mapped to those of another one.
func wantedMove(p impl.Process, q impl.Process, flows []int) bool {
	_, okP := wantedProcess(p)
	_, okQ := wantedProcess(q)
	return okP && okQ && len(flows) == len(p.Flows) && slices.Min(flows) >= -1 && slices.Max(flows) < len(q.Flows)
}

func wantedMoveMarks(p impl.Process, q impl.Process, flows []int, marks []int) ([]int, bool) {
	if !wantedMove(p, q, flows) || !wantedMarks(p, marks) {
		return nil, false
	}
	next := make([]int, len(q.Flows))
	found := 0
	for g := range next {
		for f, other := range flows {
			if other == g {
				next[g] += marks[f]
			}
		}
		found += next[g]
	}
	if slices.Max(next) > 3 || found != wantedCount(p, marks) {
		return nil, false
	}
	return next, true
}

func wantedFaithful(p impl.Process, q impl.Process, flows []int) bool {
	if !wantedMove(p, q, flows) {
		return false
	}
	for g, w := range q.Flows {
		for f, v := range p.Flows {
			a, b := p.Nodes[v.To], q.Nodes[w.To]
			if flows[f] == g && (a.Kind != b.Kind || a.Value != b.Value) {
				return false
			}
		}
	}
	return true
}

func wantedMoveInstance(p impl.Process, q impl.Process, flows []int, x impl.Instance) (impl.Instance, bool) {
	marks, ok := wantedMoveMarks(p, q, flows, x.Marks)
	if !ok || !wantedFaithful(p, q, flows) || !wantedValidInstance(p, x) {
		return impl.Instance{}, false
	}
	var times []int // with the node behind each of them
	for node := range q.Nodes {
		for _, w := range x.Timers {
			f := slices.IndexFunc(p.Flows, func(v impl.Flow) bool { return v.To == w.Node })
			if q.Flows[flows[f]].To == node {
				times = append(times, 10*w.Due+node)
			}
		}
	}
	slices.Sort(times)
	y := impl.Instance{Marks: marks, Values: x.Values, Clock: x.Clock}
	for _, n := range times {
		y.Timers = append(y.Timers, impl.Timer{Node: n % 10, Due: n / 10})
	}
	if !wantedValidInstance(q, y) {
		return impl.Instance{}, false
	}
	return y, true
}
