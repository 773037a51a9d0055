package tests

import (
	"slices"

	"loop.example/processengine/impl"
)

// The rules for paths a second time, and in another way: all ways of flows are walked, one by one,
// and the slack of a node is what the longest way through it leaves of the whole time.

// wantedPath reports whether a process and its times are valid, and it has no circle.
func wantedPath(p impl.Process, times []int) bool {
	_, ok := wantedProcess(p)
	return ok && !wantedCircle(p) && len(times) == len(p.Nodes) && slices.Min(times) >= 0 && slices.Max(times) <= 500
}

// longestTo returns the longest time that passes on a way before a node.
func longestTo(p impl.Process, times []int, node int) int {
	longest := 0
	for _, w := range p.Flows {
		if w.To == node {
			longest = max(longest, longestTo(p, times, w.From)+times[w.From])
		}
	}
	return longest
}

// longestFrom returns the longest time that passes on a way from the begin of a node on.
func longestFrom(p impl.Process, times []int, node int) int {
	longest := 0
	for _, w := range p.Flows {
		if w.From == node {
			longest = max(longest, longestFrom(p, times, w.To))
		}
	}
	return times[node] + longest
}

func wantedEarliest(p impl.Process, times []int) []int {
	if !wantedPath(p, times) {
		return nil
	}
	var begins []int
	for i := range p.Nodes {
		begins = append(begins, longestTo(p, times, i))
	}
	return begins
}

func wantedTotal(p impl.Process, times []int) int {
	if !wantedPath(p, times) {
		return -1
	}
	start := slices.IndexFunc(p.Nodes, func(n impl.Node) bool { return n.Kind == 0 })
	return longestFrom(p, times, start)
}

func wantedSlack(p impl.Process, times []int) []int {
	if !wantedPath(p, times) {
		return nil
	}
	var slack []int
	for i := range p.Nodes {
		slack = append(slack, wantedTotal(p, times)-longestTo(p, times, i)-longestFrom(p, times, i))
	}
	return slack
}

func wantedCritical(p impl.Process, times []int) []int {
	var list []int
	for i, n := range wantedSlack(p, times) {
		if n == 0 {
			list = append(list, i)
		}
	}
	return list
}
