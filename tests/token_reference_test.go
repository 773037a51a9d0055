package tests

import (
	"slices"

	"loop.example/processengine/impl"
)

// The rules for tokens a second time, and in another way: each rule looks at the
// flows alone, and tokens that are found are compared with all that were there before.

// wantedMarks reports whether tokens are those of a valid process.
func wantedMarks(p impl.Process, marks []int) bool {
	if _, ok := wantedProcess(p); !ok || len(marks) != len(p.Flows) {
		return false
	}
	return !slices.ContainsFunc(marks, func(n int) bool { return n < 0 || n > 3 })
}

// wantedVector reports whether there is an allowed value for each variable.
func wantedVector(v []int) bool {
	return len(v) == 4 && !slices.ContainsFunc(v, func(n int) bool { return n != clip(n) })
}

// wantedFirst returns the tokens with which a process begins.
func wantedFirst(p impl.Process) []int {
	if _, ok := wantedProcess(p); !ok {
		return nil
	}
	var marks []int
	for _, w := range p.Flows {
		marks = append(marks, bit(p.Nodes[w.From].Kind == 0))
	}
	return marks
}

// wantedReady returns the nodes that can take valid tokens: a flow without a token keeps a join back.
func wantedReady(p impl.Process, marks []int) []int {
	if !wantedMarks(p, marks) {
		return nil
	}
	some, none := map[int]bool{}, map[int]bool{}
	for f, w := range p.Flows {
		if marks[f] > 0 {
			some[w.To] = true
		} else {
			none[w.To] = true
		}
	}
	var list []int
	for i, n := range p.Nodes {
		if some[i] && !(n.Kind == 8 && none[i]) {
			list = append(list, i)
		}
	}
	return list
}

// wantedChoice returns the flow of a choice, where each flow, from the last one on, takes the place of a worse one.
func wantedChoice(p impl.Process, node int, v []int) int {
	if _, ok := wantedProcess(p); !ok || !wantedVector(v) || node < 0 || node >= len(p.Nodes) || p.Nodes[node].Kind != 5 {
		return -1
	}
	best, holds := -1, false
	for f := len(p.Flows) - 1; f >= 0; f-- {
		w := p.Flows[f]
		if w.From != node {
			continue
		}
		if len(w.When) > 0 && wantedValue(w.When, v) != 0 {
			best, holds = f, true
		} else if len(w.When) == 0 && !holds {
			best = f
		}
	}
	return best
}

// wantedStep returns tokens after a ready node has put one on each of the flows out of it that are told, for all flows at once.
func wantedStep(p impl.Process, marks []int, node int, told func(flow int) bool) []int {
	next := slices.Clone(marks)
	taken := false
	for f, w := range p.Flows {
		if w.To == node && marks[f] > 0 && (!taken || p.Nodes[node].Kind == 8) {
			next[f]--
			taken = true
		}
		if w.From == node && told(f) {
			next[f]++
		}
	}
	return next
}

// wantedFire returns tokens after a node has gone on, and whether it can.
func wantedFire(p impl.Process, marks []int, node int, v []int) ([]int, bool) {
	if !wantedVector(v) || !slices.Contains(wantedReady(p, marks), node) {
		return nil, false
	}
	flow := wantedChoice(p, node, v)
	choice := p.Nodes[node].Kind == 5
	next := wantedStep(p, marks, node, func(f int) bool { return !choice || f == flow })
	if choice && flow < 0 || slices.Max(next) > 3 {
		return nil, false
	}
	return next, true
}

// wantedCount returns the number of all tokens.
func wantedCount(p impl.Process, marks []int) int {
	if !wantedMarks(p, marks) {
		return -1
	}
	sum := 0
	for _, n := range marks {
		sum += n
	}
	return sum
}

// wantedAll returns all tokens of a process and, for each of them, the numbers of what follows.
func wantedAll(p impl.Process) (all [][]int, next [][]int, ok bool) {
	first := wantedFirst(p)
	if first == nil {
		return nil, nil, false
	}
	all = append(all, first)
	for i := 0; i < len(all); i++ {
		next = append(next, nil)
		for _, m := range wantedNext(p, all[i]) {
			j := slices.IndexFunc(all, func(x []int) bool { return slices.Equal(x, m) })
			if j < 0 {
				j = len(all)
				all = append(all, m)
			}
			if slices.Max(m) > 1 || len(all) > 40 {
				return nil, nil, false
			}
			next[i] = append(next[i], j)
		}
	}
	return all, next, true
}

// wantedNext returns what can follow tokens, whatever the values are.
func wantedNext(p impl.Process, marks []int) [][]int {
	var list [][]int
	for _, node := range wantedReady(p, marks) {
		if p.Nodes[node].Kind != 5 {
			list = append(list, wantedStep(p, marks, node, func(int) bool { return true }))
			continue
		}
		for f, w := range p.Flows {
			if w.From == node {
				list = append(list, wantedStep(p, marks, node, func(g int) bool { return g == f }))
			}
		}
	}
	return list
}

// wantedSound reports whether a process can always end: tokens are good if they are none, or something good follows.
func wantedSound(p impl.Process) bool {
	all, next, ok := wantedAll(p)
	if !ok {
		return false
	}
	good := make([]bool, len(all))
	for range all {
		for i, m := range all {
			good[i] = good[i] || slices.Max(m) == 0 || slices.ContainsFunc(next[i], func(j int) bool { return good[j] })
		}
	}
	return !slices.Contains(good, false)
}

// wantedStuck returns tokens of a process which nothing follows.
func wantedStuck(p impl.Process) [][]int {
	all, next, _ := wantedAll(p)
	var list [][]int
	for i, m := range all {
		if slices.Max(m) > 0 && len(next[i]) == 0 {
			list = append(list, m)
		}
	}
	return list
}

// wantedNever returns nodes of a process that are never ready.
func wantedNever(p impl.Process) []int {
	all, _, ok := wantedAll(p)
	var list []int
	for i, n := range p.Nodes {
		never := ok && n.Kind != 0
		for _, m := range all {
			never = never && !slices.Contains(wantedReady(p, m), i)
		}
		if never {
			list = append(list, i)
		}
	}
	return list
}
