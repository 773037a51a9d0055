package tests

import (
	"loop.example/processengine/impl"
)

// What a condition and a process are, written down a second time and in another
// way: conditions are read from their last part on, and processes are tables of flows.

// readBack returns the value of the parts that end behind a part, and where they begin; false if they do not begin.
func readBack(c []impl.Part, end int, v []int) (value int, begin int, ok bool) {
	if end == 0 {
		return 0, 0, false
	}
	p := c[end-1]
	switch p.Kind {
	case 0:
		return p.Value, end - 1, p.Value >= -9999 && p.Value <= 9999
	case 1:
		if p.Value < 0 || p.Value > 3 {
			return 0, 0, false
		}
		return v[p.Value], end - 1, true
	}
	if p.Kind < 0 || p.Kind > 8 || p.Value != 0 {
		return 0, 0, false
	}
	second, begin, ok := readBack(c, end-1, v)
	if !ok {
		return 0, 0, false
	}
	if p.Kind == 2 {
		return bit(second == 0), begin, true
	}
	first, begin, ok := readBack(c, begin, v)
	if !ok {
		return 0, 0, false
	}
	return combine(p.Kind, first, second), begin, true
}

func combine(kind int, first int, second int) int {
	switch kind {
	case 3:
		return clip(first + second)
	case 4:
		return clip(first - second)
	case 5:
		return bit(first != 0 && second != 0)
	case 6:
		return bit(first != 0 || second != 0)
	case 7:
		return bit(first < second)
	}
	return bit(first == second)
}

func bit(b bool) int {
	if b {
		return 1
	}
	return 0
}

func clip(n int) int {
	if n > 9999 {
		return 9999
	}
	if n < -9999 {
		return -9999
	}
	return n
}

// wantedValid reports whether a condition is valid.
func wantedValid(c []impl.Part) bool {
	if len(c) > 12 {
		return false
	}
	_, begin, ok := readBack(c, len(c), make([]int, 4))
	return ok && begin == 0
}

// wantedValue returns the value of a condition.
func wantedValue(c []impl.Part, v []int) int {
	if !wantedValid(c) || len(v) != 4 {
		return 0
	}
	for _, n := range v {
		if n != clip(n) {
			return 0
		}
	}
	value, _, _ := readBack(c, len(c), v)
	return value
}

// wantedVariables returns the variables of a condition.
func wantedVariables(c []impl.Part) []int {
	var list []int
	for v := range 4 {
		for _, p := range c {
			if wantedValid(c) && p == (impl.Part{Kind: 1, Value: v}) {
				list = append(list, v)
				break
			}
		}
	}
	return list
}

// flowTable has the number of flows from each node to each other one.
type flowTable [10][10]int

func (f flowTable) outOf(node int) int {
	n := 0
	for to := range 10 {
		n += f[node][to]
	}
	return n
}

func (f flowTable) into(node int) int {
	n := 0
	for from := range 10 {
		n += f[from][node]
	}
	return n
}

// degrees returns the least and the greatest numbers of flows into and out of a node of a kind.
func degrees(kind int) (inLow, inHigh, outLow, outHigh int) {
	switch kind {
	case 0:
		return 0, 0, 1, 1
	case 1:
		return 1, 1, 0, 0
	case 5, 6:
		return 1, 1, 2, 99
	case 7, 8:
		return 2, 99, 1, 1
	}
	return 1, 1, 1, 1
}

// wantedProcess reports whether a process is valid, and its table.
func wantedProcess(p impl.Process) (flowTable, bool) {
	var f flowTable
	if len(p.Nodes) < 2 || len(p.Nodes) > 10 || len(p.Flows) > 14 {
		return f, false
	}
	for _, w := range p.Flows {
		if w.From < 0 || w.To < 0 || w.From >= len(p.Nodes) || w.To >= len(p.Nodes) {
			return f, false
		}
		if len(w.When) > 0 && (p.Nodes[w.From].Kind != 5 || !wantedValid(w.When)) {
			return f, false
		}
		f[w.From][w.To]++
	}
	starts := 0
	for i, n := range p.Nodes {
		if n.Kind < 0 || n.Kind > 8 {
			return f, false
		}
		low, high := [9]int{3: 1}[n.Kind], [9]int{3: 100, 4: 9}[n.Kind]
		inLow, inHigh, outLow, outHigh := degrees(n.Kind)
		if n.Value < low || n.Value > high || f.into(i) < inLow || f.into(i) > inHigh || f.outOf(i) < outLow || f.outOf(i) > outHigh {
			return f, false
		}
		starts += bit(n.Kind == 0)
	}
	return f, starts == 1
}

// leads returns which nodes can be reached from which by one or more flows.
func (f flowTable) leads() [10][10]bool {
	var l [10][10]bool
	for i := range 10 {
		for j := range 10 {
			l[i][j] = f[i][j] > 0
		}
	}
	for k := range 10 {
		for i := range 10 {
			for j := range 10 {
				l[i][j] = l[i][j] || l[i][k] && l[k][j]
			}
		}
	}
	return l
}

// wantedFlows returns the numbers of the flows with a node as one of their ends.
func wantedFlows(p impl.Process, node int, end func(impl.Flow) int) []int {
	var list []int
	if _, ok := wantedProcess(p); !ok {
		return nil
	}
	for i, w := range p.Flows {
		if end(w) == node {
			list = append(list, i)
		}
	}
	return list
}

// wantedReachable returns the nodes of a process that can be reached.
func wantedReachable(p impl.Process) []int {
	f, ok := wantedProcess(p)
	if !ok {
		return nil
	}
	l := f.leads()
	var list []int
	for i, n := range p.Nodes {
		found := n.Kind == 0
		for j, m := range p.Nodes {
			found = found || m.Kind == 0 && l[j][i]
		}
		if found {
			list = append(list, i)
		}
	}
	return list
}

// wantedCircle reports whether a process has a circle.
func wantedCircle(p impl.Process) bool {
	f, ok := wantedProcess(p)
	if !ok {
		return false
	}
	l := f.leads()
	for i := range p.Nodes {
		if l[i][i] {
			return true
		}
	}
	return false
}
