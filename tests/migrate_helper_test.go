package tests

import (
	"math"
	"math/rand/v2"
	"slices"
	"sync"
	"testing"

	"loop.example/processengine/impl"
)

// move is a process whose flows are mapped to those of another one.
type move struct {
	p     impl.Process
	q     impl.Process
	flows []int
}

// endOfFlow returns the node to which a flow of a process leads.
func endOfFlow(p impl.Process, flow int) impl.Node { return p.Nodes[p.Flows[flow].To] }

// eachItself returns the map of the flows of a process to themselves.
func eachItself(p impl.Process) []int {
	var flows []int
	for f := range p.Flows {
		flows = append(flows, f)
	}
	return flows
}

// toNone returns the map of the flows of a process to none.
func toNone(p impl.Process) []int { return slices.Repeat([]int{-1}, len(p.Flows)) }

// toItself returns the move of a process to itself.
func toItself(p impl.Process) move { return move{p, p, eachItself(p)} }

// rearranged returns the move of a process to one with its nodes and flows in another order.
func rearranged(r *rand.Rand, p impl.Process) move {
	q := copyProcess(p)
	nodes, flows := r.Perm(len(p.Nodes)), r.Perm(len(p.Flows))
	for i, n := range p.Nodes {
		q.Nodes[nodes[i]] = n
	}
	for i, f := range p.Flows {
		q.Flows[flows[i]] = impl.Flow{From: nodes[f.From], To: nodes[f.To], When: slices.Clone(f.When)}
	}
	return move{p, q, flows}
}

// grownMove returns the move of a process to one with a block more; it is the process itself if there is no room.
func grownMove(r *rand.Rand, p impl.Process) move {
	q := withBlock(r, p)
	if len(q.Nodes) > impl.MaxNodes || len(q.Flows) > impl.MaxFlows {
		return toItself(p)
	}
	flows := eachItself(p)
	for f := range flows {
		if q.Flows[f].To != p.Flows[f].To { // the last flow of the block leads to where it led
			flows[f] = len(q.Flows) - 1
		}
	}
	return move{p, q, flows}
}

// behindEachOther returns a move, and then one of its second process.
func behindEachOther(a move, b move) move {
	flows := slices.Clone(a.flows)
	for f, other := range flows {
		if other >= 0 {
			flows[f] = b.flows[other]
		}
	}
	return move{a.p, b.q, flows}
}

// sameEnds returns the flows of a process that lead to such a node.
func sameEnds(q impl.Process, n impl.Node) []int {
	var list []int
	for f := range q.Flows {
		if endOfFlow(q, f) == n {
			list = append(list, f)
		}
	}
	return list
}

// toOther returns a move of a process to any other one, in which flows lead to the same nodes, if there are some.
func toOther(r *rand.Rand, p impl.Process, q impl.Process) move {
	flows := toNone(p)
	for f := range flows {
		if same := sameEnds(q, endOfFlow(p, f)); len(same) > 0 {
			flows[f] = same[r.IntN(len(same))]
		}
	}
	return move{p, q, flows}
}

// faithfulMove returns a move of a process whose map keeps kinds and values: to itself, to one that is rearranged,
// to one that has grown or to another one. Often several flows are mapped to one, or some to none.
func faithfulMove(r *rand.Rand, p impl.Process, other impl.Process) move {
	var m move
	switch r.IntN(5) {
	case 0:
		m = toItself(p)
	case 1:
		m = rearranged(r, p)
	case 2, 3:
		m = grownMove(r, p)
		m = behindEachOther(m, grownMove(r, m.q))
		m = behindEachOther(m, rearranged(r, m.q))
	case 4:
		m = toOther(r, p, other)
	}
	if r.IntN(3) == 0 {
		for f := range m.flows {
			if same := sameEnds(m.q, endOfFlow(p, f)); len(same) > 0 && r.IntN(2) == 0 {
				m.flows[f] = same[r.IntN(len(same))]
			}
		}
	}
	return m
}

// withLastTask returns a process of atOnce with a task between its join and its end.
func withLastTask(p impl.Process) impl.Process {
	q := copyProcess(p)
	end := len(q.Nodes) - 1
	q.Nodes = append(q.Nodes, q.Nodes[end])
	q.Nodes[end] = task()
	q.Flows = append(q.Flows, impl.Flow{From: end, To: end + 1})
	return q
}

// toFewerWays returns a faithful move of a process with several nodes at once to one with fewer of them,
// so that tokens which wait at the join of the first one are often enough for that of the second one.
func toFewerWays(r *rand.Rand) move {
	var nodes []impl.Node
	for range 3 + r.IntN(3) {
		nodes = append(nodes, []impl.Node{task(), timer(5), message(3)}[r.IntN(3)])
	}
	p := atOnce(nodes...)
	q := atOnce(nodes[:2+r.IntN(len(nodes)-2)]...)
	if r.IntN(2) == 0 {
		p, q = withLastTask(p), withLastTask(q)
	}
	return toOther(r, p, q)
}

// waitsAtJoin returns an instance of a process with tokens on some of the flows into its join alone.
func waitsAtJoin(r *rand.Rand, p impl.Process) impl.Instance {
	join := slices.IndexFunc(p.Nodes, func(n impl.Node) bool { return n.Kind == impl.NodeJoin })
	marks := make([]int, len(p.Flows))
	ways := impl.FlowsIn(p, join)
	for _, f := range ways {
		marks[f] = r.IntN(2)
	}
	marks[ways[r.IntN(len(ways))]] = 0
	return impl.Instance{Marks: marks, Values: smallValues(r), Clock: r.IntN(impl.MaxClock + 1)}
}

// withoutSome returns a move in which flows are mapped to none, most of them without tokens.
func withoutSome(r *rand.Rand, m move, marks []int) move {
	flows := slices.Clone(m.flows)
	for f := range flows {
		if r.IntN(3) == 0 && (marks[f] == 0 || r.IntN(12) == 0) {
			flows[f] = -1
		}
	}
	return move{m.p, m.q, flows}
}

// anywhere returns a move in which some flows are mapped to any others.
func anywhere(r *rand.Rand, m move) move {
	flows := slices.Clone(m.flows)
	for f := range flows {
		if r.IntN(4) == 0 {
			flows[f] = r.IntN(len(m.q.Flows)+1) - 1
		}
	}
	return move{m.p, m.q, flows}
}

// moveCase is a move with tokens and an instance of its first process, all of them valid.
type moveCase struct {
	move
	marks []int
	x     impl.Instance
}

// moveCases returns many moves. Nobody may change them.
var moveCases = sync.OnceValue(func() []moveCase {
	r := newRandom(70)
	list := runCases()
	var cases []moveCase
	for i, c := range list {
		if i%3 != 0 {
			continue
		}
		m := faithfulMove(r, c.p, list[r.IntN(len(list))].p)
		marks := randomMarks(r, c.p)
		if r.IntN(3) == 0 { // few tokens, so that there is room and flows are free
			marks = make([]int, len(c.p.Flows))
			marks[r.IntN(len(marks))] = r.IntN(impl.MaxTokens + 1)
		}
		switch r.IntN(6) {
		case 0:
			m = withoutSome(r, m, c.x.Marks)
		case 1:
			m = withoutSome(r, m, marks)
		case 2, 3:
			m = anywhere(r, m)
		}
		cases = append(cases, moveCase{m, marks, c.x})
	}
	for range 1500 {
		m := toFewerWays(r)
		x := randomInstance(r, m.p)
		if r.IntN(2) == 0 {
			x = waitsAtJoin(r, m.p)
		}
		cases = append(cases, moveCase{m, randomMarks(r, m.p), x})
	}
	return cases
})

// canMove reports whether there is a flow and room for all tokens.
func canMove(m move, marks []int) bool {
	full := make([]int, len(m.q.Flows))
	for f, many := range marks {
		if m.flows[f] < 0 && many > 0 {
			return false
		}
		if m.flows[f] >= 0 {
			full[m.flows[f]] += many
		}
	}
	return slices.Max(full) <= impl.MaxTokens
}

// withMovedMarks calls a function with many moves and their tokens before and behind.
func withMovedMarks(t *testing.T, f func(r *rand.Rand, m move, marks []int, next []int)) {
	t.Helper()
	r := newRandom(71)
	moved, not := 0, 0
	for _, c := range moveCases() {
		for _, marks := range [][]int{c.marks, c.x.Marks, make([]int, len(c.marks))} {
			next, ok := impl.MoveMarks(c.p, c.q, c.flows, marks)
			if ok != canMove(c.move, marks) || !ok && next != nil || ok && len(next) != len(c.q.Flows) {
				t.Fatalf("MoveMarks(%v, %v) = %v, %v", c.move, marks, next, ok)
			}
			not += bit(!ok)
			if ok {
				f(r, c.move, marks, next)
				moved += bit(sumOf(marks) > 0)
			}
		}
	}
	if min(moved, not) < 1500 {
		t.Errorf("%d times tokens that are moved, and %d times not, test too little", moved, not)
	}
	wantBadMovesFail(t, movesMarks)
	wantBadTokensStay(t)
}

// withMoved calls a function with many moves and their instances before and behind.
func withMoved(t *testing.T, f func(r *rand.Rand, m move, x impl.Instance, y impl.Instance)) {
	t.Helper()
	r := newRandom(72)
	moved, timers, not := 0, 0, 0
	for _, c := range moveCases() {
		y, ok := impl.MoveInstance(c.p, c.q, c.flows, c.x)
		if !ok {
			wantFailed(t, "MoveInstance", y, ok)
			not++
			continue
		}
		f(r, c.move, c.x, y)
		moved += bit(sumOf(c.x.Marks) > 0)
		timers += bit(len(c.x.Timers) > 0)
	}
	if min(moved, timers, not) < 500 {
		t.Errorf("%d instances with tokens that are moved, %d with timers, and %d that are not, test too little", moved, timers, not)
	}
	wantBadMovesFail(t, movesInstances)
	for _, x := range badInstances() {
		p := atOnce(task(), timer(5))
		wantInstanceStays(t, "an instance that is not valid", toItself(p), x)
	}
}

// movesMarks reports whether tokens of a move, or none, become others.
func movesMarks(m move, marks []int) bool {
	for _, list := range [][]int{marks, make([]int, len(marks)), make([]int, len(m.flows)), make([]int, len(m.p.Flows)), nil} {
		if next, ok := impl.MoveMarks(m.p, m.q, m.flows, list); ok || next != nil {
			return true
		}
	}
	return false
}

// movesInstances reports whether an instance of a move with some tokens becomes another one.
func movesInstances(m move, marks []int) bool {
	for _, list := range [][]int{marks, make([]int, len(marks)), make([]int, len(m.flows)), make([]int, len(m.p.Flows)), nil} {
		x := impl.Instance{Marks: list, Values: zeros}
		if y, ok := impl.MoveInstance(m.p, m.q, m.flows, x); ok || y.Marks != nil || y.Values != nil || y.Clock != 0 || y.Timers != nil {
			return true
		}
	}
	return false
}

// areFaithful reports whether a move is faithful, whatever its tokens are.
func areFaithful(m move, _ []int) bool { return impl.IsFaithful(m.p, m.q, m.flows) }

// badMoves returns moves that are not valid, each for one reason alone.
func badMoves() []move {
	good := lineOf(task(), task())
	bad := []move{{good, good, nil}, {good, good, []int{}}, {good, good, []int{0, 1}}, {good, good, []int{0, 1, 2, 0}}, {good, good, []int{0, 1, 2, -1}}, {good, good, slices.Repeat([]int{-1}, 1000)}}
	for _, p := range badProcesses() {
		bad = append(bad, move{p, good, toNone(p)}, move{p, good, make([]int, len(p.Flows))}, move{p, p, eachItself(p)})
		bad = append(bad, move{good, p, toNone(good)})
		if len(p.Flows) > 2 {
			bad = append(bad, move{good, p, []int{0, 1, 2}})
		}
	}
	bad = append(bad, move{good, impl.Process{}, toNone(good)}, move{impl.Process{}, good, nil}, move{})
	longer := lineOf(task(), task(), task())
	for i := range 3 {
		for _, n := range []int{math.MinInt, -3, -2, 3, 4, math.MaxInt} {
			bad = append(bad, move{good, good, changed([]int{0, 1, 2}, i, n)}, move{good, good, changed([]int{-1, -1, -1}, i, n)})
		}
		bad = append(bad, move{longer, good, changed([]int{0, 1, 1, 2}, i, 3)}) // a flow of the first process alone
	}
	return bad
}

// wantBadMovesFail fails if a function succeeds for a move that is not valid.
func wantBadMovesFail(t *testing.T, succeeds func(m move, marks []int) bool) {
	t.Helper()
	for _, m := range badMoves() {
		for _, marks := range [][]int{nil, make([]int, len(m.p.Flows)), slices.Repeat([]int{1}, len(m.p.Flows))} {
			if succeeds(m, marks) {
				t.Errorf("a call for %v with %v succeeds", m, marks)
			}
		}
	}
}

// wantBadTokensStay fails if tokens that are not valid become others.
func wantBadTokensStay(t *testing.T) {
	t.Helper()
	p := lineOf(task(), task())
	bad := [][]int{nil, {}, {0}, {0, 0}, {0, 0, 0, 0}, make([]int, 1000)}
	for i := range 3 {
		for _, n := range outside(3) {
			bad = append(bad, changed([]int{0, 0, 0}, i, n), changed([]int{1, 2, 3}, i, n))
		}
	}
	for _, marks := range bad {
		for _, flows := range [][]int{{0, 1, 2}, {0, 0, 0}, {-1, -1, -1}} {
			wantMarksStay(t, "tokens that are not valid", move{p, p, flows}, marks)
		}
	}
}

func wantMarksMoved(t *testing.T, what string, m move, marks []int, want ...int) {
	t.Helper()
	if got, ok := impl.MoveMarks(m.p, m.q, m.flows, marks); !ok || !slices.Equal(got, want) {
		t.Errorf("%s: MoveMarks(%v, %v) = %v, %v, want %v", what, m, marks, got, ok, want)
	}
}

// wantMarksStay fails if tokens become others.
func wantMarksStay(t *testing.T, what string, m move, marks []int) {
	t.Helper()
	if got, ok := impl.MoveMarks(m.p, m.q, m.flows, marks); ok || got != nil {
		t.Errorf("%s: MoveMarks(%v, %v) = %v, %v", what, m, marks, got, ok)
	}
}

func wantFaithful(t *testing.T, what string, m move, want bool) {
	t.Helper()
	if got := impl.IsFaithful(m.p, m.q, m.flows); got != want {
		t.Errorf("%s: IsFaithful(%v) = %v", what, m, got)
	}
}

func wantInstanceMoved(t *testing.T, what string, m move, x impl.Instance, want impl.Instance) {
	t.Helper()
	y, ok := impl.MoveInstance(m.p, m.q, m.flows, x)
	wantInstance(t, what, y, ok, want)
}

// wantInstanceStays fails if an instance becomes another one.
func wantInstanceStays(t *testing.T, what string, m move, x impl.Instance) {
	t.Helper()
	y, ok := impl.MoveInstance(m.p, m.q, m.flows, x)
	wantFailed(t, what, y, ok)
}
