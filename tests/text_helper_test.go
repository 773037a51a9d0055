package tests

import (
	"math/rand/v2"
	"slices"
	"strings"
	"sync"
	"testing"

	"loop.example/processengine/impl"
)

// longCondition returns a condition with as many parts as the limit allows, whose text is as long as one can be.
func longCondition() []impl.Part {
	c := slices.Repeat(parts(number(-impl.MaxValue)), 6)
	c = append(c, slices.Repeat(parts(operator(impl.PartAnd)), 5)...)
	return append(c, operator(impl.PartNot))
}

// longProcess returns a process with as many flows as the limit allows, most of which have the longest condition.
func longProcess() impl.Process {
	p := draw([]int{impl.NodeStart, impl.NodeChoice, impl.NodeChoice, impl.NodeMerge, impl.NodeMessage, impl.NodeEnd}, [2]int{0, 1}, [2]int{3, 4}, [2]int{4, 5}, [2]int{1, 2})
	for i := range 10 {
		p.Flows = append(p.Flows, impl.Flow{From: 1 + i%2, To: 3})
	}
	for f, w := range p.Flows {
		if p.Nodes[w.From].Kind == impl.NodeChoice {
			p.Flows[f].When = longCondition()
		}
	}
	return p
}

// textConditions returns many valid conditions. Nobody may change them.
var textConditions = sync.OnceValue(func() [][]impl.Part {
	r := newRandom(94)
	list := [][]impl.Part{longCondition(), numbersAndNots(impl.MaxParts)}
	for n := range impl.Variables {
		list = append(list, parts(variable(n)))
	}
	for _, n := range []int{-9999, -1000, -999, -10, -9, -1, 0, 1, 9, 10, 999, 1000, 9999} {
		list = append(list, parts(number(n)))
	}
	for kind := impl.PartAdd; kind <= impl.PartEqual; kind++ {
		list = append(list, parts(number(1), variable(3), operator(kind)), parts(variable(3), number(-1), operator(kind)))
	}
	for range 5000 {
		list = append(list, randomCondition(r, impl.MaxParts))
	}
	return list
})

// badConditions returns conditions that are not valid, each of them near to one that is.
func badConditions() [][]impl.Part {
	bad := [][]impl.Part{nil, {}, numbersAndNots(impl.MaxParts + 1), make([]impl.Part, 1000), {number(10000)}, {number(-10000)}, {variable(-1)}, {variable(4)}, {number(1), number(2)}}
	for kind := impl.PartNot; kind <= impl.PartEqual; kind++ {
		bad = append(bad, parts(operator(kind)), parts(number(1), number(2), impl.Part{Kind: kind, Value: 1}), parts(number(1), impl.Part{Kind: kind, Value: -1}))
		if kind != impl.PartNot {
			bad = append(bad, parts(number(1), operator(kind)))
		}
	}
	for _, kind := range []int{-1, 9, 10} {
		bad = append(bad, parts(operator(kind)), parts(number(1), operator(kind)), parts(number(1), number(2), operator(kind)))
	}
	return bad
}

// alteredCondition returns a condition with one thing changed, so that often it is not valid any more.
func alteredCondition(r *rand.Rand, c []impl.Part) []impl.Part {
	d := parts(c...)
	i := r.IntN(len(d))
	switch r.IntN(5) {
	case 0:
		d[i].Kind = r.IntN(11) - 1
	case 1:
		d[i].Value = anyNumber(r)
	case 2:
		return without(d, i)
	case 3:
		return slices.Insert(d, i, randomLeaf(r))
	case 4:
		return append(d, operator(impl.PartNot+r.IntN(7)))
	}
	return d
}

// textProcesses returns many valid processes. Nobody may change them.
var textProcesses = sync.OnceValue(func() []impl.Process {
	r := newRandom(95)
	list := []impl.Process{longProcess(), detour(), shortcut(6), lineOf(timer(1), timer(10), timer(100), message(0), message(9))}
	for _, p := range tokenProcesses() {
		q := copyProcess(p)
		for f, w := range q.Flows {
			if q.Nodes[w.From].Kind == impl.NodeChoice && r.IntN(3) == 0 {
				q.Flows[f].When = randomCondition(r, impl.MaxParts)
			}
		}
		list = append(list, q)
	}
	return list
})

// alteredProcess returns a process with one thing changed, so that often it is not valid any more.
func alteredProcess(r *rand.Rand, p impl.Process) impl.Process {
	q := copyProcess(p)
	i, f := r.IntN(len(q.Nodes)), r.IntN(len(q.Flows))
	switch r.IntN(7) {
	case 0:
		q.Nodes[i].Kind = r.IntN(11) - 1
	case 1:
		q.Nodes[i].Value = anyNumber(r)
	case 2:
		q.Flows[f].From = anyNumber(r)
	case 3:
		q.Flows[f].To = anyNumber(r)
	case 4:
		q.Flows[f].When = alteredCondition(r, randomCondition(r, 5))
	case 5:
		q.Flows = without(q.Flows, f)
	case 6:
		q.Nodes = append(q.Nodes, impl.Node{Kind: r.IntN(9)})
	}
	return q
}

// textPieces are put into texts, so that they become almost texts.
var textPieces = []string{" ", " ", "  ", "\t", "\n", "0", "1", "9", "00", "-", "--", "+", "v", "v0", "v3", "v4", "V", "not", "and", "or", "<", "=", ">", ",", ";", ":", "1>2", ";1>2", ":v0", ";0>1", ",end", ",task", ",timer5", "start", "end", "task", "timer", "message", "choice", "fork", "merge", "join", ".", "_", "\x00", "\xff", "٣", "10000", "9223372036854775808"}

// alteredText returns a text with one thing changed, so that often nothing has it any more.
func alteredText(r *rand.Rand, s string) string {
	i := r.IntN(len(s) + 1)
	j := min(len(s), i+1)
	piece := textPieces[r.IntN(len(textPieces))]
	switch r.IntN(8) {
	case 0:
		return s[:i] + s[j:]
	case 1:
		return s[:i] + piece + s[j:]
	case 2:
		return s[:i] + piece + s[i:]
	case 3:
		return s[:i]
	case 4:
		return s[i:]
	case 5: // one of the numbers, or of the words
		return strings.Replace(s, string(rune('0'+r.IntN(10))), piece, 1+r.IntN(2))
	case 6:
		return strings.Replace(s, textPieces[r.IntN(len(textPieces))], piece, 1+r.IntN(2))
	}
	return s[:i] + s[j:] + s[i:j]
}

// badConditionTexts returns texts that no condition has, many of them near to one that a condition has.
func badConditionTexts() []string {
	bad := []string{
		"", " ", "  ", "v0 ", " v0", "v0  5 <", "v0 5  <", " v0 5 <", "v0 5 < ", "v0\t5 <", "v0\n5\n<", "v0 5 <\n", "\x00", "v0\x00",
		"v4", "v9", "v10", "v-1", "v-0", "v00", "v01", "v03", "v+1", "v 1", "V0", "v", "vv0", "v0v1", "0v", "x0", "v1.0", "v٣", "v99999999999999999999",
		"00", "01", "007", "-0", "-00", "-01", "+0", "+5", "--5", "- 5", "-", "5-", "-5-", "5.0", "1e3", "0x1", "1_000", "1,000", "10000", "-10000", "09999", "99999", "9223372036854775807", "-9223372036854775808", "9223372036854775808", "99999999999999999999", "٣", "five",
		"not", "+", "and", "or", "<", "=", "0 Not", "0 NOT", "0 !", "0 not0", "0 not1", "0not", "0 no", "0 nott",
		"1 2", "1 2 3 +", "1 +", "1 2 not", "1 2 + +", "1 2 add", "1 2 minus", "1 2 >", "1 2 <=", "1 2 ==", "1 2 &&", "1 2 ||", "1 2 AND", "1 2 Or", "1,2,+", "1 2+", "1 2 +0", "1 2 <0", "1 2 -3", "1 2 --", "+ 1 2", "1 + 2", "not 0",
		"v0 5 >", "v0 5 ;", "v0 5 <;", "v0 5 <:", ":v0 5 <", "v0 5 < < ", "v0 v4 +", "v0 10000 <", "v0 01 <", "v0 +1 <", "v0 -0 <",
	}
	for _, n := range []int{12, 13, 100, 1000000} {
		bad = append(bad, strings.Repeat("not ", n), strings.Repeat(" ", n), "7"+strings.Repeat(" not", n), strings.Repeat("7", n))
	}
	return bad
}

// badProcessTexts returns texts that no process has, many of them near to one that a process has.
func badProcessTexts() []string {
	bad := []string{
		"", " ", ",", ";", ":", ">", "start", "end", "start,", ",end", "start,end", "start,end;", "start,end:0>1", "start;end;0>1", "start,end,0>1", "0>1", ";0>1", "start,end;0>1;", "start,end;;0>1", ";start,end;0>1", "start,end,;0>1", ",start,end;0>1", "start,,end;0>1",
		" start,end;0>1", "start,end;0>1 ", "start, end;0>1", "start ,end;0>1", "start,end; 0>1", "start,end;0 >1", "start,end;0> 1", "start end;0>1", "start,end;0>1\n", "start,end;0>1\x00", "start,end\n;0>1",
		"Start,end;0>1", "START,END;0>1", "start,END;0>1", "begin,end;0>1", "start,ends;0>1", "starts,end;0>1", "start,en;0>1", "startend;0>1", "start,stop;0>1",
		"start0,end;0>1", "start,end0;0>1", "start,end1;0>1", "start,end-1;0>1", "start,task0,end;0>1;1>2", "start,task5,end;0>1;1>2", "start,task ,end;0>1;1>2", "start,choice0,end,end;0>1;1>2;1>3",
		"start,timer,end;0>1;1>2", "start,timer0,end;0>1;1>2", "start,timer101,end;0>1;1>2", "start,timer-1,end;0>1;1>2", "start,timer05,end;0>1;1>2", "start,timer+5,end;0>1;1>2", "start,timer 5,end;0>1;1>2", "start,timer5 ,end;0>1;1>2", "start,timer5x,end;0>1;1>2", "start,timerx,end;0>1;1>2", "start,timer99999999999999999999,end;0>1;1>2",
		"start,message,end;0>1;1>2", "start,message10,end;0>1;1>2", "start,message-1,end;0>1;1>2", "start,message-0,end;0>1;1>2", "start,message00,end;0>1;1>2", "start,message01,end;0>1;1>2", "start,message+1,end;0>1;1>2", "start,message 1,end;0>1;1>2", "start,5,end;0>1;1>2", "start,5timer,end;0>1;1>2",
		"start,end;0>2", "start,end;2>1", "start,end;0>-1", "start,end;-1>1", "start,end;-0>1", "start,end;00>1", "start,end;0>01", "start,end;+0>1", "start,end;0>+1", "start,end;0>", "start,end;>1", "start,end;>", "start,end;01", "start,end;0", "start,end;0<1", "start,end;0-1", "start,end;0>>1", "start,end;0>1>", "start,end;0>1>1", "start,end;0=>1", "start,end;x>1", "start,end;0>x", "start,end;0>99999999999999999999", "start,end;1>0", "start,end;0>1;0>1", "start,end;0>1,0>1",
		"start,end;0>1:", "start,end;0>1:v0", "start,end;0>1:1", "start,end;0>1::", "start,task,end;0>1;1>2:", "start,task,end;0>1;1>2:v0", "start,end:v0;0>1", "start:,end;0>1",
	}
	for _, when := range append(badConditionTexts(), "v0:v0", "v0;v0", ":", "v0:") {
		bad = append(bad, "start,choice,end,end;0>1;1>2:"+when+";1>3", "start,choice,end,end;0>1;1>2;1>3:"+when)
	}
	for _, n := range []int{11, 1000, 1000000} { // too many nodes, and too many flows
		many := strings.Repeat(",task", n)
		bad = append(bad, "start"+many+",end;0>1", "start,end"+many, "start,end"+strings.Repeat(";0>1", n), strings.Repeat(",", n), strings.Repeat(";", n), strings.Repeat("start,", n))
	}
	return bad
}

// sameProcess reports whether two processes are the same, where a nil slice is an empty one.
func sameProcess(a impl.Process, b impl.Process) bool {
	return slices.Equal(a.Nodes, b.Nodes) && slices.EqualFunc(a.Flows, b.Flows, func(f impl.Flow, g impl.Flow) bool {
		return f.From == g.From && f.To == g.To && slices.Equal(f.When, g.When)
	})
}

// wantCondition fails if a text is not that of a condition, or the other way round.
func wantCondition(t *testing.T, s string, c []impl.Part) {
	t.Helper()
	if got := impl.FormatCondition(c); got != s {
		t.Errorf("FormatCondition(%v) = %q, want %q", c, got, s)
	}
	if got, ok := impl.ParseCondition(s); !ok || !slices.Equal(got, c) {
		t.Errorf("ParseCondition(%q) = %v, %v, want %v", s, got, ok, c)
	}
}

// wantNoCondition fails if a condition has a text.
func wantNoCondition(t *testing.T, s string) {
	t.Helper()
	if c, ok := impl.ParseCondition(s); ok || c != nil {
		t.Errorf("ParseCondition(%.100q) = %v, %v", s, c, ok)
	}
}

// wantProcess fails if a text is not that of a process, or the other way round.
func wantProcess(t *testing.T, s string, p impl.Process) {
	t.Helper()
	if got := impl.FormatProcess(p); got != s {
		t.Errorf("FormatProcess(%v) = %q, want %q", p, got, s)
	}
	if got, ok := impl.ParseProcess(s); !ok || !sameProcess(got, p) {
		t.Errorf("ParseProcess(%q) = %v, %v, want %v", s, got, ok, p)
	}
}

// wantNoProcess fails if a process has a text.
func wantNoProcess(t *testing.T, s string) {
	t.Helper()
	if p, ok := impl.ParseProcess(s); ok || p.Nodes != nil || p.Flows != nil {
		t.Errorf("ParseProcess(%.100q) = %v, %v", s, p, ok)
	}
}

// wantBadConditionsFail fails if conditions that are not valid have texts, or texts of none have conditions.
func wantBadConditionsFail(t *testing.T) {
	t.Helper()
	for _, c := range badConditions() {
		if s := impl.FormatCondition(c); s != "" {
			t.Errorf("FormatCondition(%v) = %q", c, s)
		}
	}
	for _, s := range badConditionTexts() {
		wantNoCondition(t, s)
	}
}

// wantBadTextsFail fails if processes that are not valid have texts, or texts of none have processes.
func wantBadTextsFail(t *testing.T) {
	t.Helper()
	for _, p := range badProcesses() {
		if s := impl.FormatProcess(p); s != "" {
			t.Errorf("FormatProcess(%v) = %q", p, s)
		}
	}
	for _, s := range badProcessTexts() {
		wantNoProcess(t, s)
	}
}
