package tests

import (
	"slices"
	"strconv"
	"strings"
	"testing"

	"loop.example/processengine/impl"
)

func TestTextConstants(t *testing.T) {
	wantList(t, "limits", []int{impl.MaxBytes}, 1500)
}

func TestTextsOfConditions(t *testing.T) {
	not, add := operator(impl.PartNot), operator(impl.PartAdd)
	for _, x := range []struct {
		s string
		c []impl.Part
	}{
		{"0", parts(number(0))}, {"-1", parts(number(-1))}, {"9999", parts(number(9999))}, {"-9999", parts(number(-9999))}, {"10", parts(number(10))}, {"100", parts(number(100))}, {"-1000", parts(number(-1000))},
		{"v0", parts(variable(0))}, {"v1", parts(variable(1))}, {"v2", parts(variable(2))}, {"v3", parts(variable(3))},
		{"0 not", parts(number(0), not)}, {"v3 not not", parts(variable(3), not, not)},
		{"1 2 +", parts(number(1), number(2), add)}, {"1 2 -", parts(number(1), number(2), operator(impl.PartSubtract))},
		{"1 2 and", parts(number(1), number(2), operator(impl.PartAnd))}, {"1 2 or", parts(number(1), number(2), operator(impl.PartOr))},
		{"1 2 <", parts(number(1), number(2), operator(impl.PartLess))}, {"1 2 =", parts(number(1), number(2), operator(impl.PartEqual))},
		{"v0 5 <", parts(variable(0), number(5), operator(impl.PartLess))},
		{"v1 -3 = not", parts(variable(1), number(-3), operator(impl.PartEqual), not)},
		{"1 -2 -", parts(number(1), number(-2), operator(impl.PartSubtract))},
		{"-1 -2 - -3 -", parts(number(-1), number(-2), operator(impl.PartSubtract), number(-3), operator(impl.PartSubtract))},
		{"1 2 3 + +", parts(number(1), number(2), number(3), add, add)},
		{"7" + strings.Repeat(" not", 11), numbersAndNots(12)},
		{strings.Repeat("-9999 ", 6) + "and and and and and not", longCondition()},
	} {
		wantCondition(t, x.s, x.c)
	}
	for n := -10050; n <= 10050; n++ {
		s := strconv.Itoa(n)
		if valid := -9999 <= n && n <= 9999; valid {
			wantCondition(t, s, parts(number(n)))
		} else {
			wantNoCondition(t, s)
		}
		if valid := 0 <= n && n <= 3; valid {
			wantCondition(t, "v"+s, parts(variable(n)))
		} else {
			wantNoCondition(t, "v"+s)
		}
		wantNoCondition(t, "0"+s)
		wantNoCondition(t, "+"+s)
		wantNoCondition(t, "-0"+s)
	}
}

func TestTextsOfNoCondition(t *testing.T) {
	wantBadConditionsFail(t)
	for many := 1; many <= 30; many++ {
		s := "7" + strings.Repeat(" not", many-1)
		if _, ok := impl.ParseCondition(s); ok != (many <= 12) {
			t.Errorf("ParseCondition of %d parts: %v", many, ok)
		}
		if got := impl.FormatCondition(numbersAndNots(many)); (got == s) != (many <= 12) || (got == "") != (many > 12) {
			t.Errorf("FormatCondition of %d parts = %q", many, got)
		}
	}
	// Any word that is none, at each place.
	good := []string{"v0", "-5", "+", "v3", "not", "<"}
	wantCondition(t, strings.Join(good, " "), parts(variable(0), number(-5), operator(impl.PartAdd), variable(3), operator(impl.PartNot), operator(impl.PartLess)))
	for i := range good {
		for _, word := range []string{"", " ", "v", "v4", "V0", "v00", "05", "-0", "+5", "--", "x", "Not", "10000", ">", "\t", "\x00", "5 ", " 5"} {
			list := slices.Clone(good)
			list[i] = word
			wantNoCondition(t, strings.Join(list, " "))
		}
		compareTexts(t, strings.Join(without(good, i), " ")) // and none at each place
	}
}

func TestTextsOfProcesses(t *testing.T) {
	wantProcess(t, "start,end;0>1", line())
	wantProcess(t, "end,start;1>0", draw([]int{impl.NodeEnd, impl.NodeStart}, [2]int{1, 0}))
	wantProcess(t, "start,task,end;0>1;1>2", line(impl.NodeTask))
	wantProcess(t, "start,timer1,message0,end;0>1;1>2;2>3", line(impl.NodeTimer, impl.NodeMessage))
	wantProcess(t, "start,timer100,message9,end;0>1;1>2;2>3", lineOf(timer(100), message(9)))
	wantProcess(t, "start,timer10,timer9,end;0>1;1>2;2>3", lineOf(timer(10), timer(9)))
	wantProcess(t, "start,merge,task,choice,end;0>1;1>2;2>3;3>1:v0;3>4", repeatTask())
	wantProcess(t, "end,join,task,start,task,fork;4>1;5>2;1>0;2>1;3>5;5>4", bothTasks())
	wantProcess(t, "start,end,task;0>1;2>2", lostCircle())
	wantProcess(t, "start,fork,join,end;0>1;2>3"+strings.Repeat(";1>2", 12), wideFork(12))
	wantProcess(t, "start"+strings.Repeat(",task", 8)+",end;0>1;1>2;2>3;3>4;4>5;5>6;6>7;7>8;8>9", tasks(10))
	when := strings.Repeat("-9999 ", 6) + "and and and and and not"
	both := conditionedChoice(longCondition(), nil, parts(variable(3), number(-1), operator(impl.PartSubtract)), parts(number(0)))
	wantProcess(t, "start,choice,end,end,end,end;0>1;1>2:"+when+";1>3;1>4:v3 -1 -;1>5:0", both)
	none := conditionedChoice(nil, []impl.Part{})
	wantProcess(t, "start,choice,end,end;0>1;1>2;1>3", none)
	if p, ok := impl.ParseProcess("start,choice,end,end;0>1;1>2;1>3"); !ok || len(p.Flows[1].When) != 0 {
		t.Errorf("a flow without a condition has %v", p.Flows)
	}
}

func TestValuesInTexts(t *testing.T) {
	for n := -20; n <= 120; n++ {
		s := strconv.Itoa(n)
		if text := "start,timer" + s + ",end;0>1;1>2"; 1 <= n && n <= 100 {
			wantProcess(t, text, lineOf(timer(n)))
		} else {
			wantNoProcess(t, text)
		}
		if text := "start,message" + s + ",end;0>1;1>2"; 0 <= n && n <= 9 {
			wantProcess(t, text, lineOf(message(n)))
		} else {
			wantNoProcess(t, text)
		}
		for kind, word := range kinds {
			if kind == impl.NodeTimer || kind == impl.NodeMessage {
				continue
			}
			in, out := degreesOf(kind) // a node of any other kind has no number
			text := impl.FormatProcess(shape(kind, in, out))
			if !strings.HasPrefix(text, word+",") {
				t.Fatalf("the text %q does not begin with %s", text, word)
			}
			wantNoProcess(t, word+s+text[len(word):])
		}
		for _, text := range []string{"start,end;" + s + ">1", "start,end;0>" + s} {
			if _, ok := impl.ParseProcess(text); ok != (text == "start,end;0>1") {
				t.Errorf("ParseProcess(%q): %v", text, ok)
			}
		}
	}
}

func TestTextsOfNoProcess(t *testing.T) {
	wantBadTextsFail(t)
	// Any character more, less or other, at each place, compared with what it has to be.
	for _, p := range []impl.Process{lineOf(timer(5), message(3)), repeatTask(), detour()} {
		s := impl.FormatProcess(p)
		for i := range len(s) + 1 {
			for _, c := range " \t\n0123456789-+v<=>,;:aestx\x00\xff" {
				for _, text := range []string{s[:i] + string(c) + s[i:], s[:i] + string(c) + s[min(len(s), i+1):]} {
					compareTexts(t, text)
				}
			}
			compareTexts(t, s[:i])
			compareTexts(t, s[i:])
			compareTexts(t, s[:i]+s[min(len(s), i+1):])
		}
	}
}

// compareTexts compares what has a text, if there is anything, with what has to have it.
func compareTexts(t *testing.T, s string) (isCondition bool, isProcess bool) {
	t.Helper()
	c, ok := impl.ParseCondition(s)
	want, wantOk := wantedParseCondition(s)
	if ok != wantOk || !slices.Equal(c, want) {
		t.Fatalf("ParseCondition(%.200q) = %v, %v, want %v, %v", s, c, ok, want, wantOk)
	}
	p, okP := impl.ParseProcess(s)
	wantP, wantOkP := wantedParseProcess(s)
	if okP != wantOkP || !sameProcess(p, wantP) {
		t.Fatalf("ParseProcess(%.200q) = %v, %v, want %v, %v", s, p, okP, wantP, wantOkP)
	}
	return ok, okP
}

// TestTextsWithManyBytes has texts near the limit. No process has one: all of their texts are shorter.
func TestTextsWithManyBytes(t *testing.T) {
	long := impl.FormatProcess(longProcess())
	if len(long) < 700 || len(long) > impl.MaxBytes {
		t.Errorf("the longest text has %d bytes", len(long))
	}
	wantProcess(t, long, longProcess())
	for _, many := range []int{1498, 1499, 1500, 1501, 1502, 3000, 1000000} {
		left := many - len(long)
		for _, s := range []string{long + strings.Repeat(" ", left), strings.Repeat(" ", left) + long, long + ";" + strings.Repeat("0", left-1), strings.Replace(long, "message0", "message"+strings.Repeat("0", left+1), 1), strings.Replace(long, "message0", "message0"+strings.Repeat(",", left), 1), long + strings.Repeat(";1>2", left/4) + strings.Repeat(" ", left%4), long + ":v0" + strings.Repeat(" ", left-3)} {
			if len(s) != many {
				t.Fatalf("a text has %d bytes instead of %d", len(s), many)
			}
			wantNoProcess(t, s)
			wantNoCondition(t, s)
		}
	}
}

// TestRandomTexts compares the functions for many conditions, processes and texts, valid or not, with what they have to be.
func TestRandomTexts(t *testing.T) {
	t.Parallel()
	r := newRandom(96)
	done := map[string]int{}
	for _, c := range textConditions() {
		if r.IntN(2) == 0 {
			c = alteredCondition(r, c)
		}
		s := impl.FormatCondition(c)
		if want := wantedFormatCondition(c); s != want {
			t.Fatalf("FormatCondition(%v) = %q, want %q", c, s, want)
		}
		done["conditions"] += bit(s != "")
		done["no conditions"] += bit(s == "")
		for range 5 {
			text := alteredText(r, s)
			is, _ := compareTexts(t, text)
			done["texts of conditions"] += bit(is)
			done["texts of no conditions"] += bit(!is)
		}
	}
	for _, p := range textProcesses() {
		if r.IntN(3) == 0 {
			p = alteredProcess(r, p)
		}
		s := impl.FormatProcess(p)
		if want := wantedFormatProcess(p); s != want {
			t.Fatalf("FormatProcess(%v) = %q, want %q", p, s, want)
		}
		done["processes"] += bit(s != "")
		done["no processes"] += bit(s == "")
		for range 5 {
			_, is := compareTexts(t, alteredText(r, s))
			done["texts of processes"] += bit(is)
			done["texts of no processes"] += bit(!is)
		}
	}
	for _, what := range []string{"conditions", "no conditions", "texts of conditions", "texts of no conditions", "processes", "no processes", "texts of processes", "texts of no processes"} {
		if done[what] < 500 {
			t.Errorf("%d times '%s' test too little", done[what], what)
		}
	}
}

// TestAllSmallTexts compares all texts of a few words with what has them.
func TestAllSmallTexts(t *testing.T) {
	words := []string{"", "0", "-1", "00", "v0", "v4", "v", "-", "not", "and", "<", ">"}
	for i := range len(words) * len(words) * len(words) * len(words) {
		var list []string
		for k := i; k > 0; k /= len(words) {
			list = append(list, words[k%len(words)])
		}
		compareTexts(t, strings.Join(list, " "))
	}
	pieces := []string{"start", "end", "task", ",", ";", "0>1", "1>2", "1>0", ":", "v0"}
	found := 0
	for _, first := range []string{"start", "end", "task"} {
		for i := range 100000 {
			s := first
			for k := i; k > 0; k /= len(pieces) {
				s += pieces[k%len(pieces)]
			}
			_, is := compareTexts(t, s)
			found += bit(is)
		}
	}
	if found != 2 { // a start and an end, in both orders
		t.Errorf("%d processes have small texts", found)
	}
}
