package tests

import (
	"fmt"
	"slices"
	"strings"
	"testing"

	"loop.example/processengine/impl"
)

func TestSessionConstants(t *testing.T) {
	wantList(t, "limits", []int{impl.MaxLines}, 20)
}

func TestRunSession(t *testing.T) {
	wantPrints(t, "no lines")
	wantPrints(t, "two tasks at once",
		"deploy "+bothText+"|ok", "start|ok", "tasks|2 3", "marks|0 1 1 0 0 0", "done|not yet", "complete 3|ok", "tasks|2", "marks|0 1 0 0 1 0", "complete 3|no", "complete 2|ok", "tasks|", "marks|0 0 0 0 0 0", "done|yes", "complete 2|no")
	wantPrints(t, "a task, a timer and a message",
		"deploy "+allText+"|ok", "start|ok", "marks|0 1 1 1 0 0 0 0", "clock 4|ok", "marks|0 1 1 1 0 0 0 0", "clock 5|ok", "marks|0 1 0 1 0 1 0 0", "message 4|no", "message 3|ok", "message 3|no", "marks|0 1 0 0 0 1 1 0", "complete 2|ok", "done|yes", "clock 9999|ok", "clock 9998|no", "clock 9999|ok")
	wantPrints(t, "a process that is done at once", "deploy start,end;0>1|ok", "start|ok", "tasks|", "marks|0", "done|yes")
	wantPrints(t, "a task behind a task", "deploy start,task,task,end;0>1;1>2;2>3|ok", "start|ok", "complete 2|no", "complete 1|ok", "tasks|2", "complete 1|no", "complete 2|ok", "done|yes")
	wantPrints(t, "several tokens on a flow", "deploy start,fork,merge,task,end;0>1;1>2;1>2;1>2;2>3;3>4|ok", "start|ok", "marks|0 0 0 0 3 0", "tasks|3", "complete 3|ok", "marks|0 0 0 0 2 0", "done|not yet")
}

func TestSessionsWithoutAProcess(t *testing.T) {
	wantPrints(t, "nothing before a process",
		"start|no", "tasks|no", "marks|no", "done|no", "complete 1|no", "complete 1 v0=1|no", "message 1|no", "clock 0|no", "clock 5|no", "complete x|no", "deploy x|no", "start|no", "done|no", "|what")
	wantPrints(t, "nothing before an instance",
		"deploy "+allText+"|ok", "tasks|no", "marks|no", "done|no", "complete 2|no", "complete 2 v0=1|no", "message 3|no", "clock 0|no", "start|ok", "tasks|2")
	wantPrints(t, "nothing behind a new process",
		"deploy "+allText+"|ok", "start|ok", "tasks|2", "deploy "+allText+"|ok", "tasks|no", "marks|no", "done|no", "complete 2|no", "message 3|no", "clock 5|no", "start|ok", "tasks|2")
	wantPrints(t, "the new process takes the place of the old one",
		"deploy "+bothText+"|ok", "start|ok", "deploy start,task,end;0>1;1>2|ok", "complete 2|no", "start|ok", "tasks|1", "marks|1 0", "complete 1|ok", "done|yes")
}

func TestSessionsGoOnBehindWhatFails(t *testing.T) {
	wantPrints(t, "a process that is not there",
		"deploy "+bothText+"|ok", "start|ok", "complete 3|ok", "deploy start,end|no", "tasks|2", "marks|0 1 0 0 1 0", "complete 2|ok", "done|yes", "deploy  |no", "done|yes", "start|ok", "tasks|2 3")
	noWay := "start,choice,end,end;0>1;1>2:v0;1>3:v1"
	wantPrints(t, "a process that cannot begin",
		"deploy "+noWay+"|ok", "start|no", "tasks|no", "start|no", "done|no", "deploy start,task,end;0>1;1>2|ok", "start|ok")
	circle := "start,merge,choice,end;0>1;1>2;2>1:v0 not;2>3"
	wantPrints(t, "a process that comes to no end", "deploy "+circle+"|ok", "start|no", "marks|no")
	stays := "start,task,choice,end,end;0>1;1>2;2>3:v0;2>4:v1"
	wantPrints(t, "a task behind which there is no way",
		"deploy "+stays+"|ok", "start|ok", "complete 1|no", "tasks|1", "complete 1 v2=5|no", "tasks|1", "marks|1 0 0 0", "complete 1 v1=-1|ok", "done|yes")
	wantPrints(t, "times",
		"deploy "+allText+"|ok", "start|ok", "clock 3|ok", "clock 2|no", "clock 10000|no", "clock -1|no", "clock 3|ok", "marks|0 1 1 1 0 0 0 0", "clock 5|ok", "clock 4|no", "marks|0 1 0 1 0 1 0 0")
}

func TestSessionsBeginAnew(t *testing.T) {
	wantPrints(t, "an instance takes the place of another one",
		"deploy "+allText+"|ok", "start|ok", "clock 100|ok", "complete 2|ok", "marks|0 0 0 1 1 1 0 0", "start|ok", "marks|0 1 1 1 0 0 0 0", "clock 4|ok", "marks|0 1 1 1 0 0 0 0", "clock 5|ok", "marks|0 1 0 1 0 1 0 0")
	wantPrints(t, "all values are 0 again",
		"deploy start,choice,task,task,end,end;0>1;1>2:v0 v1 or v2 or v3 or;1>3;2>4;3>5|ok", "start|ok", "tasks|3", "complete 3 v0=1|ok", "done|yes", "start|ok", "tasks|3")
	for v := range impl.Variables {
		zero := fmt.Sprintf("deploy start,choice,task,task,end,end;0>1;1>2:v%d 0 =;1>3;2>4;3>5|ok", v)
		wantPrints(t, "a value that is 0", zero, "start|ok", "tasks|2", fmt.Sprintf("complete 2 v%d=9|ok", v), "start|ok", "tasks|2")
	}
}

func TestValuesInSessions(t *testing.T) {
	wantPrints(t, "a value that is set", "deploy "+seesText+"|ok", "start|ok", "complete 1 v1=-7|ok", "tasks|3", "complete 3 v1=0|ok", "done|yes")
	wantPrints(t, "another value", "deploy "+seesText+"|ok", "start|ok", "complete 1 v1=7|ok", "tasks|4")
	wantPrints(t, "another variable", "deploy "+seesText+"|ok", "start|ok", "complete 1 v0=-7|ok", "tasks|4")
	wantPrints(t, "no value", "deploy "+seesText+"|ok", "start|ok", "complete 1|ok", "tasks|4")
	wantPrints(t, "a value that could not be set", "deploy "+seesText+"|ok", "start|ok", "complete 3 v1=-7|no", "complete 1|ok", "tasks|4")
	for v := range impl.Variables {
		for _, n := range []int{-9999, -1000, -999, -10, -9, -1, 0, 1, 9, 10, 99, 100, 999, 1000, 9999} {
			sees := fmt.Sprintf("deploy start,task,choice,task,task,end,end;0>1;1>2;2>3:v%d %d =;2>4;3>5;4>6|ok", v, n)
			wantPrints(t, "a value that is set", sees, "start|ok", fmt.Sprintf("complete 1 v%d=%d|ok", v, n), "tasks|3")
			wantPrints(t, "a value next to it", sees, "start|ok", fmt.Sprintf("complete 1 v%d=%d|ok", v, n-1+2*bit(n <= 0)), "tasks|4")
		}
		for _, n := range []int{-99999, -10000, 10000, 12345, 99999} {
			wantPrints(t, "a value of five digits", "deploy "+seesText+"|ok", "start|ok", fmt.Sprintf("complete 1 v%d=%d|no", v, n), "tasks|1")
		}
	}
	for _, v := range []string{"4", "5", "6", "7", "8", "9", "00", "01", "10", "-1", "", "x"} {
		wantPrints(t, "a variable that is not there", "deploy "+seesText+"|ok", "start|ok", "complete 1 v"+v+"=1|no", "tasks|1", "marks|1 0 0 0 0 0")
	}
}

// TestLinesThatAreNoCommands has them in each state of a session, where they never change anything.
func TestLinesThatAreNoCommands(t *testing.T) {
	begins := [][]string{{}, {"deploy " + allText}, {"deploy " + allText, "start"}, {"deploy " + allText, "start", "clock 7", "complete 2"}, {"deploy start,end;0>1", "start"}}
	for _, begin := range begins {
		for _, line := range whatLines() {
			if got := lastPrint(t, followedBy(begin, line)); got != "what" {
				t.Errorf("%q behind %q prints %q", line, begin, got)
			}
			wantSameBehind(t, begin, line)
		}
		for _, line := range noLines() {
			if got := lastPrint(t, followedBy(begin, line)); got != "no" {
				t.Errorf("%q behind %q prints %q", line, begin, got)
			}
			wantSameBehind(t, begin, line)
		}
	}
}

// wantSameBehind fails if a line between some lines and others changes what the others print.
func wantSameBehind(t *testing.T, begin []string, line string) {
	t.Helper()
	more := []string{"marks", "tasks", "done", "clock 2", "message 3", "complete 2 v1=-7", "clock 6", "marks", "done", "start", "marks"}
	want := prints(t, followedBy(begin, more...))[len(begin):]
	got := prints(t, slices.Concat(begin, []string{line}, more))[len(begin)+1:]
	if !slices.Equal(got, want) {
		t.Errorf("%q behind %q: %q print %q instead of %q", line, begin, more, got, want)
	}
}

func TestNumbersInSessions(t *testing.T) {
	for n := -12; n <= 12; n++ {
		for _, x := range []struct {
			line string
			ok   bool
		}{{fmt.Sprintf("complete %d", n), n == 2}, {fmt.Sprintf("message %d", n), n == 3}, {fmt.Sprintf("clock %d", n), n >= 0}, {fmt.Sprintf("complete %d v0=5", n), n == 2}, {fmt.Sprintf("complete 2 v%d=5", n), 0 <= n && n <= 3}} {
			want := []string{"no", "ok"}[bit(x.ok)]
			if got := lastPrint(t, []string{"deploy " + allText, "start", x.line}); got != want {
				t.Errorf("%q prints %q, want %q", x.line, got, want)
			}
		}
	}
	for n := range 10100 {
		if n%7 > 0 && n < 9900 {
			continue
		}
		want := []string{"no", "ok"}[bit(n <= 9999)]
		if got := lastPrint(t, []string{"deploy " + allText, "start", fmt.Sprintf("clock %d", n)}); got != want {
			t.Errorf("clock %d prints %q", n, got)
		}
		if got := lastPrint(t, []string{"deploy " + allText, "start", fmt.Sprintf("clock 0%d", n)}); got != "no" {
			t.Errorf("clock 0%d prints %q", n, got)
		}
	}
}

func TestNodesInSessions(t *testing.T) {
	wantPrints(t, "the node 0", "deploy task,start,end;1>0;0>2|ok", "start|ok", "tasks|0", "complete 00|no", "complete -0|no", "complete x|no", "complete 0|ok", "done|yes")
	last := "end,start" + strings.Repeat(",task", 8) + ";1>9;9>8;8>7;7>6;6>5;5>4;4>3;3>2;2>0"
	wantPrints(t, "the node 9", "deploy "+last+"|ok", "start|ok", "tasks|9", "complete 09|no", "complete 9|ok", "tasks|8")
	wantPrints(t, "the message 0", "deploy start,message0,end;0>1;1>2|ok", "start|ok", "message 00|no", "message -0|no", "message x|no", "message -1|no", "message 0|ok", "done|yes")
	wantPrints(t, "the message 9", "deploy start,message9,end;0>1;1>2|ok", "start|ok", "message 10|no", "message 9|ok", "done|yes")
}

func TestSessionsWithManyLines(t *testing.T) {
	circle := "deploy start,merge,task;0>1;1>2;2>1"
	for many := range 50 {
		lines := followedBy([]string{circle, "start"}, slices.Repeat([]string{"complete 2"}, many)...)[:many]
		want := strings.Repeat("ok\n", min(many, 20))
		if got := impl.RunSession(lines); got != want {
			t.Errorf("RunSession of %d lines = %q", many, got)
		}
	}
	var clocks []string // each of them only once, so that no line can be left out
	for i := range 100 {
		clocks = append(clocks, fmt.Sprintf("clock %d", i))
	}
	lines := followedBy([]string{circle, "start"}, clocks...)
	if got := impl.RunSession(lines); got != strings.Repeat("ok\n", 20) {
		t.Errorf("RunSession of 102 lines = %q", got)
	}
	nineteen := lines[:19]
	for _, x := range [][2]string{{"marks", "0 1 0"}, {"", "what"}, {"start", "ok"}, {"clock 1", "no"}, {"done", "not yet"}} {
		want := strings.Repeat("ok\n", 19) + x[1] + "\n"
		for _, more := range [][]string{nil, {"done"}, {"start", "marks", "tasks", ""}, clocks} {
			if got := impl.RunSession(followedBy(followedBy(nineteen, x[0]), more...)); got != want {
				t.Errorf("RunSession with the last line %q, and %d more = %q", x[0], len(more), got)
			}
		}
	}
	if got := impl.RunSession(make([]string, 100000)); got != strings.Repeat("what\n", 20) {
		t.Errorf("RunSession of 100000 empty lines = %q", got)
	}
}

// TestRandomSessions compares many sessions with what they have to print.
func TestRandomSessions(t *testing.T) {
	t.Parallel()
	done := map[string]int{}
	for _, lines := range sessions() {
		got, want := impl.RunSession(lines), wantedRunSession(lines)
		if got != want {
			t.Fatalf("RunSession(%q) = %q, want %q", lines, got, want)
		}
		for i, out := range prints(t, lines) {
			word, _, _ := strings.Cut(lines[i], " ")
			done[word+": "+out]++
			done[out]++
		}
	}
	for _, what := range []string{"deploy: ok", "deploy: no", "start: ok", "complete: ok", "complete: no", "message: ok", "message: no", "clock: ok", "clock: no", "done: not yet", "done: yes", "tasks: no", "marks: no", "tasks: ", "complete: what", "what"} {
		if done[what] < 20 {
			t.Errorf("%d times '%s' test too little", done[what], what)
		}
	}
}
