package tests

import (
	"fmt"
	"math/rand/v2"
	"slices"
	"strings"
	"sync"
	"testing"

	"loop.example/processengine/impl"
)

// bothText is a process with two tasks at once, 2 and 3, whose tokens meet at a join.
const bothText = "start,fork,task,task,join,end;0>1;1>2;1>3;2>4;3>4;4>5"

// seesText is a process that tells whether the variable 1 is -7 behind its first task, 1: the task 3 is open then, and 4 if it is not.
const seesText = "start,task,choice,task,task,end,end;0>1;1>2;2>3:v1 -7 =;2>4;3>5;4>6"

// allText is a process with a task, a timer that waits 5 and a message 3 at once: the nodes 2, 3 and 4.
const allText = "start,fork,task,timer5,message3,join,end;0>1;1>2;1>3;1>4;2>5;3>5;4>5;5>6"

// whatLines returns lines that are no commands, most of them almost.
func whatLines() []string {
	return []string{
		"", " ", "  ", "\t", "\n", "\x00", "\xff", "help", "quit", "ok", "no", "yes", "not yet", "what", "5", "v0=1", "start,end;0>1",
		"start ", " start", "start\n", "start\t", "start 1", "start start", "start  ", "Start", "START", "starts", "star", "start,", "start\x00", "start -1",
		"tasks ", " tasks", "tasks 1", "Tasks", "TASKS", "task", "tasks tasks", "tasks\n", "marks ", " marks", "marks 0", "Marks", "mark", "marks,", "done ", " done", "done yes", "Done", "don", "done?", "done\n", "done done",
		"deploy", "deploy ", "Deploy start,end;0>1", "DEPLOY start,end;0>1", " deploy start,end;0>1", "deploystart,end;0>1", "deploy\tstart,end;0>1", "deploy\nstart,end;0>1", "deploy:start,end;0>1", "deploys start,end;0>1", "redeploy start,end;0>1",
		"complete", "complete ", "complete  ", "complete  2", "complete 2 ", "complete   ", " complete 2", "complete  2 v0=1", "complete 2  v0=1", "complete 2 v0=1 ", "complete 2 v0=1 v1=2", "complete 2 3 4", "complete 2 v0 = 1", "complete\t2", "complete2", "Complete 2", "completed 2", "complete  v0=1", "complete 2 v0=1  ", "complete 2   ",
		"message", "message ", "message  ", "message  3", "message 3 ", " message 3", "message 3 3", "message 3 v0=1", "message\t3", "message3", "Message 3", "messages 3", "messag 3",
		"clock", "clock ", "clock  ", "clock  5", "clock 5 ", " clock 5", "clock 5 5", "clock 5 v0=1", "clock\t5", "clock5", "Clock 5", "clocks 5", "cloc 5",
	}
}

// noLines returns lines that are commands, but fail whatever the instance is.
func noLines() []string {
	list := []string{"deploy  ", "deploy x", "deploy start", "deploy start,end", "deploy  start,end;0>1", "deploy start,end;0>1 ", "deploy start,end;0>1\n", "deploy \tstart,end;0>1", "deploy start,end;0>1;", "deploy start,timer,end;0>1;1>2", "deploy start,task5,end;0>1;1>2", "deploy start,choice,end,end;0>1;1>2:;1>3", "deploy " + strings.Repeat("x", 1500), "deploy deploy start,end;0>1", "deploy start,end;0>1 start"}
	numbers := []string{"x", "-1", "-2", "-0", "+2", "02", "00", "0002", "00002", "2.0", "2\n", "\t2", "2,", "v2", "0x2", "2e0", "1_0", "10000", "-10000", "99999", "12345", "9223372036854775808", "99999999999999999999", "٢", "-", "+", "\x00", "\xff", "=", "two"}
	for _, n := range numbers {
		list = append(list, "complete "+n, "complete "+n+" v0=1", "message "+n, "clock "+n)
	}
	sets := []string{"x", "0", "1", "v", "v0", "v1=", "v=1", "=1", "=", "v=", "1=1", "v00=1", "v01=1", "v10=1", "v-1=1", "v+1=1", "V1=1", "x1=1", "vv=1", "vx=1", "v٣=1", "v1:1", "v1:=1", "v1=1=1", "v1==1", "v1=1,v2=2", "v1=v2", "v1=x", "v1=01", "v1=00", "v1=+1", "v1=-0", "v1=--1", "v1=-", "v1=1.0", "v1=1\n", "v1=\t1", "v1=10000", "v1=-10000", "v1=99999", "v1=00001", "v1=99999999999999999999", "v4=1", "v5=1", "v9=1", "v/=1", "v:=1", "\x00", "v\x001=1", "v1=1v", "1", "-1", "2"}
	for _, set := range sets {
		for node := range impl.MaxNodes {
			list = append(list, fmt.Sprintf("complete %d %s", node, set))
		}
	}
	return list
}

// deployOf returns the line that deploys a process.
func deployOf(p impl.Process) string { return "deploy " + wantedFormatProcess(p) }

// prints returns what a session prints, line by line.
func prints(t *testing.T, lines []string) []string {
	t.Helper()
	out := impl.RunSession(lines)
	many := strings.Count(out, "\n")
	if many != min(len(lines), impl.MaxLines) || many > 0 && !strings.HasSuffix(out, "\n") || many == 0 && out != "" {
		t.Fatalf("RunSession(%q) = %q", lines, out)
	}
	return strings.Split(out, "\n")[:many]
}

// lastPrint returns what the last line of a session prints.
func lastPrint(t *testing.T, lines []string) string {
	t.Helper()
	all := prints(t, lines)
	return all[len(all)-1]
}

// wantPrints fails if lines, each with what it has to print behind a vertical bar, print anything else.
func wantPrints(t *testing.T, what string, both ...string) {
	t.Helper()
	var lines, want []string
	for _, s := range both {
		line, out, _ := strings.Cut(s, "|")
		lines, want = append(lines, line), append(want, out)
	}
	if got := prints(t, lines); !slices.Equal(got, want) {
		t.Errorf("%s: RunSession(%q) prints %q, want %q", what, lines, got, want)
	}
}

// runnable returns processes whose instances wait for something at the start. Nobody may change them.
var runnable = sync.OnceValue(func() []impl.Process {
	var list []impl.Process
	for _, p := range runProcesses() {
		if x, ok := wantedStart(p, zeros); ok && sumOf(x.Marks) > 0 {
			list = append(list, p)
		}
	}
	return list
})

// randomWord returns a word that is often a number, or nearly one.
func randomWord(r *rand.Rand) string {
	switch r.IntN(4) {
	case 0:
		return fmt.Sprint(r.IntN(11) - 1)
	case 1:
		return fmt.Sprint(anyNumber(r))
	case 2:
		return []string{"", "x", "-0", "01", "+1", "v", "9999", "-9999", "10000"}[r.IntN(9)]
	}
	return fmt.Sprintf("v%d=%d", r.IntN(5), anyNumber(r))
}

// randomLine returns a line that often succeeds for a session.
func randomLine(r *rand.Rand, s *wantedSession) string {
	if !s.deployed && r.IntN(4) > 0 {
		return deployOf(runnable()[r.IntN(len(runnable()))])
	}
	if !s.started && r.IntN(4) > 0 {
		return "start"
	}
	switch r.IntN(14) {
	case 0, 1:
		return []string{"tasks", "marks", "done"}[r.IntN(3)]
	case 2:
		return whatLines()[r.IntN(len(whatLines()))]
	case 3:
		return noLines()[r.IntN(len(noLines()))]
	case 4:
		return []string{"start", deployOf(runnable()[r.IntN(len(runnable()))]), deployOf(badProcesses()[r.IntN(10)])}[r.IntN(3)]
	case 5:
		return []string{"complete", "message", "clock"}[r.IntN(3)] + " " + randomWord(r)
	case 6:
		return "complete " + randomWord(r) + " " + randomWord(r)
	}
	return eventLine(r, s)
}

// eventLine returns a line with an event that often succeeds for the instance of a session.
func eventLine(r *rand.Rand, s *wantedSession) string {
	open := wantedOpen(s.p, s.x)
	switch k := r.IntN(3); {
	case k == 0 && len(open) > 0:
		line := fmt.Sprintf("complete %d", open[r.IntN(len(open))])
		if r.IntN(2) == 0 {
			line += fmt.Sprintf(" v%d=%d", r.IntN(impl.Variables), r.IntN(3)-1)
		}
		return line
	case k == 1:
		return fmt.Sprintf("clock %d", max(s.x.Clock, wantedNextDue(s.p, s.x))+r.IntN(5)-1)
	}
	for _, i := range r.Perm(len(s.p.Nodes)) {
		if n := s.p.Nodes[i]; n.Kind == impl.NodeMessage {
			return fmt.Sprintf("message %d", n.Value)
		}
	}
	return fmt.Sprintf("message %d", r.IntN(3))
}

// randomSession returns so many lines.
func randomSession(r *rand.Rand, many int) []string {
	var lines []string
	var s wantedSession
	for range many {
		line := randomLine(r, &s)
		if r.IntN(20) == 0 {
			line = alteredText(r, line)
		}
		lines = append(lines, line)
		s.answer(line)
	}
	return lines
}

// sessions returns many sessions, some of them longer than the limit. Nobody may change them.
var sessions = sync.OnceValue(func() [][]string {
	r := newRandom(102)
	list := [][]string{nil, {}}
	for i := range 2000 {
		list = append(list, randomSession(r, i%(impl.MaxLines+6)))
	}
	return list
})

// withSessions calls a function with many sessions of which all lines are executed, with room for so many more.
func withSessions(t *testing.T, room int, f func(r *rand.Rand, lines []string)) {
	t.Helper()
	r := newRandom(103)
	running := 0
	for _, lines := range sessions() {
		lines = lines[:min(len(lines), impl.MaxLines-room)]
		f(r, lines)
		running += bit(strings.Count(wantedRunSession(lines), "ok") > 4)
	}
	if running < 500 {
		t.Errorf("%d sessions with several commands that succeed test too little", running)
	}
}

// followedBy returns new lines that are some lines with others behind them.
func followedBy(lines []string, more ...string) []string { return slices.Concat(lines, more) }
