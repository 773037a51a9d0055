package tests

import (
	"fmt"
	"math/rand/v2"
	"slices"
	"strings"
	"testing"

	"loop.example/processengine/impl"
)

func TestPromise119SessionsRunLineByLine(t *testing.T) {
	lines := 0
	for _, all := range sessions() {
		out := impl.RunSession(all)
		for n := range len(all) + 1 {
			got := impl.RunSession(all[:n])
			if !strings.HasPrefix(out, got) || strings.Count(got, "\n") != min(n, impl.MaxLines) {
				t.Fatalf("RunSession of %d lines of %q = %q, but of all it is %q", n, all, got, out)
			}
			lines++
		}
		// A line prints what the lines before it tell, and nothing that comes behind it.
		if n := len(all); n > 0 && n < impl.MaxLines {
			more := impl.RunSession(followedBy(all, "start", "deploy start,end;0>1", "what is this"))
			if !strings.HasPrefix(more, out) {
				t.Fatalf("RunSession(%q) = %q, but with lines behind them it is %q", all, out, more)
			}
		}
	}
	if lines < 10000 {
		t.Errorf("%d lines test too little", lines)
	}
}

func TestPromise120QuestionsChangeNothing(t *testing.T) {
	yes, no := 0, 0
	withSessions(t, 3, func(r *rand.Rand, lines []string) {
		want := lastPrint(t, followedBy(lines, "marks"))
		if got := lastPrint(t, followedBy(lines, "tasks", "done", "marks")); got != want {
			t.Fatalf("marks behind %q prints %q, but behind tasks and done it prints %q", lines, want, got)
		}
		yes += bit(want != "no")
		no += bit(want == "no")
		// They change nothing in the middle, and what they print is what the instance has.
		i := r.IntN(len(lines) + 1)
		asked := slices.Concat(lines[:i], []string{"tasks", "done", "marks"}, lines[i:])
		got := prints(t, asked)
		if all := prints(t, lines); !slices.Equal(slices.Concat(got[:i], got[i+3:]), all) {
			t.Fatalf("%q prints %q, but with questions at %d it prints %q", lines, all, i, got)
		}
		marks := got[i+2]
		if marks == "no" != (got[i] == "no") || marks == "no" != (got[i+1] == "no") {
			t.Fatalf("%q prints %q", asked, got)
		}
		if marks != "no" && (got[i+1] == "yes") != !strings.ContainsAny(marks, "123") {
			t.Fatalf("%q prints %q", asked, got)
		}
	})
	if min(yes, no) < 200 {
		t.Errorf("%d instances and %d times none test too little", yes, no)
	}
}

func TestPromise121LinesComeToTheirEnd(t *testing.T) {
	p := line(impl.NodeTask)
	r := newRandom(104)
	for range 200 {
		q := shuffled(r, p)
		node := slices.Index(q.Nodes, task())
		deploy := "deploy " + impl.FormatProcess(q)
		complete := fmt.Sprintf("complete %d", node)
		wantPrints(t, "a line of one task", deploy+"|ok", "start|ok", "done|not yet", fmt.Sprintf("tasks|%d", node), complete+"|ok", "done|yes", "tasks|")
		set := fmt.Sprintf("%s v%d=%d", complete, r.IntN(impl.Variables), randomValue(r))
		wantPrints(t, "a line of one task, and a value", deploy+"|ok", "start|ok", set+"|ok", "done|yes")
		for n := range 10 {
			if n != node {
				other := fmt.Sprintf("complete %d|no", n)
				wantPrints(t, "another node", deploy+"|ok", "start|ok", other, "done|not yet", complete+"|ok", "done|yes")
			}
		}
		wantPrints(t, "not started", deploy+"|ok", complete+"|no", "done|no")
		wantPrints(t, "not completed", deploy+"|ok", "start|ok", "done|not yet")
		if t.Failed() {
			t.FailNow()
		}
	}
	withSessions(t, 4, func(r *rand.Rand, lines []string) { // behind any other lines, too
		more := followedBy(lines, "deploy start,task,end;0>1;1>2", "start", "complete 1", "done")
		if got := lastPrint(t, more); got != "yes" {
			t.Fatalf("done behind %q prints %q", more, got)
		}
	})
}

func TestPromise177NewProcessesHaveNoInstance(t *testing.T) {
	open := 0
	withSessions(t, 2, func(r *rand.Rand, lines []string) {
		before := lastPrint(t, followedBy(lines, "tasks"))
		p := runnable()[r.IntN(len(runnable()))]
		for _, question := range []string{"tasks", "marks", "done"} {
			got := prints(t, followedBy(lines, "deploy "+impl.FormatProcess(p), question))
			if got[len(lines)] != "ok" || got[len(lines)+1] != "no" {
				t.Fatalf("deploy and %s behind %q print %q", question, lines, got[len(lines):])
			}
		}
		// One that is not there leaves the instance.
		if got := lastPrint(t, followedBy(lines, "deploy start,end", "tasks")); got != before {
			t.Fatalf("tasks behind %q prints %q, but behind a process that is not there %q", lines, before, got)
		}
		open += bit(before != "no" && before != "")
	})
	if open < 200 {
		t.Errorf("%d instances with open tasks test too little", open)
	}
}
