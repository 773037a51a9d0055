package tests

import (
	"math/rand/v2"
	"slices"
	"strings"
	"sync"
	"testing"

	"loop.example/processengine/impl"
)

func TestRunSessionLeavesItsLines(t *testing.T) {
	for _, lines := range sessions() {
		roomy := withRoom(lines, "start")
		first := impl.RunSession(roomy)
		if !sameRoom(roomy, lines, "start") {
			t.Fatalf("%q has become %q", lines, roomy)
		}
		if second := impl.RunSession(roomy); second != first {
			t.Fatalf("RunSession(%q) = %q, and then %q", lines, first, second)
		}
	}
}

func TestEmptyAndNilSessionsAreTheSame(t *testing.T) {
	if a, b := impl.RunSession(nil), impl.RunSession([]string{}); a != "" || b != "" {
		t.Errorf("no lines print %q and %q", a, b)
	}
}

// anyLine returns a line of any words.
func anyLine(r *rand.Rand) string {
	words := []string{"deploy", "start", "complete", "message", "clock", "tasks", "marks", "done", "", "1", "2", "v0=1", "-1", "x", bothText, allText}
	if r.IntN(3) == 0 {
		return []string{"start", "complete 2", "message 3", "clock 1", "clock 5", "tasks", "marks", "done"}[r.IntN(8)]
	}
	var line []string
	for range r.IntN(5) {
		line = append(line, words[r.IntN(len(words))])
	}
	if r.IntN(4) == 0 {
		line = append(line, anyText(r))
	}
	return strings.Join(line, []string{" ", " ", " ", "", "  ", "\t"}[r.IntN(6)])
}

// TestRunSessionReturnsForEveryArgument fails by a panic, or by its time, if it does not.
func TestRunSessionReturnsForEveryArgument(t *testing.T) {
	r := newRandom(105)
	running := 0
	for range 20000 {
		lines := []string{"deploy " + allText, "start"}[:r.IntN(3)]
		for range r.IntN(24) {
			lines = append(lines, anyLine(r))
		}
		got, want := impl.RunSession(lines), wantedRunSession(lines)
		if got != want {
			t.Fatalf("RunSession(%q) = %q, want %q", lines, got, want)
		}
		running += bit(strings.Count(got, "ok") > 2)
	}
	if running < 2000 {
		t.Errorf("%d sessions with several commands that succeed test too little", running)
	}
	long := strings.Repeat("complete ", 100000)
	lines := []string{long, "deploy " + long, "complete 2 " + long, "complete 2 v1=" + strings.Repeat("9", 1000000), "clock " + strings.Repeat("1", 1000000), "message " + strings.Repeat(" ", 1000000), strings.Repeat("\xff", 1000000), strings.Repeat(" ", 1000000)}
	if got, want := impl.RunSession(lines), "what\nno\nwhat\nno\nno\nwhat\nwhat\nwhat\n"; got != want {
		t.Errorf("RunSession of long lines = %q, want %q", got, want)
	}
}

// TestSessionsAtTheSameTime fails if a session keeps something for the next one, or for one beside it.
func TestSessionsAtTheSameTime(t *testing.T) {
	cases := slices.Clone(sessions()[:600])
	want := make([]string, len(cases))
	for i, lines := range cases {
		want[i] = impl.RunSession(lines)
	}
	var group sync.WaitGroup
	for k := range 8 {
		group.Go(func() {
			for i := range cases {
				j := (i*7 + k*31) % len(cases)
				if impl.RunSession(cases[j]) != want[j] {
					t.Errorf("what %q prints differs", cases[j])
				}
			}
		})
	}
	group.Wait()
}
