package tests

import (
	"math/rand/v2"
	"slices"
	"strings"
	"sync"
	"testing"

	"loop.example/processengine/impl"
)

// textAnswers are the results of all functions for a condition, a process and a text.
type textAnswers struct {
	texts     []string
	condition []impl.Part
	process   impl.Process
	ok        [2]bool
}

func askText(c []impl.Part, p impl.Process, s string) textAnswers {
	a := textAnswers{texts: []string{impl.FormatCondition(c), impl.FormatProcess(p)}}
	a.condition, a.ok[0] = impl.ParseCondition(s)
	a.process, a.ok[1] = impl.ParseProcess(s)
	return a
}

// wantedTextAnswers returns what askText has to return.
func wantedTextAnswers(c []impl.Part, p impl.Process, s string) textAnswers {
	a := textAnswers{texts: []string{wantedFormatCondition(c), wantedFormatProcess(p)}}
	a.condition, a.ok[0] = wantedParseCondition(s)
	a.process, a.ok[1] = wantedParseProcess(s)
	return a
}

func (a textAnswers) copied() textAnswers {
	a.texts = slices.Clone(a.texts)
	a.condition = slices.Clone(a.condition)
	a.process = copyProcess(a.process)
	return a
}

// spoil writes over all memory of the results.
func (a textAnswers) spoil() {
	mark := impl.Part{Kind: -7, Value: -7}
	spoil(a.condition, mark)
	for _, f := range a.process.Flows {
		spoil(f.When, mark)
	}
	spoil(a.process.Nodes, impl.Node{Kind: -7, Value: -7})
	spoil(a.process.Flows, impl.Flow{From: -7, To: -7})
}

// sameTextAnswers reports whether results are the same, where a nil slice is an empty one.
func sameTextAnswers(a textAnswers, b textAnswers) bool {
	return slices.Equal(a.texts, b.texts) && slices.Equal(a.condition, b.condition) && sameProcess(a.process, b.process) && a.ok == b.ok
}

// textCase is what all functions are asked with.
type textCase struct {
	c []impl.Part
	p impl.Process
	s string
}

func (c textCase) ask() textAnswers { return askText(c.c, c.p, c.s) }

// textCases returns many cases, most of them valid. Nobody may change them.
var textCases = sync.OnceValue(func() []textCase {
	r := newRandom(100)
	conditions, processes := textConditions(), textProcesses()
	var cases []textCase
	for i := range 4000 {
		x := textCase{conditions[i], processes[r.IntN(len(processes))], ""}
		switch r.IntN(8) {
		case 0:
			x.c = alteredCondition(r, x.c)
		case 1:
			x.p = alteredProcess(r, x.p)
		}
		x.s = []string{wantedFormatCondition(x.c), wantedFormatProcess(x.p)}[i%2]
		if r.IntN(4) == 0 {
			x.s = alteredText(r, x.s)
		}
		cases = append(cases, x)
	}
	return cases
})

func TestTextFunctionsLeaveTheirArguments(t *testing.T) {
	mark := impl.Part{Kind: -5, Value: -5}
	read := [2]int{}
	for _, x := range textCases() {
		roomy := textCase{withRoom(x.c, mark), roomyProcess(x.p), x.s}
		first := roomy.ask()
		want := first.copied()
		first.spoil()
		if wantRoomy(t, roomy.p, x.p); !sameRoom(roomy.c, x.c, mark) {
			t.Fatalf("%v has become %v", x.c, roomy.c)
		}
		if !sameTextAnswers(roomy.ask(), want) {
			t.Fatalf("the second results for %v differ", x)
		}
		read[0] += bit(want.ok[0])
		read[1] += bit(want.ok[1])
	}
	if min(read[0], read[1]) < 1000 {
		t.Errorf("%v conditions and processes that are read test too little", read)
	}
}

func TestTextsShareNoMemory(t *testing.T) {
	several := 0
	for _, x := range textCases() {
		a, b := x.ask(), x.ask()
		want := a.copied()
		a.spoil()
		if !sameTextAnswers(b, want) {
			t.Fatalf("the results for %v share memory", x)
		}
		// The conditions of one process are apart, too: each is written over, and then has to be as it was written.
		all := [][]impl.Part{b.condition}
		for _, f := range b.process.Flows {
			all = append(all, f.When)
		}
		for i, c := range all {
			spoil(c, impl.Part{Kind: -100 - i})
		}
		many := 0
		for i, c := range all {
			if slices.ContainsFunc(c[:cap(c)], func(p impl.Part) bool { return p.Kind != -100-i }) {
				t.Fatalf("the condition %d of %q shares memory with another one", i, x.s)
			}
			many += bit(len(c) > 0)
		}
		several += bit(many > 1)
	}
	if several < 200 {
		t.Errorf("%d processes with several conditions test too little", several)
	}
}

func TestEmptyAndNilTextsAreTheSame(t *testing.T) {
	none := impl.Process{Nodes: []impl.Node{}, Flows: []impl.Flow{}}
	if !sameTextAnswers(askText(nil, impl.Process{}, ""), askText([]impl.Part{}, none, "")) {
		t.Error("an empty condition and an empty process are not as none")
	}
	for _, x := range textCases() {
		q := copyProcess(x.p)
		for f, w := range q.Flows {
			if len(w.When) == 0 {
				q.Flows[f].When = []impl.Part{}
			}
		}
		if a, b := impl.FormatProcess(x.p), impl.FormatProcess(q); a != b {
			t.Fatalf("empty conditions of %v are not as none: %q", x.p, b)
		}
	}
}

// anyText returns a text of any bytes, or of any pieces.
func anyText(r *rand.Rand) string {
	s := ""
	if r.IntN(4) == 0 {
		for range r.IntN(30) {
			s += string([]byte{byte(r.IntN(256))})
		}
		return s
	}
	for range r.IntN(30) {
		s += textPieces[r.IntN(len(textPieces))]
	}
	return s
}

// TestTextFunctionsReturnForEveryArgument fails by a panic, or by its time, if they do not.
func TestTextFunctionsReturnForEveryArgument(t *testing.T) {
	r := newRandom(101)
	for _, x := range textCases() {
		if got, want := x.ask(), wantedTextAnswers(x.c, x.p, x.s); !sameTextAnswers(got, want) {
			t.Fatalf("%v: %v, want %v", x, got, want)
		}
	}
	for range 20000 {
		var p impl.Process
		for range r.IntN(13) {
			p.Nodes = append(p.Nodes, impl.Node{Kind: anyNumber(r), Value: anyNumber(r)})
		}
		for range r.IntN(17) {
			p.Flows = append(p.Flows, impl.Flow{From: anyNumber(r), To: anyNumber(r), When: anyCondition(r)})
		}
		x := textCase{anyCondition(r), p, anyText(r)}
		if got, want := x.ask(), wantedTextAnswers(x.c, x.p, x.s); !sameTextAnswers(got, want) {
			t.Fatalf("%v: %v, want %v", x, got, want)
		}
	}
	for _, piece := range textPieces {
		s := strings.Repeat(piece, 200000)
		wantNoCondition(t, s)
		wantNoProcess(t, s)
	}
}

// TestTextsAtTheSameTime fails if a call keeps something for the next one, or for one beside it.
func TestTextsAtTheSameTime(t *testing.T) {
	cases := textCases()[:1000]
	want := make([]textAnswers, len(cases))
	for i, x := range cases {
		want[i] = x.ask()
	}
	var group sync.WaitGroup
	for k := range 8 {
		group.Go(func() {
			for i := range cases {
				j := (i*7 + k*31) % len(cases)
				if !sameTextAnswers(cases[j].ask(), want[j]) {
					t.Errorf("results for %v differ", cases[j])
				}
			}
		})
	}
	group.Wait()
}
