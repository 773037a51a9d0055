package tests

import (
	"slices"
	"strings"
	"testing"

	"loop.example/processengine/impl"
)

// withTextConditions calls a function with many conditions, valid or not.
func withTextConditions(t *testing.T, f func(c []impl.Part, valid bool)) {
	t.Helper()
	r := newRandom(97)
	yes, no := 0, 0
	for _, c := range textConditions() {
		d := alteredCondition(r, c)
		f(c, true)
		f(d, wantedValid(d))
		yes++
		no += bit(!wantedValid(d))
	}
	for _, c := range badConditions() {
		f(c, false)
	}
	if min(yes, no) < 1000 {
		t.Errorf("%d conditions and %d that are not valid test too little", yes, no)
	}
}

// withTextProcesses calls a function with many processes, valid or not.
func withTextProcesses(t *testing.T, f func(p impl.Process, valid bool)) {
	t.Helper()
	r := newRandom(98)
	yes, no := 0, 0
	for _, p := range textProcesses() {
		q := alteredProcess(r, p)
		_, valid := wantedProcess(q)
		f(p, true)
		f(q, valid)
		yes++
		no += bit(!valid)
	}
	for _, p := range badProcesses() {
		f(p, false)
	}
	if min(yes, no) < 1000 {
		t.Errorf("%d processes and %d that are not valid test too little", yes, no)
	}
}

// withTexts calls a function with many texts, most of them of nothing.
func withTexts(f func(s string)) {
	r := newRandom(99)
	for _, c := range textConditions() {
		s := wantedFormatCondition(c)
		f(s)
		f(alteredText(r, s))
		f(alteredText(r, s))
	}
	for i, p := range textProcesses() {
		s := wantedFormatProcess(p)
		f(s)
		f(alteredText(r, s))
		if i%4 == 0 {
			f(alteredText(r, alteredText(r, s)))
		}
	}
	for _, s := range slices.Concat(badConditionTexts(), badProcessTexts()) {
		f(s)
	}
}

func TestPromise1ConditionsCanBeTurnedAround(t *testing.T) {
	turned := 0
	withTextConditions(t, func(c []impl.Part, valid bool) {
		if got := impl.ValidCondition(c); got != valid || got != (impl.FormatCondition(c) != "") {
			t.Fatalf("ValidCondition(%v) = %v, but FormatCondition is %q", c, got, impl.FormatCondition(c))
		}
		not := joined(c, parts(operator(impl.PartNot)))
		want := valid && len(c) < impl.MaxParts
		if got := impl.ValidCondition(not); got != want || got != (impl.FormatCondition(not) != "") {
			t.Fatalf("ValidCondition(%v) = %v, but FormatCondition is %q", not, got, impl.FormatCondition(not))
		}
		if want && impl.FormatCondition(not) != impl.FormatCondition(c)+" not" {
			t.Fatalf("FormatCondition(%v) = %q", not, impl.FormatCondition(not))
		}
		turned += bit(want)
	})
	if turned < 1000 {
		t.Errorf("%d conditions that are turned around test too little", turned)
	}
	wantBadConditionsFail(t)
}

func TestPromise7ProcessesCanBeWritten(t *testing.T) {
	withTextProcesses(t, func(p impl.Process, valid bool) {
		s, marks := impl.FormatProcess(p), impl.FirstMarks(p)
		if got := impl.ValidProcess(p); got != valid || got != (s != "") || got != (len(marks) > 0) {
			t.Fatalf("ValidProcess(%v) = %v, but its text is %q, and its FirstMarks are %v", p, got, s, marks)
		}
	})
	wantBadTextsFail(t)
}

func TestPromise115TextsOfConditionsLoseNothing(t *testing.T) {
	withTextConditions(t, func(c []impl.Part, valid bool) {
		s := impl.FormatCondition(c)
		got, ok := impl.ParseCondition(s)
		if ok != valid || valid && !slices.Equal(got, c) || !valid && got != nil {
			t.Fatalf("ParseCondition(%q) = %v, %v, want %v", s, got, ok, c)
		}
	})
	wantBadConditionsFail(t)
}

func TestPromise116ConditionsHaveOneText(t *testing.T) {
	yes, no := 0, 0
	withTexts(func(s string) {
		c, ok := impl.ParseCondition(s)
		if ok && (impl.FormatCondition(c) != s || !impl.ValidCondition(c)) || !ok && c != nil {
			t.Fatalf("ParseCondition(%.200q) = %v, %v, but its text is %q", s, c, ok, impl.FormatCondition(c))
		}
		yes += bit(ok)
		no += bit(!ok)
	})
	if min(yes, no) < 2000 {
		t.Errorf("%d texts of conditions and %d of none test too little", yes, no)
	}
	for _, s := range []string{"v0 5 <", "5", "-5 v3 -", "1 2 3 4 5 6 + - and or <"} { // a text has to be accepted, too
		if _, ok := impl.ParseCondition(s); !ok {
			t.Errorf("ParseCondition(%q) fails", s)
		}
	}
	wantBadConditionsFail(t)
}

func TestPromise117TextsOfProcessesLoseNothing(t *testing.T) {
	withTextProcesses(t, func(p impl.Process, valid bool) {
		s := impl.FormatProcess(p)
		got, ok := impl.ParseProcess(s)
		if ok != valid || valid && !sameProcess(got, p) || !valid && (got.Nodes != nil || got.Flows != nil) {
			t.Fatalf("ParseProcess(%q) = %v, %v, want %v", s, got, ok, p)
		}
	})
	wantBadTextsFail(t)
}

func TestPromise118ProcessesHaveOneText(t *testing.T) {
	yes, no := 0, 0
	withTexts(func(s string) {
		p, ok := impl.ParseProcess(s)
		if ok && (impl.FormatProcess(p) != s || !impl.ValidProcess(p)) || !ok && (p.Nodes != nil || p.Flows != nil) {
			t.Fatalf("ParseProcess(%.200q) = %v, %v, but its text is %q", s, p, ok, impl.FormatProcess(p))
		}
		yes += bit(ok)
		no += bit(!ok)
	})
	if min(yes, no) < 2000 {
		t.Errorf("%d texts of processes and %d of none test too little", yes, no)
	}
	for _, s := range []string{"start,end;0>1", "start,timer5,end;0>1;1>2", "start,choice,end,end;0>1;1>2:v0 5 <;1>3"} {
		if _, ok := impl.ParseProcess(s); !ok {
			t.Errorf("ParseProcess(%q) fails", s)
		}
	}
	wantBadTextsFail(t)
}

func TestPromise163PartsHaveWords(t *testing.T) {
	withTextConditions(t, func(c []impl.Part, valid bool) {
		s := impl.FormatCondition(c)
		if !valid {
			if s != "" {
				t.Fatalf("FormatCondition(%v) = %q", c, s)
			}
			return
		}
		if strings.Count(s, " ") != len(c)-1 || len(strings.Fields(s)) != len(c) {
			t.Fatalf("FormatCondition(%v) = %q", c, s)
		}
		for i, word := range strings.Fields(s) {
			if c[i].Kind >= impl.PartNot && word != operators[c[i].Kind] {
				t.Fatalf("FormatCondition(%v) = %q with the word %q", c, s, word)
			}
		}
	})
}

func TestPromise164NodesAndFlowsHaveSigns(t *testing.T) {
	withTextProcesses(t, func(p impl.Process, valid bool) {
		s := impl.FormatProcess(p)
		if !valid {
			if s != "" {
				t.Fatalf("FormatProcess(%v) = %q", p, s)
			}
			return
		}
		conditions := 0
		for _, f := range p.Flows {
			conditions += bit(len(f.When) > 0)
		}
		if strings.Count(s, ",") != len(p.Nodes)-1 || strings.Count(s, ";") != len(p.Flows) || strings.Count(s, ">") != len(p.Flows) || strings.Count(s, ":") != conditions {
			t.Fatalf("FormatProcess(%v) = %q", p, s)
		}
		nodes, _, _ := strings.Cut(s, ";")
		for i, word := range strings.Split(nodes, ",") {
			if !strings.HasPrefix(word, kinds[p.Nodes[i].Kind]) {
				t.Fatalf("FormatProcess(%v) = %q with the node %q", p, s, word)
			}
		}
	})
}
