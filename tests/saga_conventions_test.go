package tests

import (
	"slices"
	"sync"
	"testing"

	"loop.example/processengine/impl"
)

// askSaga asks all functions about steps and effects.
func askSaga(list []impl.Step, fails int, effects []int) answers {
	all, ok := impl.RunSaga(list, fails)
	return answers{valid: impl.CanUndo(list), ok: ok, value: impl.NetEffect(effects), lists: [][]int{all}}
}

// wantedSagaAnswers returns what askSaga has to return.
func wantedSagaAnswers(list []impl.Step, fails int, effects []int) answers {
	all, ok := wantedSaga(list, fails)
	return answers{valid: wantedUndo(list), ok: ok, value: wantedNet(effects), lists: [][]int{all}}
}

// sagaCase is what all functions are asked with.
type sagaCase struct {
	list    []impl.Step
	fails   int
	effects []int
}

func (c sagaCase) ask() answers { return askSaga(c.list, c.fails, c.effects) }

// sagaCases returns many cases, most of them valid. Nobody may change them.
var sagaCases = sync.OnceValue(func() []sagaCase {
	r := newRandom(92)
	var cases []sagaCase
	for _, list := range sagas() {
		c := sagaCase{list, r.IntN(len(list)+2) - 1, randomEffects(r, 2*impl.MaxSaga)}
		switch r.IntN(8) {
		case 0:
			c.list = alteredSteps(list, r.IntN(20)-1, anyNumber(r))
		case 1:
			c.fails = anyNumber(r)
		case 2:
			c.effects = append(c.effects, anyNumbers(r, 5)...)
		}
		cases = append(cases, c)
	}
	return cases
})

func TestSagaFunctionsLeaveTheirArguments(t *testing.T) {
	mark := step(-5, -5)
	failed := 0
	for _, c := range sagaCases() {
		roomy := sagaCase{withRoom(c.list, mark), c.fails, withRoom(c.effects, -5)}
		first := roomy.ask()
		want := first.copied()
		first.spoil()
		if !sameRoom(roomy.list, c.list, mark) || !sameRoom(roomy.effects, c.effects, -5) {
			t.Fatalf("%v has become %v", c, roomy)
		}
		if !sameAnswers(roomy.ask(), want) {
			t.Fatalf("the second results for %v differ", c)
		}
		failed += bit(!want.ok && len(want.lists[0]) > 0)
	}
	if failed < 1000 {
		t.Errorf("%d sagas that fail test too little", failed)
	}
}

func TestSagasShareNoMemory(t *testing.T) {
	for _, c := range sagaCases() {
		effects := slices.Clone(c.effects)
		lists := [][]int{effects}
		for range 2 {
			lists = append(lists, askSaga(c.list, c.fails, effects).lists...)
			lists = append(lists, askSaga(c.list, -1, effects).lists...)
		}
		wantApart(t, c, lists)
	}
}

func TestEmptyAndNilSagasAreTheSame(t *testing.T) {
	for _, fails := range extremes {
		if !sameAnswers(askSaga(nil, fails, nil), askSaga([]impl.Step{}, fails, []int{})) {
			t.Errorf("empty steps and effects are not as none, with %d", fails)
		}
	}
}

// TestSagaFunctionsReturnForEveryArgument fails by a panic if they do not.
func TestSagaFunctionsReturnForEveryArgument(t *testing.T) {
	r := newRandom(93)
	done := 0
	ask := func(c sagaCase) {
		if got, want := c.ask(), wantedSagaAnswers(c.list, c.fails, c.effects); !sameAnswers(got, want) {
			t.Fatalf("%v: %v, want %v", c, got, want)
		} else {
			done += bit(want.ok)
		}
	}
	for _, c := range sagaCases() {
		ask(c)
		var list []impl.Step
		for range r.IntN(13) {
			list = append(list, step(anyNumber(r), anyNumber(r)))
		}
		ask(sagaCase{list, anyNumber(r), anyNumbers(r, 20)})
	}
	if done < 1000 {
		t.Errorf("%d sagas that succeed test too little", done)
	}
}

// TestSagasAtTheSameTime fails if a call keeps something for the next one, or for one beside it.
func TestSagasAtTheSameTime(t *testing.T) {
	cases := sagaCases()[:2000]
	want := make([]answers, len(cases))
	for i, c := range cases {
		want[i] = c.ask()
	}
	var group sync.WaitGroup
	for k := range 8 {
		group.Go(func() {
			for i := range cases {
				j := (i*7 + k*31) % len(cases)
				if !sameAnswers(cases[j].ask(), want[j]) {
					t.Errorf("results for %v differ", cases[j])
				}
			}
		})
	}
	group.Wait()
}
