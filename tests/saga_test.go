package tests

import (
	"math"
	"slices"
	"testing"

	"loop.example/processengine/impl"
)

func TestSagaConstants(t *testing.T) {
	wantList(t, "limits", []int{impl.MaxSaga}, 10)
}

func TestRunSaga(t *testing.T) {
	list := steps(step(5, -5), step(3, 7), step(1, 0), step(-9999, 9999))
	wantSaga(t, list, 0, false)
	wantSaga(t, list, 1, false, 5, -5)
	wantSaga(t, list, 2, false, 5, 3, 7, -5)
	wantSaga(t, list, 3, false, 5, 3, 1, 0, 7, -5)
	for _, fails := range noStep(list) {
		wantSaga(t, list, fails, true, 5, 3, 1, -9999)
		wantSaga(t, nil, fails, true)
		wantSaga(t, steps(step(8, 9)), fails, true, 8)
	}
	wantSaga(t, nil, 0, true)
	wantSaga(t, steps(), 0, true)
	wantSaga(t, steps(step(8, 9)), 0, false)
	wantSaga(t, steps(step(8, 9)), 1, true, 8)
	wantSaga(t, steps(step(0, 0), step(0, 0)), 1, false, 0, 0)
}

func TestRunSagaWithAsManyStepsAsTheLimit(t *testing.T) {
	var list []impl.Step
	for i := range 10 {
		list = append(list, step(i, 100+i))
	}
	wantSaga(t, list, 10, true, 0, 1, 2, 3, 4, 5, 6, 7, 8, 9)
	wantSaga(t, list, 9, false, 0, 1, 2, 3, 4, 5, 6, 7, 8, 108, 107, 106, 105, 104, 103, 102, 101, 100)
	wantSaga(t, list, 0, false)
	more := append(steps(list...), step(10, 110))
	for fails := -1; fails <= 12; fails++ {
		wantSaga(t, more, fails, false)
	}
	wantUndone(t, more, false)
}

func TestValuesOfSteps(t *testing.T) {
	for _, n := range slices.Concat(extremes, []int{-10001, -9998, 9998, 10001}) {
		valid := -9999 <= n && n <= 9999
		for _, s := range []impl.Step{step(n, 1), step(1, n)} {
			if valid {
				wantSaga(t, steps(s), -1, true, s.Do)
				wantSaga(t, steps(s, s), 1, false, s.Do, s.Undo)
			} else {
				for _, list := range [][]impl.Step{{s}, {s, opposite(1)}, {opposite(1), s}} {
					for fails := -1; fails <= 2; fails++ {
						wantSaga(t, list, fails, false)
					}
				}
			}
		}
		if wantUndone(t, steps(opposite(n)), valid); valid {
			wantNet(t, []int{n}, n)
		} else {
			wantNet(t, []int{n}, 0)
		}
		wantUndone(t, steps(step(n, n)), n == 0)
	}
	wantBadStepsFail(t)
}

func TestNetEffect(t *testing.T) {
	wantNet(t, nil, 0)
	wantNet(t, []int{}, 0)
	wantNet(t, []int{0}, 0)
	wantNet(t, []int{5, 3, -3, -5}, 0)
	wantNet(t, []int{5, 3, 1}, 9)
	wantNet(t, []int{-5, 3, 1}, -1)
	wantNet(t, slices.Repeat([]int{9999}, 20), 199980)
	wantNet(t, slices.Repeat([]int{-9999}, 20), -199980)
	wantNet(t, slices.Repeat([]int{9999}, 19), 189981)
	wantNet(t, slices.Repeat([]int{9999, -9999}, 10), 0)
	wantNet(t, slices.Repeat([]int{9999}, 21), 0)
	wantNet(t, slices.Repeat([]int{1}, 21), 0)
	wantNet(t, []int{10000}, 0)
	wantNet(t, []int{3, 10000}, 0)
	wantNet(t, []int{10000, 3}, 0)
	wantNet(t, []int{-10000, 3}, 0)
	wantNet(t, []int{math.MaxInt, math.MinInt, 3}, 0)
	wantBadEffectsFail(t)
}

func TestCanUndo(t *testing.T) {
	wantUndone(t, nil, true)
	wantUndone(t, steps(), true)
	wantUndone(t, steps(opposite(0)), true)
	wantUndone(t, steps(opposite(5), opposite(-3), opposite(0)), true)
	wantUndone(t, steps(step(5, 5)), false)
	wantUndone(t, steps(step(5, -4)), false)
	wantUndone(t, steps(step(0, 1)), false)
	wantUndone(t, steps(step(1, 0)), false)
	wantUndone(t, steps(opposite(9999), opposite(-9999)), true)
	for i := range 10 {
		list := slices.Repeat([]impl.Step{opposite(7)}, 10)
		wantUndone(t, list, true)
		list[i].Undo = 7
		wantUndone(t, list, false)
		list[i].Do = -7
		wantUndone(t, list, true)
	}
	wantUndone(t, slices.Repeat([]impl.Step{opposite(7)}, 11), false)
	wantUndone(t, steps(step(math.MinInt, math.MinInt)), false)
	wantUndone(t, steps(opposite(10000)), false)
	wantUndone(t, steps(opposite(-10000)), false)
}

// alteredSteps returns steps with another value at some place, or too many of them, so that often they are not valid any more.
func alteredSteps(list []impl.Step, i int, n int) []impl.Step {
	next := steps(list...)
	switch {
	case len(next) == 0 || i < 0:
		return append(next, slices.Repeat([]impl.Step{opposite(1)}, 11-len(next))...)
	case i%2 == 0:
		next[i%len(next)].Do = n
	default:
		next[i%len(next)].Undo = n
	}
	return next
}

// TestRandomSagas compares the functions for many steps and effects, valid or not, with what they have to be.
func TestRandomSagas(t *testing.T) {
	r := newRandom(88)
	done := map[string]int{}
	for _, list := range sagas() {
		if r.IntN(3) == 0 {
			list = alteredSteps(list, r.IntN(20)-1, anyNumber(r))
		}
		for _, fails := range []int{r.IntN(12) - 1, len(list) - 1, len(list), anyNumber(r)} {
			effects, ok := wantedSaga(list, fails)
			wantSaga(t, list, fails, ok, effects...)
			wantNet(t, effects, wantedNet(effects))
			done["all steps"] += bit(ok)
			done["some steps"] += bit(len(effects) > 0 && !ok)
		}
		wantUndone(t, list, wantedUndo(list))
		done["undone"] += bit(wantedUndo(list))
		done["not undone"] += bit(!wantedUndo(list))
		done["not valid"] += bit(!wantedSteps(list))
		effects := slices.Concat(dosOf(list), undosOf(list))
		if r.IntN(6) == 0 {
			effects = append(effects, anyNumber(r))
		}
		wantNet(t, effects, wantedNet(effects))
		if t.Failed() {
			t.FailNow()
		}
	}
	for _, what := range []string{"all steps", "some steps", "undone", "not undone", "not valid"} {
		if done[what] < 300 {
			t.Errorf("%d times '%s' test too little", done[what], what)
		}
	}
}

// TestAllSmallSagas compares all small steps, up to three of them, with what they have to be.
func TestAllSmallSagas(t *testing.T) {
	values := []int{-1, 0, 1}
	var some []impl.Step
	for _, do := range values {
		for _, undo := range values {
			some = append(some, step(do, undo))
		}
	}
	for i := range 1000 {
		var list []impl.Step
		for k := i; k > 0; k /= 10 {
			if k%10 > 0 {
				list = append(list, some[k%10-1])
			}
		}
		for fails := -1; fails <= 3; fails++ {
			effects, ok := wantedSaga(list, fails)
			wantSaga(t, list, fails, ok, effects...)
		}
		wantUndone(t, list, wantedUndo(list))
	}
}
