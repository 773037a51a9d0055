package tests

import (
	"math"
	"math/rand/v2"
	"slices"
	"sync"
	"testing"

	"loop.example/processengine/impl"
)

func step(do int, undo int) impl.Step { return impl.Step{Do: do, Undo: undo} }

// opposite returns a step that can be undone.
func opposite(do int) impl.Step { return step(do, -do) }

// steps returns a new saga; no two sagas share memory.
func steps(list ...impl.Step) []impl.Step { return slices.Clone(list) }

// dosOf returns Do of all steps, in order.
func dosOf(list []impl.Step) []int {
	var all []int
	for _, s := range list {
		all = append(all, s.Do)
	}
	return all
}

// undosOf returns Undo of all steps, in reverse order.
func undosOf(list []impl.Step) []int {
	var all []int
	for _, s := range list {
		all = append(all, s.Undo)
	}
	slices.Reverse(all)
	return all
}

// randomSteps returns a saga; often all of its steps, or all but one, can be undone.
func randomSteps(r *rand.Rand) []impl.Step {
	var list []impl.Step
	many := r.IntN(impl.MaxSaga + 1)
	if r.IntN(4) == 0 {
		many = impl.MaxSaga
	}
	kind := r.IntN(3)
	for range many {
		s := opposite(randomValue(r))
		if kind == 0 {
			s.Undo = randomValue(r)
		}
		list = append(list, s)
	}
	if kind == 1 && many > 0 {
		list[r.IntN(many)].Undo = randomValue(r)
	}
	return list
}

// sagas returns many sagas. Nobody may change them.
var sagas = sync.OnceValue(func() [][]impl.Step {
	r := newRandom(86)
	list := [][]impl.Step{nil, {}, {opposite(0)}, {step(0, 1)}, slices.Repeat([]impl.Step{opposite(impl.MaxValue)}, impl.MaxSaga), slices.Repeat([]impl.Step{step(-impl.MaxValue, -impl.MaxValue)}, impl.MaxSaga)}
	for range 5000 {
		list = append(list, randomSteps(r))
	}
	return list
})

// withSagas calls a function with many sagas.
func withSagas(t *testing.T, f func(r *rand.Rand, list []impl.Step)) {
	t.Helper()
	r := newRandom(87)
	for _, list := range sagas() {
		f(r, list)
	}
}

// noStep are indices that no step has.
func noStep(list []impl.Step) []int {
	return []int{math.MinInt, -impl.MaxSaga, -2, -1, len(list), len(list) + 1, 100, math.MaxInt}
}

// badSteps returns sagas that are not valid, each for one reason alone.
func badSteps() [][]impl.Step {
	bad := [][]impl.Step{make([]impl.Step, 11), slices.Repeat([]impl.Step{opposite(3)}, 11), slices.Repeat([]impl.Step{opposite(3)}, 12), make([]impl.Step, 1000)}
	for _, n := range []int{math.MinInt, math.MinInt + 1, -10000, 10000, math.MaxInt} {
		bad = append(bad, steps(step(n, 5)), steps(step(5, n)), steps(step(n, -n)), steps(step(-n, n)))
		for i := range 10 { // at each place of as many steps as can be
			list := slices.Repeat([]impl.Step{opposite(7)}, 10)
			list[i].Do = n
			other := slices.Repeat([]impl.Step{opposite(7)}, 10)
			other[i].Undo = n
			both := slices.Repeat([]impl.Step{opposite(7)}, 10)
			both[i] = opposite(n)
			bad = append(bad, list, other, both)
		}
	}
	return bad
}

// badEffects returns effects that are not valid, each for one reason alone.
func badEffects() [][]int {
	bad := [][]int{slices.Repeat([]int{1}, 21), slices.Repeat([]int{1}, 22), slices.Repeat([]int{-9999}, 21), slices.Repeat([]int{1}, 1000)}
	for _, n := range []int{math.MinInt, -10000, 10000, math.MaxInt} {
		bad = append(bad, []int{n}, []int{n, n}, []int{n, -n, 5})
		for i := range 20 {
			bad = append(bad, changed(slices.Repeat([]int{7}, 20), i, n))
		}
	}
	return bad
}

// wantBadStepsFail fails if a function does anything with steps that are not valid.
func wantBadStepsFail(t *testing.T) {
	t.Helper()
	for _, list := range badSteps() {
		for _, fails := range []int{-1, 0, 1, len(list) - 1, len(list), math.MaxInt} {
			if effects, ok := impl.RunSaga(list, fails); ok || effects != nil {
				t.Errorf("RunSaga(%v, %d) = %v, %v", list, fails, effects, ok)
			}
		}
		wantUndone(t, list, false)
	}
}

// wantBadEffectsFail fails if effects that are not valid have a sum.
func wantBadEffectsFail(t *testing.T) {
	t.Helper()
	for _, list := range badEffects() {
		wantNet(t, list, 0)
	}
}

// wantSaga fails if steps of which one fails have other effects, or fail otherwise.
func wantSaga(t *testing.T, list []impl.Step, fails int, ok bool, want ...int) {
	t.Helper()
	if got, gotOk := impl.RunSaga(list, fails); gotOk != ok || !slices.Equal(got, want) {
		t.Errorf("RunSaga(%v, %d) = %v, %v, want %v, %v", list, fails, got, gotOk, want, ok)
	}
}

func wantNet(t *testing.T, list []int, want int) {
	t.Helper()
	if got := impl.NetEffect(list); got != want {
		t.Errorf("NetEffect(%v) = %d, want %d", list, got, want)
	}
}

func wantUndone(t *testing.T, list []impl.Step, want bool) {
	t.Helper()
	if got := impl.CanUndo(list); got != want {
		t.Errorf("CanUndo(%v) = %v", list, got)
	}
}
