package tests

import (
	"math/rand/v2"
	"slices"
	"testing"

	"loop.example/processengine/impl"
)

func TestPromise111WhatFailsIsUndone(t *testing.T) {
	failed := 0
	withSagas(t, func(r *rand.Rand, list []impl.Step) {
		for _, fails := range noStep(list) {
			wantSaga(t, list, fails, true, dosOf(list)...)
		}
		for fails := range list {
			effects, ok := impl.RunSaga(list, fails)
			if ok || len(effects) != 2*fails || !slices.Equal(effects[:fails], dosOf(list[:fails])) || !slices.Equal(effects[fails:], undosOf(list[:fails])) {
				t.Fatalf("RunSaga(%v, %d) = %v, %v", list, fails, effects, ok)
			}
			failed += bit(fails > 0)
		}
		if t.Failed() {
			t.FailNow()
		}
	})
	if failed < 5000 {
		t.Errorf("%d sagas that fail test too little", failed)
	}
	wantBadStepsFail(t)
}

func TestPromise112UndoneSagasHaveNoEffect(t *testing.T) {
	undone, not := 0, 0
	withSagas(t, func(r *rand.Rand, list []impl.Step) {
		for fails := -1; fails <= len(list); fails++ {
			effects, ok := impl.RunSaga(list, fails)
			net := impl.NetEffect(effects)
			if ok != (fails < 0 || fails == len(list)) || ok && net != sumOf(dosOf(list)) {
				t.Fatalf("NetEffect of RunSaga(%v, %d) = %v, %v is %d", list, fails, effects, ok, net)
			}
			if !ok && impl.CanUndo(list[:fails]) && net != 0 {
				t.Fatalf("NetEffect of RunSaga(%v, %d) = %v is %d", list, fails, effects, net)
			}
			undone += bit(!ok && fails > 0 && impl.CanUndo(list))
			not += bit(!ok && net != 0)
		}
	})
	if min(undone, not) < 1000 {
		t.Errorf("%d sagas that are undone, and %d that have an effect, test too little", undone, not)
	}
	// It is the steps, not what comes of them, that can be undone or not.
	wantUndone(t, steps(step(5, 5), step(-5, -5)), false)
	wantBadStepsFail(t)
	wantBadEffectsFail(t)
}

// randomEffects returns effects, at most so many.
func randomEffects(r *rand.Rand, most int) []int {
	var list []int
	many := r.IntN(most + 1)
	if r.IntN(4) == 0 {
		many = most
	}
	for range many {
		list = append(list, randomValue(r))
	}
	return list
}

func TestPromise113EffectsAddUp(t *testing.T) {
	r := newRandom(89)
	full := 0
	for range 10000 {
		list := randomEffects(r, 2*impl.MaxSaga)
		full += bit(len(list) == 2*impl.MaxSaga)
		i := r.IntN(len(list) + 1)
		if got, first, others := impl.NetEffect(list), impl.NetEffect(list[:i]), impl.NetEffect(list[i:]); got != first+others || got != sumOf(list) {
			t.Fatalf("NetEffect(%v) = %d, but up to %d it is %d, and then %d", list, got, i, first, others)
		}
		other := slices.Clone(list)
		r.Shuffle(len(other), func(i, j int) { other[i], other[j] = other[j], other[i] })
		if got, want := impl.NetEffect(other), impl.NetEffect(list); got != want {
			t.Fatalf("NetEffect(%v) = %d, but in another order it is %d", list, want, got)
		}
	}
	if full < 1000 {
		t.Errorf("%d times as many effects as the limit test too little", full)
	}
	for _, n := range []int{-impl.MaxValue, -1, 0, 1, impl.MaxValue} {
		wantNet(t, []int{n}, n)
	}
	wantBadEffectsFail(t)
}

func TestPromise114StepsThatCannotBeUndoneAreTold(t *testing.T) {
	yes, no := 0, 0
	withSagas(t, func(r *rand.Rand, list []impl.Step) {
		for i := range len(list) + 1 {
			if all, first, others := impl.CanUndo(list), impl.CanUndo(list[:i]), impl.CanUndo(list[i:]); all != (first && others) {
				t.Fatalf("CanUndo(%v) = %v, but up to %d it is %v, and then %v", list, all, i, first, others)
			}
		}
		for _, s := range list {
			if impl.CanUndo(list) && s.Undo != -s.Do {
				t.Fatalf("CanUndo(%v)", list)
			}
		}
		yes += bit(len(list) > 0 && impl.CanUndo(list))
		no += bit(!impl.CanUndo(list))
	})
	if min(yes, no) < 1000 {
		t.Errorf("%d sagas that can be undone and %d that cannot test too little", yes, no)
	}
	wantUndone(t, nil, true)
	wantBadStepsFail(t)
}

func TestPromise160WhatBeginsWithAFailureDoesNothing(t *testing.T) {
	withSagas(t, func(r *rand.Rand, list []impl.Step) {
		if wantSaga(t, list, 0, len(list) == 0); t.Failed() {
			t.FailNow()
		}
		for _, fails := range noStep(list) {
			if _, ok := impl.RunSaga(list, fails); !ok {
				t.Fatalf("RunSaga(%v, %d) fails", list, fails)
			}
		}
	})
	wantBadStepsFail(t)
}

func TestPromise161EffectsCanBeTakenBack(t *testing.T) {
	r := newRandom(90)
	for range 10000 {
		list := randomEffects(r, 2*impl.MaxSaga)
		var back []int
		for _, n := range list {
			back = append(back, -n)
		}
		if got, want := impl.NetEffect(back), -impl.NetEffect(list); got != want || want != -sumOf(list) {
			t.Fatalf("NetEffect(%v) = %d, want %d", back, got, want)
		}
		if len(list) <= impl.MaxSaga {
			wantNet(t, slices.Concat(list, back), 0)
		}
	}
	for n := -impl.MaxValue; n <= impl.MaxValue; n++ {
		if got, back := impl.NetEffect([]int{n}), impl.NetEffect([]int{-n}); got != n || back != -n {
			t.Fatalf("NetEffect of %d = %d, and of %d it is %d", n, got, -n, back)
		}
	}
	wantBadEffectsFail(t)
}

func TestPromise162UndoingIsTheOpposite(t *testing.T) {
	r := newRandom(91)
	for do := -impl.MaxValue; do <= impl.MaxValue; do++ {
		for _, undo := range []int{-do, do, -do - 1, -do + 1, 0, randomValue(r), -impl.MaxValue, impl.MaxValue} {
			valid := -impl.MaxValue <= undo && undo <= impl.MaxValue
			if wantUndone(t, steps(step(do, undo)), valid && undo == -do); t.Failed() {
				t.FailNow()
			}
		}
	}
	wantBadStepsFail(t)
}
