package tests

import (
	"slices"
	"testing"

	"loop.example/processengine/impl"
)

// withConditions calls a function with many valid conditions and values.
func withConditions(t *testing.T, most int, f func(c []impl.Part, v []int)) {
	t.Helper()
	r := newRandom(3)
	for range 5000 {
		f(randomCondition(r, most), randomValues(r))
	}
}

func TestPromise2NumbersAndVariablesHaveTheirValues(t *testing.T) {
	v := []int{-9999, 9999, 0, 17}
	for n := -impl.MaxValue; n <= impl.MaxValue; n++ {
		if got := impl.EvalCondition(parts(number(n)), v); got != n {
			t.Fatalf("EvalCondition of the number %d = %d", n, got)
		}
	}
	for i := range impl.Variables {
		if got := impl.EvalCondition(parts(variable(i)), v); got != v[i] {
			t.Errorf("EvalCondition of the variable %d = %d, want %d", i, got, v[i])
		}
	}
	withConditions(t, impl.MaxParts, func(c []impl.Part, v []int) {
		if got := impl.EvalCondition(c, v); got < -impl.MaxValue || got > impl.MaxValue {
			t.Fatalf("EvalCondition(%v, %v) = %d", c, v, got)
		}
	})
}

func TestPromise3ConditionsCanBeJoined(t *testing.T) {
	r := newRandom(4)
	for range 5000 {
		a, b, v := randomCondition(r, 6), randomCondition(r, 5), randomValues(r)
		x, y := impl.EvalCondition(a, v), impl.EvalCondition(b, v)
		if got := impl.EvalCondition(joined(a, b, parts(operator(impl.PartAdd))), v); got != clip(x+y) {
			t.Fatalf("EvalCondition of %v, %v and PartAdd with %v = %d, want %d", a, b, v, got, clip(x+y))
		}
		if got := impl.EvalCondition(joined(a, b, parts(operator(impl.PartEqual))), v); got != bit(x == y) {
			t.Fatalf("EvalCondition of %v, %v and PartEqual with %v = %d", a, b, v, got)
		}
		if len(a) <= 5 && impl.EvalCondition(joined(a, a, parts(operator(impl.PartEqual))), v) != 1 {
			t.Fatalf("%v is not equal to itself", a)
		}
	}
}

func TestPromise4OnlyUsedVariablesMatter(t *testing.T) {
	withConditions(t, impl.MaxParts, func(c []impl.Part, v []int) {
		want := impl.EvalCondition(c, v)
		used := impl.UsedVariables(c)
		for i := range v {
			if slices.Contains(used, i) {
				continue
			}
			for _, n := range []int{-impl.MaxValue, -1, 0, 1, impl.MaxValue} {
				w := slices.Clone(v)
				w[i] = n
				if got := impl.EvalCondition(c, w); got != want {
					t.Fatalf("EvalCondition(%v, %v) = %d, but with %v it is %d", c, w, got, v, want)
				}
			}
		}
	})
}

func TestPromise5VariablesAreToldOnce(t *testing.T) {
	and := operator(impl.PartAnd)
	wantList(t, "UsedVariables of 3, 1, 3", impl.UsedVariables(parts(variable(3), variable(1), and, variable(3), and)), 1, 3)
	wantList(t, "UsedVariables of 3, 2, 1, 0", impl.UsedVariables(parts(variable(3), variable(2), and, variable(1), and, variable(0), and)), 0, 1, 2, 3)
	wantList(t, "UsedVariables of the number 2", impl.UsedVariables(parts(number(2))))
	wantList(t, "UsedVariables of numbers", impl.UsedVariables(parts(number(0), number(1), and, operator(impl.PartNot))))
	wantList(t, "UsedVariables of parts with Value 0", impl.UsedVariables(parts(variable(2), operator(impl.PartNot))), 2)
	withConditions(t, impl.MaxParts, func(c []impl.Part, v []int) {
		if got := impl.UsedVariables(c); !ascends(got) {
			t.Fatalf("UsedVariables(%v) = %v", c, got)
		}
	})
}

func TestPromise6OppositesAreOpposite(t *testing.T) {
	withConditions(t, impl.MaxParts-1, func(c []impl.Part, v []int) {
		n, ok := impl.NotCondition(c)
		if !ok {
			t.Fatalf("NotCondition(%v) fails", c)
		}
		if got := impl.EvalCondition(n, v); got != bit(impl.EvalCondition(c, v) == 0) {
			t.Fatalf("EvalCondition(%v, %v) = %d", n, v, got)
		}
		if got, want := impl.UsedVariables(n), impl.UsedVariables(c); !slices.Equal(got, want) {
			t.Fatalf("UsedVariables(%v) = %v, want %v", n, got, want)
		}
	})
}

func TestPromise122TurningAroundTwiceMakesZeroOrOne(t *testing.T) {
	withConditions(t, impl.MaxParts-2, func(c []impl.Part, v []int) {
		once, _ := impl.NotCondition(c)
		twice, ok := impl.NotCondition(once)
		if !ok {
			t.Fatalf("NotCondition(%v) fails", once)
		}
		if got := impl.EvalCondition(twice, v); got != bit(impl.EvalCondition(c, v) != 0) {
			t.Fatalf("EvalCondition(%v, %v) = %d", twice, v, got)
		}
	})
}

func TestPromise123BothAndOneOfBoth(t *testing.T) {
	withConditions(t, impl.MaxParts-2, func(c []impl.Part, v []int) {
		both := joined(c, parts(number(0), operator(impl.PartAnd)))
		if got := impl.EvalCondition(both, v); got != 0 {
			t.Fatalf("EvalCondition(%v, %v) = %d", both, v, got)
		}
		one := joined(c, parts(number(1), operator(impl.PartOr)))
		if got := impl.EvalCondition(one, v); got != 1 {
			t.Fatalf("EvalCondition(%v, %v) = %d", one, v, got)
		}
	})
}

func TestPromise171JoinedConditionsHaveTheVariablesOfBoth(t *testing.T) {
	withConditions(t, impl.MaxParts-2, func(c []impl.Part, v []int) {
		for i := range impl.Variables {
			want := impl.UsedVariables(c)
			if !slices.Contains(want, i) {
				want = append(want, i)
				slices.Sort(want)
			}
			both := joined(c, parts(variable(i), operator(impl.PartAnd)))
			if got := impl.UsedVariables(both); !slices.Equal(got, want) {
				t.Fatalf("UsedVariables(%v) = %v, want %v", both, got, want)
			}
		}
	})
}
