package tests

import (
	"math"
	"slices"
	"testing"

	"loop.example/processengine/impl"
)

var zeros = []int{0, 0, 0, 0}

func TestConditionConstants(t *testing.T) {
	got := []int{impl.Variables, impl.MaxValue, impl.MaxParts, impl.PartNumber, impl.PartVariable, impl.PartNot, impl.PartAdd, impl.PartSubtract, impl.PartAnd, impl.PartOr, impl.PartLess, impl.PartEqual}
	wantList(t, "constants", got, 4, 9999, 12, 0, 1, 2, 3, 4, 5, 6, 7, 8)
}

func TestValidConditionLimits(t *testing.T) {
	for _, n := range extremes {
		if got, want := impl.ValidCondition(parts(number(n))), -9999 <= n && n <= 9999; got != want {
			t.Errorf("ValidCondition of the number %d = %v", n, got)
		}
		if got, want := impl.ValidCondition(parts(variable(n))), 0 <= n && n <= 3; got != want {
			t.Errorf("ValidCondition of the variable %d = %v", n, got)
		}
		if got, want := impl.ValidCondition(parts(operator(n))), n == impl.PartNumber || n == impl.PartVariable; got != want {
			t.Errorf("ValidCondition of the kind %d alone = %v", n, got)
		}
		if got, want := impl.ValidCondition(parts(number(1), operator(n))), n == impl.PartNot; got != want {
			t.Errorf("ValidCondition of the kind %d behind one value = %v", n, got)
		}
		if got, want := impl.ValidCondition(parts(number(1), number(2), operator(n))), 3 <= n && n <= 8; got != want {
			t.Errorf("ValidCondition of the kind %d behind two values = %v", n, got)
		}
		for kind := impl.PartNot; kind <= impl.PartEqual; kind++ {
			c := parts(number(1), impl.Part{Kind: kind, Value: n})
			if kind != impl.PartNot {
				c = joined(parts(number(1)), c)
			}
			if got := impl.ValidCondition(c); got != (n == 0) {
				t.Errorf("ValidCondition of the kind %d with the value %d = %v", kind, n, got)
			}
		}
	}
}

func TestValidConditionLength(t *testing.T) {
	for many := 1; many <= 30; many++ {
		if got := impl.ValidCondition(numbersAndNots(many)); got != (many <= 12) {
			t.Errorf("ValidCondition of %d parts = %v", many, got)
		}
	}
	deep := slices.Repeat(parts(number(1)), 6) // as high a stack as 11 parts can make
	deep = append(deep, slices.Repeat(parts(operator(impl.PartAdd)), 5)...)
	if !impl.ValidCondition(deep) || impl.EvalCondition(deep, zeros) != 6 {
		t.Errorf("a condition of six numbers: %d", impl.EvalCondition(deep, zeros))
	}
	if impl.ValidCondition(make([]impl.Part, 100000)) {
		t.Error("ValidCondition of 100000 parts")
	}
}

func TestValidConditionStack(t *testing.T) {
	bad := [][]impl.Part{
		nil,
		{},
		{operator(impl.PartNot)},
		{operator(impl.PartNot), number(1)},
		{operator(impl.PartAdd), number(1), number(2)},
		{number(1), operator(impl.PartAdd)},
		{number(1), operator(impl.PartAdd), number(2)},
		{number(1), operator(impl.PartAdd), number(2), number(3)},
		{number(1), number(2)},
		{number(1), number(2), operator(impl.PartNot)},
		{number(1), number(2), number(3), operator(impl.PartAdd)},
		{number(1), number(2), operator(impl.PartAdd), operator(impl.PartAdd)},
		{number(1), number(10000), operator(impl.PartAdd)},
		{variable(4), number(1), operator(impl.PartAdd)},
	}
	for _, c := range bad {
		wantBadCondition(t, c)
	}
	for _, n := range []int{-10000, 10000, math.MinInt, math.MaxInt} {
		wantBadCondition(t, parts(number(n)))
	}
	wantBadCondition(t, parts(variable(-1)))
	wantBadCondition(t, numbersAndNots(13))
}

// wantBadCondition fails if a function gives a condition that is not valid any other than its one result.
func wantBadCondition(t *testing.T, c []impl.Part) {
	t.Helper()
	if impl.ValidCondition(c) {
		t.Errorf("ValidCondition(%v)", c)
	}
	if n := impl.EvalCondition(c, []int{1, 2, 3, 4}); n != 0 {
		t.Errorf("EvalCondition(%v) = %d", c, n)
	}
	if list := impl.UsedVariables(c); len(list) != 0 {
		t.Errorf("UsedVariables(%v) = %v", c, list)
	}
	if n, ok := impl.NotCondition(c); ok || len(n) != 0 {
		t.Errorf("NotCondition(%v) = %v, %v", c, n, ok)
	}
}

func TestInvalidConditionsWithVariables(t *testing.T) {
	wantBadCondition(t, parts(variable(0), variable(1)))
	wantBadCondition(t, parts(variable(2), operator(impl.PartOr)))
	wantBadCondition(t, parts(variable(2), impl.Part{Kind: impl.PartNot, Value: 1}))
	wantBadCondition(t, parts(variable(2), impl.Part{Kind: 9}))
	wantBadCondition(t, parts(variable(2), impl.Part{Kind: -1}))
	thirteen := numbersAndNots(13)
	thirteen[0] = variable(3)
	wantBadCondition(t, thirteen)
}

func TestEvalConditionOfTwoValues(t *testing.T) {
	for _, x := range []struct{ kind, first, second, want int }{
		{impl.PartAdd, 2, 3, 5}, {impl.PartAdd, 9999, 1, 9999}, {impl.PartAdd, 9998, 1, 9999}, {impl.PartAdd, -9999, -9999, -9999}, {impl.PartAdd, -9998, -1, -9999}, {impl.PartAdd, 9999, -9999, 0},
		{impl.PartSubtract, 2, 3, -1}, {impl.PartSubtract, 3, 2, 1}, {impl.PartSubtract, -9999, 1, -9999}, {impl.PartSubtract, 9999, -9999, 9999}, {impl.PartSubtract, -9999, 9999, -9999}, {impl.PartSubtract, 0, -9999, 9999},
		{impl.PartAnd, 0, 0, 0}, {impl.PartAnd, 0, 5, 0}, {impl.PartAnd, 5, 0, 0}, {impl.PartAnd, 5, 2, 1}, {impl.PartAnd, -5, 2, 1}, {impl.PartAnd, 1, -1, 1},
		{impl.PartOr, 0, 0, 0}, {impl.PartOr, 0, 5, 1}, {impl.PartOr, 5, 0, 1}, {impl.PartOr, 5, 2, 1}, {impl.PartOr, -5, 0, 1}, {impl.PartOr, 1, -1, 1},
		{impl.PartLess, 2, 3, 1}, {impl.PartLess, 3, 2, 0}, {impl.PartLess, 3, 3, 0}, {impl.PartLess, -9999, 9999, 1}, {impl.PartLess, 9999, -9999, 0},
		{impl.PartEqual, 3, 3, 1}, {impl.PartEqual, 3, 2, 0}, {impl.PartEqual, -3, 3, 0}, {impl.PartEqual, 0, 0, 1}, {impl.PartEqual, 9999, 9999, 1},
	} {
		if got := impl.EvalCondition(parts(number(x.first), number(x.second), operator(x.kind)), zeros); got != x.want {
			t.Errorf("EvalCondition of %d, %d and the kind %d = %d, want %d", x.first, x.second, x.kind, got, x.want)
		}
		v := []int{x.first, 0, 0, x.second}
		if got := impl.EvalCondition(parts(variable(0), variable(3), operator(x.kind)), v); got != x.want {
			t.Errorf("EvalCondition with %d, %d and the kind %d = %d, want %d", x.first, x.second, x.kind, got, x.want)
		}
	}
}

func TestEvalConditionOfNot(t *testing.T) {
	for _, n := range []int{-9999, -2, -1, 0, 1, 2, 9999} {
		if got := impl.EvalCondition(parts(number(n), operator(impl.PartNot)), zeros); got != bit(n == 0) {
			t.Errorf("EvalCondition of %d and PartNot = %d", n, got)
		}
	}
}

func TestEvalConditionLimitsEachStep(t *testing.T) {
	for _, x := range []struct {
		want int
		c    []impl.Part
	}{
		{want: 9994, c: parts(number(9999), number(3), operator(impl.PartAdd), number(5), operator(impl.PartSubtract))},
		{want: -9994, c: parts(number(-9999), number(3), operator(impl.PartSubtract), number(5), operator(impl.PartAdd))},
		{want: 1, c: parts(number(9999), number(3), operator(impl.PartAdd), number(9999), operator(impl.PartEqual))},
		{want: 1, c: parts(number(10), number(4), number(3), operator(impl.PartSubtract), operator(impl.PartSubtract), number(9), operator(impl.PartEqual))},
		{want: 3, c: parts(number(10), number(4), operator(impl.PartSubtract), number(3), operator(impl.PartSubtract))},
	} {
		if got := impl.EvalCondition(x.c, zeros); got != x.want {
			t.Errorf("EvalCondition(%v) = %d, want %d", x.c, got, x.want)
		}
	}
}

func TestEvalConditionValues(t *testing.T) {
	c := parts(number(7))
	for n := range 8 {
		if got := impl.EvalCondition(c, make([]int, n)); (got == 7) != (n == 4) || got != 0 && got != 7 {
			t.Errorf("EvalCondition with %d values = %d", n, got)
		}
	}
	if got := impl.EvalCondition(c, nil); got != 0 {
		t.Errorf("EvalCondition without values = %d", got)
	}
	for i := range impl.Variables {
		for _, n := range extremes {
			v := []int{1, 1, 1, 1}
			v[i] = n
			want := 0
			if -9999 <= n && n <= 9999 {
				want = 7
			}
			if got := impl.EvalCondition(c, v); got != want {
				t.Errorf("EvalCondition with %v = %d, want %d", v, got, want)
			}
		}
	}
}

func TestNotConditionLimits(t *testing.T) {
	for many := 1; many <= 14; many++ {
		c := numbersAndNots(many)
		got, ok := impl.NotCondition(c)
		if ok != (many < 12) {
			t.Errorf("NotCondition of %d parts = %v", many, ok)
		}
		var want []impl.Part
		if many < 12 {
			want = joined(c, parts(operator(impl.PartNot)))
		}
		if !slices.Equal(got, want) {
			t.Errorf("NotCondition of %d parts = %v, want %v", many, got, want)
		}
	}
}

// TestAllShortConditions compares all conditions of up to four parts with what they have to be.
func TestAllShortConditions(t *testing.T) {
	alphabet := parts(number(-9999), number(0), number(2), variable(0), variable(3), variable(4))
	for kind := impl.PartNot; kind <= impl.PartEqual+1; kind++ {
		alphabet = append(alphabet, operator(kind))
	}
	lists := [][]impl.Part{nil}
	for i := 0; i < len(lists); i++ {
		compareCondition(t, lists[i], []int{5, 6, 7, -8})
		if len(lists[i]) < 4 {
			for _, p := range alphabet {
				lists = append(lists, joined(lists[i], parts(p)))
			}
		}
	}
}

func TestRandomConditions(t *testing.T) {
	r := newRandom(1)
	for range 20000 {
		c := randomCondition(r, impl.MaxParts)
		if !impl.ValidCondition(c) {
			t.Fatalf("ValidCondition(%v) = false", c)
		}
		compareCondition(t, c, randomValues(r))
		c[r.IntN(len(c))] = impl.Part{Kind: r.IntN(11) - 1, Value: extremes[r.IntN(len(extremes))]}
		compareCondition(t, c, randomValues(r))
	}
}

func compareCondition(t *testing.T, c []impl.Part, v []int) {
	t.Helper()
	if got, want := impl.ValidCondition(c), wantedValid(c); got != want {
		t.Fatalf("ValidCondition(%v) = %v", c, got)
	}
	if got, want := impl.EvalCondition(c, v), wantedValue(c, v); got != want {
		t.Fatalf("EvalCondition(%v, %v) = %d, want %d", c, v, got, want)
	}
	if got, want := impl.UsedVariables(c), wantedVariables(c); !slices.Equal(got, want) {
		t.Fatalf("UsedVariables(%v) = %v, want %v", c, got, want)
	}
	var want []impl.Part
	if wantedValid(c) && len(c) < 12 {
		want = joined(c, parts(impl.Part{Kind: 2}))
	}
	if got, ok := impl.NotCondition(c); !slices.Equal(got, want) || ok != (want != nil) {
		t.Fatalf("NotCondition(%v) = %v, %v", c, got, ok)
	}
}
