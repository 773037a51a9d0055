package impl

// Variables is the number of variables.
const Variables = 4

// MaxValue is the largest absolute value of a variable.
const MaxValue = 9999

// MaxParts is the largest number of parts of a condition.
const MaxParts = 12

// PartNumber is the part that puts a number.
const PartNumber = 0

// PartVariable is the part that puts the value of a variable.
const PartVariable = 1

// PartNot is the part that turns a value around.
const PartNot = 2

// PartAdd is the part that adds.
const PartAdd = 3

// PartSubtract is the part that subtracts.
const PartSubtract = 4

// PartAnd is the part for both.
const PartAnd = 5

// PartOr is the part for one of both.
const PartOr = 6

// PartLess is the part that compares.
const PartLess = 7

// PartEqual is the part for equal values.
const PartEqual = 8

// Part is a part of a condition.
type Part struct {
	Kind  int
	Value int
}

// stackPart is a part at work on the stack. Every part puts exactly one value,
// so the height of the stack follows from what the parts take.
type stackPart interface {
	// takes returns how many values the part takes from the stack.
	takes() int
	// puts returns the value that the part puts; the last one taken was on top.
	puts(taken []int, variables []int) int
}

// takesNone is embedded by the parts that only put a value.
type takesNone struct{}

func (takesNone) takes() int { return 0 }

// takesTwo is embedded by the parts that make one value of two.
type takesTwo struct{}

func (takesTwo) takes() int { return 2 }

type numberPart struct {
	takesNone
	number int
}

func (p numberPart) puts(taken []int, variables []int) int { return p.number }

type variablePart struct {
	takesNone
	variable int
}

func (p variablePart) puts(taken []int, variables []int) int { return variables[p.variable] }

type notPart struct{}

func (notPart) takes() int { return 1 }

func (notPart) puts(taken []int, variables []int) int { return truth(taken[0] == 0) }

type addPart struct{ takesTwo }

func (addPart) puts(taken []int, variables []int) int { return limited(taken[0] + taken[1]) }

type subtractPart struct{ takesTwo }

func (subtractPart) puts(taken []int, variables []int) int { return limited(taken[0] - taken[1]) }

type andPart struct{ takesTwo }

func (andPart) puts(taken []int, variables []int) int { return truth(taken[0] != 0 && taken[1] != 0) }

type orPart struct{ takesTwo }

func (orPart) puts(taken []int, variables []int) int { return truth(taken[0] != 0 || taken[1] != 0) }

type lessPart struct{ takesTwo }

func (lessPart) puts(taken []int, variables []int) int { return truth(taken[0] < taken[1]) }

type equalPart struct{ takesTwo }

func (equalPart) puts(taken []int, variables []int) int { return truth(taken[0] == taken[1]) }

// truth returns 1 for what holds, and 0 for what does not.
func truth(holds bool) int {
	if holds {
		return 1
	}
	return 0
}

// limited returns the allowed value that is next to a number.
func limited(n int) int {
	return min(max(n, -MaxValue), MaxValue)
}

// validValue reports whether a number is in the range of values.
func validValue(n int) bool {
	return -MaxValue <= n && n <= MaxValue
}

// validValues reports whether there is an allowed value for each variable.
func validValues(v []int) bool {
	if len(v) != Variables {
		return false
	}
	for _, n := range v {
		if !validValue(n) {
			return false
		}
	}
	return true
}

// validVariable reports whether a number is that of a variable.
func validVariable(n int) bool {
	return 0 <= n && n < Variables
}

// partAtWork returns what a part does on the stack; false if it has no allowed Kind or Value.
func partAtWork(p Part) (stackPart, bool) {
	switch p.Kind {
	case PartNumber:
		return numberPart{number: p.Value}, validValue(p.Value)
	case PartVariable:
		return variablePart{variable: p.Value}, validVariable(p.Value)
	}
	s, ok := operatorAtWork(p.Kind)
	return s, ok && p.Value == 0
}

// operatorAtWork returns what a part that takes values does; false for other kinds.
func operatorAtWork(kind int) (stackPart, bool) {
	switch kind {
	case PartNot:
		return notPart{}, true
	case PartAdd:
		return addPart{}, true
	case PartSubtract:
		return subtractPart{}, true
	case PartAnd:
		return andPart{}, true
	case PartOr:
		return orPart{}, true
	case PartLess:
		return lessPart{}, true
	case PartEqual:
		return equalPart{}, true
	}
	return nil, false
}

// partsAtWork returns what the parts of a valid condition do; nil and false for other conditions.
func partsAtWork(c []Part) ([]stackPart, bool) {
	if len(c) > MaxParts {
		return nil, false
	}
	var list []stackPart
	height := 0
	for _, p := range c {
		s, ok := partAtWork(p)
		if !ok || height < s.takes() {
			return nil, false
		}
		height += 1 - s.takes()
		list = append(list, s)
	}
	if height != 1 {
		return nil, false
	}
	return list, true
}

// ValidCondition reports whether a condition is valid.
func ValidCondition(c []Part) bool {
	_, ok := partsAtWork(c)
	return ok
}

// EvalCondition returns the value of a condition.
func EvalCondition(c []Part, v []int) int {
	list, ok := partsAtWork(c)
	if !ok || !validValues(v) {
		return 0
	}
	var stack []int
	for _, s := range list {
		rest := len(stack) - s.takes()
		stack = append(stack[:rest], s.puts(stack[rest:], v))
	}
	return stack[0]
}

// UsedVariables returns the variables of a condition.
func UsedVariables(c []Part) []int {
	if !ValidCondition(c) {
		return nil
	}
	var used [Variables]bool
	for _, p := range c {
		if p.Kind == PartVariable {
			used[p.Value] = true
		}
	}
	var list []int
	for variable, is := range used {
		if is {
			list = append(list, variable)
		}
	}
	return list
}

// NotCondition returns the opposite of a condition.
func NotCondition(c []Part) ([]Part, bool) {
	if !ValidCondition(c) || len(c) == MaxParts {
		return nil, false
	}
	// A new slice, for appending to the argument could write behind its end.
	opposite := make([]Part, 0, len(c)+1)
	opposite = append(opposite, c...)
	return append(opposite, Part{Kind: PartNot}), true
}
