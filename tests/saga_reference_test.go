package tests

import (
	"slices"

	"loop.example/processengine/impl"
)

// The rules for sagas a second time, and in another way: what a step does and undoes is put around
// what the steps behind it do, and sums are made of pairs.

func wantedSteps(list []impl.Step) bool {
	return len(list) <= 10 && !slices.ContainsFunc(list, func(s impl.Step) bool { return s.Do != clip(s.Do) || s.Undo != clip(s.Undo) })
}

// around returns the effects of steps from the first one on, if so many succeed.
func around(list []impl.Step, succeed int) []int {
	if succeed == 0 {
		return nil
	}
	return slices.Concat([]int{list[0].Do}, around(list[1:], succeed-1), []int{list[0].Undo})
}

func wantedSaga(list []impl.Step, fails int) ([]int, bool) {
	if !wantedSteps(list) {
		return nil, false
	}
	if fails >= 0 && fails < len(list) {
		return around(list, fails), false
	}
	return around(list, len(list))[:len(list)], true
}

func wantedNet(list []int) int {
	if len(list) > 20 || slices.ContainsFunc(list, func(n int) bool { return n != clip(n) }) {
		return 0
	}
	switch len(list) {
	case 0:
		return 0
	case 1:
		return list[0]
	}
	half := len(list) / 2
	return wantedNet(list[:half]) + wantedNet(list[half:])
}

func wantedUndo(list []impl.Step) bool {
	return wantedSteps(list) && !slices.ContainsFunc(list, func(s impl.Step) bool { return s.Do+s.Undo != 0 })
}
