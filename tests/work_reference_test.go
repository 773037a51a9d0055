package tests

import (
	"slices"

	"loop.example/processengine/impl"
)

// The rules for worklists a second time, and in another way: everything is looked for from the end, and put together anew.

// wantedWork reports whether a worklist is valid.
func wantedWork(list []impl.Item) bool {
	least := 1000
	for i := len(list) - 1; i >= 0; i-- {
		x := list[i]
		if x.Number >= least || x.Number <= 0 || x.Role < 0 || x.Role >= 6 || x.Owner < 0 || x.Owner >= 10 {
			return false
		}
		least = x.Number
	}
	return len(list) < 13
}

func wantedOffer(list []impl.Item, role int) ([]impl.Item, bool) {
	last := 0
	for _, x := range list {
		last = x.Number
	}
	if !wantedWork(list) || last == 999 || len(list) == 12 || role < 0 || role > 5 {
		return nil, false
	}
	return slices.Concat(list, []impl.Item{{Number: last + 1, Role: role}}), true
}

// wantedPlace returns the index of the item of an owner, or of nobody, with a number, or -1 if there is none.
func wantedPlace(list []impl.Item, number int, owner int) int {
	for i := len(list) - 1; i >= 0; i-- {
		if list[i].Number == number && list[i].Owner == owner {
			return i
		}
	}
	return -1
}

func wantedClaim(list []impl.Item, number int, owner int, roles []int) ([]impl.Item, bool) {
	i := wantedPlace(list, number, 0)
	if !wantedWork(list) || owner < 1 || owner > 9 || i < 0 {
		return nil, false
	}
	for _, role := range roles {
		if x := list[i]; x.Role == role {
			return slices.Concat(list[:i], []impl.Item{{Number: x.Number, Role: x.Role, Owner: owner}}, list[i+1:]), true
		}
	}
	return nil, false
}

func wantedRelease(list []impl.Item, number int, owner int) ([]impl.Item, bool) {
	i := wantedPlace(list, number, owner)
	if !wantedWork(list) || owner == 0 || i < 0 {
		return nil, false
	}
	return slices.Concat(list[:i], []impl.Item{{Number: number, Role: list[i].Role}}, list[i+1:]), true
}

func wantedFinish(list []impl.Item, number int, owner int) ([]impl.Item, bool) {
	i := wantedPlace(list, number, owner)
	if !wantedWork(list) || owner == 0 || i < 0 {
		return nil, false
	}
	return slices.Concat(list[:i], list[i+1:]), true
}

func wantedItems(list []impl.Item, owner int, roles []int) []int {
	if !wantedWork(list) {
		return nil
	}
	var numbers []int
	for i := len(list) - 1; i >= 0; i-- {
		x := list[i]
		mine := x.Owner == owner && owner != 0
		for _, role := range roles {
			mine = mine || x.Owner == 0 && x.Role == role
		}
		if mine {
			numbers = slices.Insert(numbers, 0, x.Number)
		}
	}
	return numbers
}
