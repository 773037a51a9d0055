package tests

import (
	"math/rand/v2"
	"slices"
	"sync"
	"testing"

	"loop.example/processengine/impl"
)

func item(number int, role int, owner int) impl.Item {
	return impl.Item{Number: number, Role: role, Owner: owner}
}

// work returns a new worklist; no two worklists share memory.
func work(list ...impl.Item) []impl.Item { return slices.Clone(list) }

// without returns a new list without its element with an index.
func without[T any](list []T, i int) []T { return slices.Concat(list[:i], list[i+1:]) }

// numbersOf returns the numbers of the items of a worklist, in order.
func numbersOf(list []impl.Item) []int {
	var numbers []int
	for _, x := range list {
		numbers = append(numbers, x.Number)
	}
	return numbers
}

// owned returns a new worklist in which an item has an owner.
func owned(list []impl.Item, number int, owner int) []impl.Item {
	next := work(list...)
	for i := range next {
		if next[i].Number == number {
			next[i].Owner = owner
		}
	}
	return next
}

// allRoles returns all roles.
func allRoles() []int { return []int{0, 1, 2, 3, 4, 5} }

// fullWork returns a worklist with as many items as the limit allows, in which all roles and most owners have items.
func fullWork() []impl.Item {
	var list []impl.Item
	for i := range 12 {
		list = append(list, item(80*i+1, i%6, i%10))
	}
	return list
}

// randomWork returns a valid worklist, in which some items belong to nobody, and the last one often has a number near the limit.
func randomWork(r *rand.Rand) []impl.Item {
	numbers := map[int]bool{}
	most := []int{12, 15, 100, impl.MaxNumber}[r.IntN(4)]
	many := r.IntN(13) // a limit that is too great must not make this endless
	for len(numbers) < many {
		numbers[1+r.IntN(most)] = true
	}
	if many > 0 && r.IntN(3) == 0 {
		delete(numbers, slices.Max(keysOf(numbers)))
		numbers[impl.MaxNumber-r.IntN(3)] = true
	}
	var list []impl.Item
	for _, number := range keysOf(numbers) {
		list = append(list, item(number, r.IntN(impl.MaxRole+1), r.IntN(2)*r.IntN(impl.MaxOwner+1)))
	}
	return list
}

// keysOf returns the keys of a map, ascending.
func keysOf[V any](m map[int]V) []int {
	var keys []int
	for key := range m {
		keys = append(keys, key)
	}
	slices.Sort(keys)
	return keys
}

// randomRoles returns some roles, in no order, often none, and often one of them twice.
func randomRoles(r *rand.Rand) []int {
	var roles []int
	for range r.IntN(5) {
		roles = append(roles, r.IntN(impl.MaxRole+1))
	}
	return roles
}

// askedNumber returns a number that often is one of a worklist.
func askedNumber(r *rand.Rand, list []impl.Item) int {
	if len(list) == 0 || r.IntN(6) == 0 {
		return anyNumber(r)
	}
	return list[r.IntN(len(list))].Number
}

// askedRoles returns roles that often have that of the item with a number, and sometimes are any numbers.
func askedRoles(r *rand.Rand, list []impl.Item, number int) []int {
	roles := randomRoles(r)
	if r.IntN(5) == 0 {
		roles = anyNumbers(r, 3)
	}
	if i := slices.Index(numbersOf(list), number); i >= 0 && r.IntN(2) == 0 {
		roles = slices.Insert(roles, r.IntN(len(roles)+1), list[i].Role)
	}
	return roles
}

// askedOwner returns an owner that often has the item with a number.
func askedOwner(r *rand.Rand, list []impl.Item, number int) int {
	i := slices.Index(numbersOf(list), number)
	switch {
	case i >= 0 && r.IntN(2) == 0:
		return list[i].Owner
	case r.IntN(6) == 0:
		return anyNumber(r)
	}
	return 1 + r.IntN(impl.MaxOwner)
}

// alteredWork returns a worklist with one thing changed, so that often it is not valid any more.
func alteredWork(r *rand.Rand, list []impl.Item) []impl.Item {
	next := work(list...)
	if len(list) == 0 {
		return append(next, item(anyNumber(r), r.IntN(6), r.IntN(10)))
	}
	i := r.IntN(len(list))
	switch k := r.IntN(6); k {
	case 0:
		next = append(next, item(next[len(next)-1].Number+1, r.IntN(6), r.IntN(10)))
	case 1:
		next = slices.Insert(next, i, next[i])
	case 2:
		next[0], next[i] = next[i], next[0]
	default:
		*[]*int{&next[i].Number, &next[i].Role, &next[i].Owner}[k-3] = anyNumber(r)
	}
	return next
}

// worklists returns many valid worklists. Nobody may change them.
var worklists = sync.OnceValue(func() [][]impl.Item {
	r := newRandom(31)
	list := [][]impl.Item{nil, fullWork(), work(item(1, 0, 0)), work(item(impl.MaxNumber, impl.MaxRole, impl.MaxOwner))}
	for range 5000 {
		list = append(list, randomWork(r))
	}
	return list
})

// withWork calls a function with many valid worklists.
func withWork(t *testing.T, f func(r *rand.Rand, list []impl.Item)) {
	t.Helper()
	r := newRandom(32)
	for _, list := range worklists() {
		f(r, list)
	}
}

// badWork returns worklists that are not valid, each for one reason alone.
func badWork() [][]impl.Item {
	bad := [][]impl.Item{
		work(append(fullWork(), item(999, 0, 0))...),
		work(item(1, 0, 0), item(1, 0, 0)),
		work(item(2, 0, 0), item(1, 0, 0)),
		work(item(1, 2, 3), item(3, 2, 0), item(2, 2, 3)),
		work(item(1, 2, 3), item(5, 2, 0), item(5, 2, 3), item(9, 2, 0)),
		work(item(999, 1, 0), item(1, 1, 0)),
		work(item(0, 1, 0), item(1, 1, 0)),
		work(item(0, 1, 3), item(1, 1, 3)),
		work(item(1, 1, 0), item(1000, 1, 0)),
		work(item(1, 1, 3), item(1000, 1, 3)),
	}
	for _, n := range outside(impl.MaxRole) {
		bad = append(bad, work(item(1, 2, 0), item(2, n, 0)), work(item(1, n, 3), item(2, 2, 3)))
	}
	for _, n := range outside(impl.MaxOwner) {
		bad = append(bad, work(item(1, 2, 0), item(2, 2, n)), work(item(1, 2, n), item(2, 2, 3)))
	}
	return bad
}

func wantOffered(t *testing.T, what string, list []impl.Item, role int, want []impl.Item) {
	t.Helper()
	if got, ok := impl.OfferItem(list, role); !ok || !slices.Equal(got, want) {
		t.Errorf("%s: OfferItem(%v, %d) = %v, %v, want %v", what, list, role, got, ok, want)
	}
}

func wantNotOffered(t *testing.T, what string, list []impl.Item, role int) {
	t.Helper()
	if got, ok := impl.OfferItem(list, role); ok || got != nil {
		t.Errorf("%s: OfferItem(%v, %d) = %v, %v", what, list, role, got, ok)
	}
}

func wantClaimed(t *testing.T, what string, list []impl.Item, number int, owner int, roles []int, want []impl.Item) {
	t.Helper()
	if got, ok := impl.ClaimItem(list, number, owner, roles); !ok || !slices.Equal(got, want) {
		t.Errorf("%s: ClaimItem(%v, %d, %d, %v) = %v, %v, want %v", what, list, number, owner, roles, got, ok, want)
	}
}

func wantNotClaimed(t *testing.T, what string, list []impl.Item, number int, owner int, roles []int) {
	t.Helper()
	if got, ok := impl.ClaimItem(list, number, owner, roles); ok || got != nil {
		t.Errorf("%s: ClaimItem(%v, %d, %d, %v) = %v, %v", what, list, number, owner, roles, got, ok)
	}
}

// wantGivenUp fails if an owner cannot release and finish an item.
func wantGivenUp(t *testing.T, what string, list []impl.Item, number int, owner int, released []impl.Item, finished []impl.Item) {
	t.Helper()
	if got, ok := impl.ReleaseItem(list, number, owner); !ok || !slices.Equal(got, released) {
		t.Errorf("%s: ReleaseItem(%v, %d, %d) = %v, %v, want %v", what, list, number, owner, got, ok, released)
	}
	if got, ok := impl.FinishItem(list, number, owner); !ok || !slices.Equal(got, finished) {
		t.Errorf("%s: FinishItem(%v, %d, %d) = %v, %v, want %v", what, list, number, owner, got, ok, finished)
	}
}

func wantNotReleased(t *testing.T, what string, list []impl.Item, number int, owner int) {
	t.Helper()
	if got, ok := impl.ReleaseItem(list, number, owner); ok || got != nil {
		t.Errorf("%s: ReleaseItem(%v, %d, %d) = %v, %v", what, list, number, owner, got, ok)
	}
}

func wantNotFinished(t *testing.T, what string, list []impl.Item, number int, owner int) {
	t.Helper()
	if got, ok := impl.FinishItem(list, number, owner); ok || got != nil {
		t.Errorf("%s: FinishItem(%v, %d, %d) = %v, %v", what, list, number, owner, got, ok)
	}
}
