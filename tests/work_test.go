package tests

import (
	"math"
	"math/rand/v2"
	"slices"
	"testing"

	"loop.example/processengine/impl"
)

func TestWorkConstants(t *testing.T) {
	wantList(t, "limits", []int{impl.MaxNumber, impl.MaxRole, impl.MaxItems, impl.MaxOwner}, 999, 5, 12, 9)
}

func wantValidWork(t *testing.T, what string, list []impl.Item, want bool) {
	t.Helper()
	if got := impl.ValidWork(list); got != want {
		t.Errorf("%s: ValidWork(%v) = %v", what, list, got)
	}
}

func TestValidWork(t *testing.T) {
	wantValidWork(t, "nil", nil, true)
	wantValidWork(t, "an empty list", []impl.Item{}, true)
	wantValidWork(t, "the least numbers", work(item(1, 0, 0)), true)
	wantValidWork(t, "the greatest numbers", work(item(999, 5, 9)), true)
	wantValidWork(t, "the number 0", work(item(0, 0, 0)), false)
	wantValidWork(t, "the numbers at both limits", work(item(1, 5, 9), item(999, 0, 0)), true)
	wantValidWork(t, "numbers with gaps", work(item(3, 2, 0), item(4, 2, 0), item(17, 2, 3)), true)
	wantValidWork(t, "the same role and owner", work(item(1, 2, 3), item(2, 2, 3), item(3, 2, 3)), true)
	wantValidWork(t, "as many items as the limit", fullWork(), true)
	for _, many := range []int{13, 14, 100, 999} {
		var list []impl.Item
		for i := range many {
			list = append(list, item(i+1, 0, 0))
		}
		wantValidWork(t, "too many items", list, false)
		wantValidWork(t, "as many of them as the limit", list[:12], true)
		wantValidWork(t, "the last ones of them", list[many-12:], true)
	}
	wantValidWork(t, "far too many items", slices.Repeat(work(item(1, 2, 3)), 100000), false)
	for _, list := range badWork() {
		wantValidWork(t, "a bad one", list, false)
	}
	for _, n := range []int{math.MinInt, -1, 0, 1000, math.MaxInt} {
		wantValidWork(t, "a number outside its range", work(item(n, 2, 3)), false)
	}
	for i := range 12 { // one bad item at each place
		for k, bad := range []impl.Item{item(80*i+1, 6, 0), item(80*i+1, -1, 0), item(80*i+1, 0, 10), item(80*i+1, 0, -1), item(80*i+1-81, 0, 0), item(80*i+1+1000, 0, 0)} {
			list := fullWork()
			list[i] = bad
			wantValidWork(t, "a full one with a bad item", list, false)
			if list[i] = item(80*i+1, k, k); !impl.ValidWork(list) {
				t.Errorf("%v is not valid", list)
			}
		}
	}
}

// wantBadWork fails if a function succeeds for a worklist that is not valid.
func wantBadWork(t *testing.T, list []impl.Item) {
	t.Helper()
	wantValidWork(t, "a bad one", list, false)
	for role := -1; role <= 6; role++ {
		wantNotOffered(t, "a worklist that is not valid", list, role)
	}
	for _, number := range slices.Concat([]int{0, 1, 2, 999}, numbersOf(list[:min(len(list), 20)])) {
		for owner := -1; owner <= 10; owner++ {
			wantNotClaimed(t, "a worklist that is not valid", list, number, owner, []int{-1, 0, 1, 2, 3, 4, 5, 6})
			wantNotReleased(t, "a worklist that is not valid", list, number, owner)
			wantNotFinished(t, "a worklist that is not valid", list, number, owner)
		}
	}
	for _, owner := range extremes {
		for _, roles := range [][]int{nil, {2}, allRoles(), extremes} {
			if got := impl.ItemsFor(list, owner, roles); got != nil {
				t.Errorf("ItemsFor(%v, %d, %v) = %v", list, owner, roles, got)
			}
		}
	}
}

func TestWorklistsThatAreNotValid(t *testing.T) {
	for _, list := range badWork() {
		wantBadWork(t, list)
	}
	wantBadWork(t, work(item(0, 2, 0)))
	wantBadWork(t, work(item(1000, 2, 3)))
	wantBadWork(t, work(item(math.MaxInt, 2, 3)))
	wantBadWork(t, work(item(math.MinInt, 2, 0)))
	wantBadWork(t, slices.Repeat(work(item(1, 2, 3)), 1000))
}

func TestOfferItem(t *testing.T) {
	for role := range 6 {
		wantOffered(t, "nothing", nil, role, work(item(1, role, 0)))
		wantOffered(t, "an empty list", []impl.Item{}, role, work(item(1, role, 0)))
		wantOffered(t, "behind one", work(item(1, 2, 3)), role, work(item(1, 2, 3), item(2, role, 0)))
		wantOffered(t, "behind one with a greater number", work(item(7, 2, 0)), role, work(item(7, 2, 0), item(8, role, 0)))
		wantOffered(t, "behind several with gaps", work(item(2, 2, 9), item(5, 0, 0), item(70, 1, 1)), role, work(item(2, 2, 9), item(5, 0, 0), item(70, 1, 1), item(71, role, 0)))
		wantOffered(t, "up to the largest number", work(item(998, 5, 9)), role, work(item(998, 5, 9), item(999, role, 0)))
	}
	for _, role := range outside(5) {
		wantNotOffered(t, "a role outside its range", nil, role)
		wantNotOffered(t, "a role outside its range", work(item(1, 2, 0), item(4, 5, 9)), role)
	}
	wantNotOffered(t, "the largest number is taken", work(item(999, 2, 0)), 2)
	wantNotOffered(t, "the largest number is taken", work(item(1, 2, 0), item(999, 2, 4)), 0)
	full := fullWork()
	wantNotOffered(t, "as many as the limit", full, 2)
	wantOffered(t, "one less than the limit", full[:11], 2, append(work(full[:11]...), item(802, 2, 0)))
	var list []impl.Item
	for i := range 12 {
		next, ok := impl.OfferItem(list, i%6)
		if want := append(work(list...), item(i+1, i%6, 0)); !ok || !slices.Equal(next, want) {
			t.Fatalf("OfferItem(%v, %d) = %v, %v", list, i%6, next, ok)
		}
		list = next
	}
	wantNotOffered(t, "one more than the limit", list, 0)
}

func TestClaimItem(t *testing.T) {
	list := work(item(2, 3, 0), item(5, 0, 0), item(8, 3, 4), item(999, 5, 0))
	wantClaimed(t, "the first one", list, 2, 7, []int{3}, owned(list, 2, 7))
	wantClaimed(t, "one between", list, 5, 7, []int{0}, owned(list, 5, 7))
	wantClaimed(t, "the last one", list, 999, 7, []int{5}, owned(list, 999, 7))
	wantClaimed(t, "more roles", list, 5, 7, []int{4, 0, 2}, owned(list, 5, 7))
	wantClaimed(t, "all roles", list, 5, 7, allRoles(), owned(list, 5, 7))
	wantClaimed(t, "a role twice", list, 5, 7, []int{0, 0}, owned(list, 5, 7))
	wantClaimed(t, "a role as the last one", list, 2, 7, []int{5, 4, 5, 3}, owned(list, 2, 7))
	wantClaimed(t, "an owner of other items", list, 2, 4, []int{3}, owned(list, 2, 4))
	for owner := 1; owner <= 9; owner++ {
		wantClaimed(t, "an owner in its range", list, 2, owner, []int{3}, owned(list, 2, owner))
	}
	for _, owner := range append(outside(9), 0) {
		wantNotClaimed(t, "an owner outside the range", list, 2, owner, []int{3})
		wantNotClaimed(t, "an owner outside the range", list, 8, owner, []int{3})
		wantNotClaimed(t, "an owner outside the range", list, 999, owner, allRoles())
	}
	for _, number := range []int{math.MinInt, -1, 0, 1, 3, 9, 998, 1000, math.MaxInt} {
		wantNotClaimed(t, "no such item", list, number, 7, allRoles())
		wantNotClaimed(t, "no such item", nil, number, 7, allRoles())
	}
	for owner := 1; owner <= 9; owner++ {
		wantNotClaimed(t, "it has an owner", list, 8, owner, []int{3})
		wantNotClaimed(t, "it has an owner", list, 8, owner, allRoles())
	}
	wantNotClaimed(t, "no roles", list, 2, 7, nil)
	wantNotClaimed(t, "no roles", list, 5, 7, nil)
	wantNotClaimed(t, "empty roles", list, 5, 7, []int{})
	wantNotClaimed(t, "another role", list, 2, 7, []int{2})
	wantNotClaimed(t, "all other roles", list, 2, 7, []int{0, 1, 2, 4, 5})
	wantNotClaimed(t, "the role of another item", list, 5, 7, []int{3, 5})
	wantNotClaimed(t, "the numbers of the item and of the owner as roles", list, 2, 4, []int{2, 4})
	wantNotClaimed(t, "only roles outside their range", list, 2, 7, outside(5))
}

// TestClaimItemWithOtherNumbersBesideTheRole holds how the document is read where it does not say it:
// numbers that are no roles do no harm beside the role of the item, for the section gives the roles no range.
func TestClaimItemWithOtherNumbersBesideTheRole(t *testing.T) {
	list := work(item(2, 3, 0), item(5, 0, 0), item(8, 3, 4))
	for _, n := range outside(5) {
		wantClaimed(t, "behind the role", list, 2, 7, []int{3, n}, owned(list, 2, 7))
		wantClaimed(t, "before the role", list, 5, 7, []int{n, 0}, owned(list, 5, 7))
	}
	many := append(slices.Repeat([]int{1, 2, 4, 5}, 1000), 3)
	wantClaimed(t, "more roles than there are", list, 2, 7, many, owned(list, 2, 7))
	wantNotClaimed(t, "more roles than there are, but not the one", list, 5, 7, many)
}

func TestReleaseAndFinishItem(t *testing.T) {
	list := work(item(1, 3, 7), item(5, 0, 0), item(8, 3, 4), item(9, 0, 7), item(999, 5, 9))
	wantGivenUp(t, "the first one", list, 1, 7, owned(list, 1, 0), without(list, 0))
	wantGivenUp(t, "one between", list, 8, 4, owned(list, 8, 0), without(list, 2))
	wantGivenUp(t, "another one of the owner", list, 9, 7, owned(list, 9, 0), without(list, 3))
	wantGivenUp(t, "the last one", list, 999, 9, owned(list, 999, 0), without(list, 4))
	wantGivenUp(t, "the only one", work(item(1, 0, 1)), 1, 1, work(item(1, 0, 0)), nil)
	for i := range 12 { // a full worklist
		full := fullWork()
		if owner := full[i].Owner; owner != 0 {
			wantGivenUp(t, "a full one", full, full[i].Number, owner, owned(full, full[i].Number, 0), without(full, i))
		}
	}
	wantNot := func(what string, list []impl.Item, number int, owner int) {
		t.Helper()
		wantNotReleased(t, what, list, number, owner)
		wantNotFinished(t, what, list, number, owner)
	}
	for _, x := range list {
		for owner := -1; owner <= 10; owner++ {
			if owner != x.Owner || owner == 0 {
				wantNot("another owner", list, x.Number, owner)
			}
		}
		for _, owner := range append(outside(9), 0) {
			wantNot("an owner outside the range", list, x.Number, owner)
		}
	}
	for _, number := range []int{math.MinInt, -1, 0, 2, 7, 998, 1000, math.MaxInt} {
		for owner := -1; owner <= 10; owner++ {
			wantNot("no such item", list, number, owner)
			wantNot("no items", nil, number, owner)
		}
	}
}

func wantItemsFor(t *testing.T, what string, list []impl.Item, owner int, roles []int, want ...int) {
	t.Helper()
	if got := impl.ItemsFor(list, owner, roles); !slices.Equal(got, want) {
		t.Errorf("%s: ItemsFor(%v, %d, %v) = %v, want %v", what, list, owner, roles, got, want)
	}
}

func TestItemsFor(t *testing.T) {
	list := work(item(2, 3, 0), item(5, 0, 0), item(8, 3, 4), item(9, 0, 4), item(20, 0, 7), item(30, 3, 0), item(999, 5, 9))
	wantItemsFor(t, "nobody", list, 0, nil)
	wantItemsFor(t, "nobody with a role", list, 0, []int{3}, 2, 30)
	wantItemsFor(t, "nobody with the role 0", list, 0, []int{0}, 5)
	wantItemsFor(t, "nobody with all roles", list, 0, allRoles(), 2, 5, 30)
	wantItemsFor(t, "an owner without roles", list, 4, nil, 8, 9)
	wantItemsFor(t, "an owner with no roles", list, 4, []int{}, 8, 9)
	wantItemsFor(t, "an owner with a role", list, 4, []int{3}, 2, 8, 9, 30)
	wantItemsFor(t, "an owner with another role", list, 4, []int{0}, 5, 8, 9)
	wantItemsFor(t, "an owner with several roles", list, 4, []int{3, 0}, 2, 5, 8, 9, 30)
	wantItemsFor(t, "an owner with a role twice", list, 4, []int{3, 3, 3}, 2, 8, 9, 30)
	wantItemsFor(t, "an owner with a role that only others use", list, 4, []int{5}, 8, 9)
	wantItemsFor(t, "the greatest owner", list, 9, nil, 999)
	wantItemsFor(t, "an owner without items", list, 1, nil)
	wantItemsFor(t, "an owner without items, with all roles", list, 1, allRoles(), 2, 5, 30)
	for _, owner := range outside(9) {
		wantItemsFor(t, "any number as owner", list, owner, nil)
		wantItemsFor(t, "any number as owner, with a role", list, owner, []int{3}, 2, 30)
		wantItemsFor(t, "any number as owner, with all roles", list, owner, allRoles(), 2, 5, 30)
		wantItemsFor(t, "any number as owner of nothing", nil, owner, allRoles())
	}
	for _, n := range outside(5) {
		wantItemsFor(t, "any number as role", list, 4, []int{n}, 8, 9)
		wantItemsFor(t, "any number as role of nobody", list, 0, []int{n})
		wantItemsFor(t, "any number beside a role", list, 4, []int{n, 3}, 2, 8, 9, 30)
		wantItemsFor(t, "any number behind a role", list, 7, []int{0, n}, 5, 20)
	}
	wantItemsFor(t, "many roles", list, 4, slices.Repeat(allRoles(), 1000), 2, 5, 8, 9, 30)
	wantItemsFor(t, "no items", nil, 4, allRoles())
	wantItemsFor(t, "an empty worklist", []impl.Item{}, 4, allRoles())
	full := fullWork()
	wantItemsFor(t, "a full one", full, 3, allRoles(), 1, 241, 801)
	for owner := range 10 {
		wantItemsFor(t, "all items of one owner", owned(work(item(1, 2, 0)), 1, owner), owner, []int{2}, 1)
	}
}

// TestRandomWork compares the functions for many worklists, valid or not, with what they have to be.
func TestRandomWork(t *testing.T) {
	done := map[string]int{}
	same := func(what string, list []impl.Item, got []impl.Item, ok bool, want []impl.Item, wantOk bool) {
		t.Helper()
		if ok != wantOk || !slices.Equal(got, want) {
			t.Fatalf("%s of %v: %v, %v, want %v, %v", what, list, got, ok, want, wantOk)
		}
		done[what] += bit(ok)
		done["not "+what] += bit(!ok && wantedWork(list))
	}
	withWork(t, func(r *rand.Rand, list []impl.Item) {
		for range 4 {
			if r.IntN(3) == 0 {
				list = alteredWork(r, list)
			}
			if got, want := impl.ValidWork(list), wantedWork(list); got != want {
				t.Fatalf("ValidWork(%v) = %v", list, got)
			}
			number := askedNumber(r, list)
			owner, roles := askedOwner(r, list, number), askedRoles(r, list, number)
			role := []int{r.IntN(6), r.IntN(6), anyNumber(r)}[r.IntN(3)]
			got, ok := impl.OfferItem(list, role)
			want, wantOk := wantedOffer(list, role)
			same("offer", list, got, ok, want, wantOk)
			got, ok = impl.ClaimItem(list, number, owner, roles)
			want, wantOk = wantedClaim(list, number, owner, roles)
			same("claim", list, got, ok, want, wantOk)
			got, ok = impl.ReleaseItem(list, number, owner)
			want, wantOk = wantedRelease(list, number, owner)
			same("release", list, got, ok, want, wantOk)
			got, ok = impl.FinishItem(list, number, owner)
			want, wantOk = wantedFinish(list, number, owner)
			same("finish", list, got, ok, want, wantOk)
			if got, want := impl.ItemsFor(list, owner, roles), wantedItems(list, owner, roles); !slices.Equal(got, want) {
				t.Fatalf("ItemsFor(%v, %d, %v) = %v, want %v", list, owner, roles, got, want)
			}
		}
	})
	for _, what := range []string{"offer", "claim", "release", "finish", "not offer", "not claim", "not release", "not finish"} {
		if done[what] < 1000 {
			t.Errorf("%d times '%s' test too little", done[what], what)
		}
	}
}
