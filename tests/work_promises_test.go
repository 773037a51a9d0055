package tests

import (
	"math/rand/v2"
	"slices"
	"testing"

	"loop.example/processengine/impl"
)

// withOffered calls a function with many items that are offered, the worklists before and behind, and the new item.
func withOffered(t *testing.T, f func(r *rand.Rand, list []impl.Item, next []impl.Item, x impl.Item)) {
	t.Helper()
	first, behind := 0, 0
	withWork(t, func(r *rand.Rand, list []impl.Item) {
		role := r.IntN(impl.MaxRole + 1)
		next, ok := impl.OfferItem(list, role)
		// Only these two limits may be in the way.
		if full := len(list) == impl.MaxItems || len(list) > 0 && list[len(list)-1].Number == impl.MaxNumber; ok == full || !ok && next != nil {
			t.Fatalf("OfferItem(%v, %d) = %v, %v", list, role, next, ok)
		}
		for _, bad := range outside(impl.MaxRole) {
			wantNotOffered(t, "a role outside its range", list, bad)
		}
		if !ok {
			return
		}
		if len(next) == 0 {
			t.Fatalf("OfferItem(%v, %d) has no items", list, role)
		}
		x := next[len(next)-1]
		if x.Role != role {
			t.Fatalf("OfferItem(%v, %d) = %v", list, role, next)
		}
		f(r, list, next, x)
		first += bit(len(list) == 0)
		behind += bit(len(list) > 0)
	})
	if min(first*10, behind) < 1000 {
		t.Errorf("%d first items and %d others test too little", first, behind)
	}
}

// withClaimed calls a function with many items that are claimed, the worklists before and behind, the index of the item, and its owner and their roles.
func withClaimed(t *testing.T, f func(r *rand.Rand, list []impl.Item, next []impl.Item, i int, owner int, roles []int)) {
	t.Helper()
	claimed := 0
	withWork(t, func(r *rand.Rand, list []impl.Item) {
		for i, x := range list {
			owner, roles := 1+r.IntN(impl.MaxOwner), append(randomRoles(r), x.Role)
			r.Shuffle(len(roles), func(i, j int) { roles[i], roles[j] = roles[j], roles[i] })
			next, ok := impl.ClaimItem(list, x.Number, owner, roles)
			if ok != (x.Owner == 0) || !ok && next != nil {
				t.Fatalf("ClaimItem(%v, %d, %d, %v) = %v, %v", list, x.Number, owner, roles, next, ok)
			}
			for _, bad := range append(outside(impl.MaxOwner), 0) {
				wantNotClaimed(t, "an owner outside the range", list, x.Number, bad, roles)
			}
			if ok && !slices.Contains(numbersOf(next), x.Number) {
				t.Fatalf("ClaimItem(%v, %d, %d, %v) = %v", list, x.Number, owner, roles, next)
			}
			if ok {
				f(r, list, next, i, owner, roles)
				claimed++
			}
		}
	})
	if claimed < 5000 {
		t.Errorf("%d claimed items test too little", claimed)
	}
}

// withOwned calls a function with many worklists and the index of each item in them that has an owner.
func withOwned(t *testing.T, f func(r *rand.Rand, list []impl.Item, i int)) {
	t.Helper()
	many, nobodys := 0, 0
	withWork(t, func(r *rand.Rand, list []impl.Item) {
		for i, x := range list {
			if x.Owner > 0 {
				f(r, list, i)
				many++
				continue
			}
			for owner := -1; owner <= impl.MaxOwner+1; owner++ {
				wantNotReleased(t, "an item of nobody", list, x.Number, owner)
				wantNotFinished(t, "an item of nobody", list, x.Number, owner)
			}
			nobodys++
		}
	})
	if min(many, nobodys) < 5000 {
		t.Errorf("%d items of owners and %d of nobody test too little", many, nobodys)
	}
}

// wantBadWorkFails fails if a function succeeds for a worklist that is not valid.
func wantBadWorkFails(t *testing.T, succeeds func(list []impl.Item, x impl.Item) bool) {
	t.Helper()
	for _, list := range badWork() {
		for _, x := range list {
			if succeeds(list, x) {
				t.Errorf("a call for the item %v of %v succeeds", x, list)
			}
		}
	}
}

func offers(list []impl.Item, x impl.Item) bool {
	next, ok := impl.OfferItem(list, 2)
	return ok || next != nil
}

func claims(list []impl.Item, x impl.Item) bool {
	next, ok := impl.ClaimItem(list, x.Number, 3, []int{x.Role, 2})
	return ok || next != nil
}

func releases(list []impl.Item, x impl.Item) bool {
	next, ok := impl.ReleaseItem(list, x.Number, x.Owner)
	return ok || next != nil
}

func finishes(list []impl.Item, x impl.Item) bool {
	next, ok := impl.FinishItem(list, x.Number, x.Owner)
	return ok || next != nil
}

func sees(list []impl.Item, x impl.Item) bool {
	return impl.ItemsFor(list, x.Owner, []int{x.Role, 2}) != nil
}

func TestPromise56WorkCanBeLeftOut(t *testing.T) {
	shorter := 0
	withWork(t, func(r *rand.Rand, list []impl.Item) {
		for next := list; ; shorter++ {
			if !impl.ValidWork(next) {
				t.Fatalf("%v is not valid", next)
			}
			for i := range next { // each of them, and then one after the other
				if !impl.ValidWork(without(next, i)) {
					t.Fatalf("%v is not valid without its item %d", next, i)
				}
				if impl.ValidWork(slices.Insert(work(next...), i, next[i])) {
					t.Fatalf("%v is valid with its item %d twice", next, i)
				}
			}
			if len(next) == 0 {
				return
			}
			next = without(next, r.IntN(len(next)))
		}
	})
	if shorter < 5000 {
		t.Errorf("%d worklists with items test too little", shorter)
	}
	wantBadWorkFails(t, func(list []impl.Item, x impl.Item) bool { return impl.ValidWork(list) })
}

func TestPromise57OfferedItemsHaveNewNumbers(t *testing.T) {
	withOffered(t, func(r *rand.Rand, list []impl.Item, next []impl.Item, x impl.Item) {
		if !slices.Equal(next[:len(next)-1], list) || x.Owner != 0 || !impl.ValidWork(next) {
			t.Fatalf("an item more for %v makes %v", list, next)
		}
		for _, y := range list {
			if y.Number >= x.Number {
				t.Fatalf("the new item of %v has not the greatest number", next)
			}
		}
		if len(list) == 0 && x.Number != 1 {
			t.Fatalf("the first item is %v", x)
		}
	})
	wantBadWorkFails(t, offers)
}

func TestPromise58WhoHasTheRoleSeesTheItem(t *testing.T) {
	withOffered(t, func(r *rand.Rand, list []impl.Item, next []impl.Item, x impl.Item) {
		for _, owner := range []int{0, r.IntN(impl.MaxOwner + 1), anyNumber(r)} {
			more := randomRoles(r)
			for _, roles := range [][]int{{x.Role}, {x.Role, x.Role}, append(more, x.Role), slices.Insert(more, 0, x.Role)} {
				if !slices.Contains(impl.ItemsFor(next, owner, roles), x.Number) {
					t.Fatalf("%d with the roles %v does not see the item %v", owner, roles, x)
				}
			}
			others := slices.DeleteFunc(allRoles(), func(role int) bool { return role == x.Role })
			for _, roles := range [][]int{nil, {}, others, outside(impl.MaxRole)} {
				if slices.Contains(impl.ItemsFor(next, owner, roles), x.Number) {
					t.Fatalf("%d with the roles %v sees the item %v", owner, roles, x)
				}
			}
		}
	})
	wantBadWorkFails(t, sees)
}

func TestPromise59ClaimedItemsHaveOneOwner(t *testing.T) {
	withClaimed(t, func(r *rand.Rand, list []impl.Item, next []impl.Item, i int, owner int, roles []int) {
		x := list[i]
		if !slices.Equal(next, owned(list, x.Number, owner)) {
			t.Fatalf("the item %v of %v that %d claims makes %v", x, list, owner, next)
		}
		for other := range impl.MaxOwner + 1 {
			wantNotClaimed(t, "an item with an owner", next, x.Number, other, []int{x.Role})
			wantNotClaimed(t, "an item with an owner", next, x.Number, other, allRoles())
		}
	})
	wantBadWorkFails(t, claims)
}

func TestPromise60ReleasedItemsCanBeClaimed(t *testing.T) {
	withClaimed(t, func(r *rand.Rand, list []impl.Item, next []impl.Item, i int, owner int, roles []int) {
		number := list[i].Number
		back, ok := impl.ReleaseItem(next, number, owner)
		if !ok || !slices.Equal(back, list) {
			t.Fatalf("ReleaseItem(%v, %d, %d) = %v, %v, want %v", next, number, owner, back, ok, list)
		}
		again, ok := impl.ClaimItem(back, number, owner, roles)
		if !ok || !slices.Equal(again, next) {
			t.Fatalf("ClaimItem(%v, %d, %d, %v) = %v, %v, want %v", back, number, owner, roles, again, ok, next)
		}
	})
	wantBadWorkFails(t, claims)
	wantBadWorkFails(t, releases)
}

func TestPromise61OwnersSeeTheirItems(t *testing.T) {
	withClaimed(t, func(r *rand.Rand, list []impl.Item, next []impl.Item, i int, owner int, roles []int) {
		number := list[i].Number
		for _, some := range [][]int{nil, {}, roles, {(list[i].Role + 1) % 6}, outside(impl.MaxRole)} {
			if !slices.Contains(impl.ItemsFor(next, owner, some), number) {
				t.Fatalf("%d with the roles %v does not see the item %d of %v", owner, some, number, next)
			}
			for _, other := range append(outside(impl.MaxOwner), 0, 1, 2, 3, 4, 5, 6, 7, 8, 9) {
				if other != owner && slices.Contains(impl.ItemsFor(next, other, some), number) {
					t.Fatalf("%d with the roles %v sees the item %d of %v", other, some, number, next)
				}
			}
		}
	})
	wantBadWorkFails(t, claims)
	wantBadWorkFails(t, sees)
}

func TestPromise62OnlyOwnersRelease(t *testing.T) {
	withOwned(t, func(r *rand.Rand, list []impl.Item, i int) {
		x := list[i]
		for _, other := range append(outside(impl.MaxOwner), 0, 1, 2, 3, 4, 5, 6, 7, 8, 9) {
			if other != x.Owner {
				wantNotReleased(t, "another owner", list, x.Number, other)
			}
		}
		next, ok := impl.ReleaseItem(list, x.Number, x.Owner)
		if !ok || !slices.Equal(next, owned(list, x.Number, 0)) {
			t.Fatalf("ReleaseItem(%v, %d, %d) = %v, %v", list, x.Number, x.Owner, next, ok)
		}
		for owner := range impl.MaxOwner + 1 {
			wantNotReleased(t, "an item without an owner", next, x.Number, owner)
		}
	})
	wantBadWorkFails(t, releases)
}

func TestPromise63FinishedItemsAreGone(t *testing.T) {
	withOwned(t, func(r *rand.Rand, list []impl.Item, i int) {
		x := list[i]
		next, ok := impl.FinishItem(list, x.Number, x.Owner)
		if !ok || !slices.Equal(next, without(list, i)) {
			t.Fatalf("FinishItem(%v, %d, %d) = %v, %v", list, x.Number, x.Owner, next, ok)
		}
		for owner := range impl.MaxOwner + 1 {
			wantNotFinished(t, "an item that is gone", next, x.Number, owner)
			if owner != x.Owner {
				wantNotFinished(t, "another owner", list, x.Number, owner)
			}
		}
	})
	wantBadWorkFails(t, finishes)
}

func TestPromise64OnlyOwnersFinish(t *testing.T) {
	both, none := 0, 0
	ask := func(list []impl.Item, valid bool, number int, owner int) {
		t.Helper()
		released, okRelease := impl.ReleaseItem(list, number, owner)
		finished, okFinish := impl.FinishItem(list, number, owner)
		if okRelease != okFinish || !okRelease && (released != nil || finished != nil) {
			t.Fatalf("%v: the owner %d can release the item %d: %v, and can finish it: %v", list, owner, number, okRelease, okFinish)
		}
		// Succeed has to mean something, so that both do for the owner, and for nobody else.
		if want := valid && slices.ContainsFunc(list, func(x impl.Item) bool { return x.Number == number && x.Owner == owner && owner != 0 }); okFinish != want {
			t.Fatalf("%v: the owner %d can finish the item %d: %v", list, owner, number, okFinish)
		}
		both += bit(okFinish)
		none += bit(!okFinish)
	}
	withWork(t, func(r *rand.Rand, list []impl.Item) {
		for _, number := range append(numbersOf(list), 0, 1000, anyNumber(r)) {
			for owner := -1; owner <= impl.MaxOwner+1; owner++ {
				ask(list, true, number, owner)
			}
			ask(list, true, number, anyNumber(r))
		}
	})
	for _, list := range badWork() {
		for _, x := range list {
			ask(list, false, x.Number, x.Owner)
		}
	}
	if min(both, none) < 5000 {
		t.Errorf("%d items that are finished and %d that are not test too little", both, none)
	}
}

func TestPromise65ItemsAreForSome(t *testing.T) {
	some := 0
	withWork(t, func(r *rand.Rand, list []impl.Item) {
		for _, owner := range []int{0, r.IntN(impl.MaxOwner + 1), anyNumber(r)} {
			for _, roles := range [][]int{nil, randomRoles(r), anyNumbers(r, 3), allRoles()} {
				var want []int
				for _, x := range list {
					if x.Owner == 0 && slices.Contains(roles, x.Role) || x.Owner != 0 && x.Owner == owner {
						want = append(want, x.Number)
					}
				}
				if got := impl.ItemsFor(list, owner, roles); !slices.Equal(got, want) {
					t.Fatalf("ItemsFor(%v, %d, %v) = %v, want %v", list, owner, roles, got, want)
				}
				some += bit(len(want) > 0 && len(want) < len(list))
			}
		}
	})
	if some < 5000 {
		t.Errorf("%d owners that have some items test too little", some)
	}
	wantBadWorkFails(t, sees)
}

func TestPromise66MoreRolesSeeMore(t *testing.T) {
	more := 0
	withWork(t, func(r *rand.Rand, list []impl.Item) {
		owner := []int{0, 1 + r.IntN(impl.MaxOwner), anyNumber(r)}[r.IntN(3)]
		roles := []int{}
		seen := impl.ItemsFor(list, owner, roles)
		for range 6 { // one role more each time, which may be there already, or be any number
			roles = slices.Insert(roles, r.IntN(len(roles)+1), []int{r.IntN(6), r.IntN(6), anyNumber(r)}[r.IntN(3)])
			next := impl.ItemsFor(list, owner, roles)
			for _, number := range seen {
				if !slices.Contains(next, number) {
					t.Fatalf("ItemsFor(%v, %d, %v) = %v, without %d", list, owner, roles, next, number)
				}
			}
			more += bit(len(next) > len(seen))
			seen = next
		}
		all := impl.ItemsFor(list, owner, append(roles, allRoles()...))
		if len(all) < len(seen) || !slices.Equal(all, impl.ItemsFor(list, owner, allRoles())) {
			t.Fatalf("ItemsFor(%v, %d) with all roles = %v, with %v it is %v", list, owner, all, roles, seen)
		}
	})
	if more < 3000 {
		t.Errorf("%d roles with which more is seen test too little", more)
	}
	wantBadWorkFails(t, sees)
}

func TestPromise142NumbersFollowEachOther(t *testing.T) {
	second, last := 0, 0
	withOffered(t, func(r *rand.Rand, list []impl.Item, next []impl.Item, x impl.Item) {
		behind, ok := impl.OfferItem(next, r.IntN(impl.MaxRole+1))
		if want := len(next) < impl.MaxItems && x.Number < impl.MaxNumber; ok != want {
			t.Fatalf("OfferItem(%v) = %v, %v", next, behind, ok)
		}
		if ok && (len(behind) != len(next)+1 || behind[len(next)].Number != x.Number+1) {
			t.Fatalf("a second item makes %v of %v", behind, next)
		}
		second += bit(ok)
		last += bit(x.Number == impl.MaxNumber)
	})
	if second < 2000 || last < 200 {
		t.Errorf("%d second items, and %d with the largest number, test too little", second, last)
	}
	wantBadWorkFails(t, offers)
}

func TestPromise143NobodySeesLittle(t *testing.T) {
	some := 0
	withWork(t, func(r *rand.Rand, list []impl.Item) {
		for _, none := range [][]int{nil, {}} {
			if got := impl.ItemsFor(list, 0, none); len(got) != 0 {
				t.Fatalf("nobody sees %v of %v", got, list)
			}
		}
		var want []int
		for _, x := range list {
			if x.Owner == 0 {
				want = append(want, x.Number)
			}
		}
		roles := allRoles()
		r.Shuffle(len(roles), func(i, j int) { roles[i], roles[j] = roles[j], roles[i] })
		if got := impl.ItemsFor(list, 0, roles); !slices.Equal(got, want) {
			t.Fatalf("nobody with all roles sees %v of %v", got, list)
		}
		some += bit(len(want) > 0 && len(want) < len(list))
	})
	if some < 2000 {
		t.Errorf("%d worklists with some items of nobody test too little", some)
	}
	wantBadWorkFails(t, func(list []impl.Item, x impl.Item) bool { return impl.ItemsFor(list, 0, allRoles()) != nil })
}

func TestPromise144NewNumbersFollowTheLastOne(t *testing.T) {
	full := 0
	withOwned(t, func(r *rand.Rand, list []impl.Item, i int) {
		last := list[len(list)-1]
		if i == len(list)-1 {
			return
		}
		next, ok := impl.FinishItem(list, list[i].Number, list[i].Owner)
		if !ok {
			t.Fatalf("the item %v of %v cannot be finished", list[i], list)
		}
		role := r.IntN(impl.MaxRole + 1)
		if last.Number == impl.MaxNumber {
			wantNotOffered(t, "the largest number is taken", next, role)
			return
		}
		wantOffered(t, "behind a finished item", next, role, append(without(list, i), item(last.Number+1, role, 0)))
		if len(list) == impl.MaxItems { // there is room again
			wantNotOffered(t, "as many items as the limit", list, role)
			full++
		}
	})
	if full < 200 {
		t.Errorf("%d full worklists test too little", full)
	}
	wantBadWorkFails(t, offers)
	wantBadWorkFails(t, finishes)
}

func TestPromise165ReleasedItemsAreFree(t *testing.T) {
	withOwned(t, func(r *rand.Rand, list []impl.Item, i int) {
		x := list[i]
		next, ok := impl.ReleaseItem(list, x.Number, x.Owner)
		if !ok {
			t.Fatalf("the item %v of %v cannot be released", x, list)
		}
		roles := append(randomRoles(r), x.Role)
		others := slices.DeleteFunc(allRoles(), func(role int) bool { return role == x.Role })
		for owner := 1; owner <= impl.MaxOwner; owner++ {
			wantClaimed(t, "a released item", next, x.Number, owner, roles, owned(list, x.Number, owner))
			wantClaimed(t, "a released item", next, x.Number, owner, []int{x.Role}, owned(list, x.Number, owner))
			wantNotClaimed(t, "without the role", next, x.Number, owner, others)
			wantNotClaimed(t, "an item that is not released", list, x.Number, owner, roles)
		}
		for _, owner := range append(outside(impl.MaxOwner), 0) {
			wantNotClaimed(t, "an owner outside the range", next, x.Number, owner, roles)
		}
	})
	wantBadWorkFails(t, claims)
	wantBadWorkFails(t, releases)
}

func TestPromise174OnlyWhoHasTheRoleClaims(t *testing.T) {
	withClaimed(t, func(r *rand.Rand, list []impl.Item, next []impl.Item, i int, owner int, roles []int) {
		x := list[i]
		wantClaimed(t, "the role alone", list, x.Number, owner, []int{x.Role}, next)
		wantNotClaimed(t, "nil roles", list, x.Number, owner, nil)
		wantNotClaimed(t, "no roles", list, x.Number, owner, []int{})
		others := slices.DeleteFunc(allRoles(), func(role int) bool { return role == x.Role })
		wantNotClaimed(t, "all other roles", list, x.Number, owner, others)
		for _, role := range others {
			wantNotClaimed(t, "another role", list, x.Number, owner, []int{role})
		}
		for _, role := range outside(impl.MaxRole) {
			wantNotClaimed(t, "no role", list, x.Number, owner, []int{role})
		}
	})
	wantBadWorkFails(t, claims)
}
