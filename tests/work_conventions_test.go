package tests

import (
	"math/rand/v2"
	"slices"
	"sync"
	"testing"

	"loop.example/processengine/impl"
)

var roomItem = item(-5, -5, -5)

// workQuestion is what is asked about a worklist.
type workQuestion struct {
	number int
	owner  int
	role   int
	roles  []int
}

// workAnswers are the results of all functions for a worklist.
type workAnswers struct {
	work  [][]impl.Item
	lists [][]int
}

func askWork(list []impl.Item, q workQuestion) workAnswers {
	offered, okOffer := impl.OfferItem(list, q.role)
	claimed, okClaim := impl.ClaimItem(list, q.number, q.owner, q.roles)
	released, okRelease := impl.ReleaseItem(list, q.number, q.owner)
	finished, okFinish := impl.FinishItem(list, q.number, q.owner)
	return workAnswers{
		work:  [][]impl.Item{offered, claimed, released, finished},
		lists: [][]int{impl.ItemsFor(list, q.owner, q.roles), {bit(impl.ValidWork(list)), bit(okOffer), bit(okClaim), bit(okRelease), bit(okFinish)}},
	}
}

// wantedWorkAnswers returns what askWork has to return.
func wantedWorkAnswers(list []impl.Item, q workQuestion) workAnswers {
	offered, okOffer := wantedOffer(list, q.role)
	claimed, okClaim := wantedClaim(list, q.number, q.owner, q.roles)
	released, okRelease := wantedRelease(list, q.number, q.owner)
	finished, okFinish := wantedFinish(list, q.number, q.owner)
	return workAnswers{
		work:  [][]impl.Item{offered, claimed, released, finished},
		lists: [][]int{wantedItems(list, q.owner, q.roles), {bit(wantedWork(list)), bit(okOffer), bit(okClaim), bit(okRelease), bit(okFinish)}},
	}
}

func (a workAnswers) copied() workAnswers {
	var b workAnswers
	for _, list := range a.work {
		b.work = append(b.work, slices.Clone(list))
	}
	for _, list := range a.lists {
		b.lists = append(b.lists, slices.Clone(list))
	}
	return b
}

func (a workAnswers) spoil() {
	for _, list := range a.work {
		spoil(list, item(-7, -7, -7))
	}
	for _, list := range a.lists {
		spoil(list, -7)
	}
}

// sameWorkAnswers reports whether results are the same, where a nil slice is an empty one.
func sameWorkAnswers(a workAnswers, b workAnswers) bool {
	return slices.EqualFunc(a.work, b.work, slices.Equal) && slices.EqualFunc(a.lists, b.lists, slices.Equal)
}

func randomWorkQuestion(r *rand.Rand, list []impl.Item) workQuestion {
	number := askedNumber(r, list)
	return workQuestion{number, askedOwner(r, list, number), r.IntN(8) - 1, askedRoles(r, list, number)}
}

func TestWorkFunctionsLeaveTheirArguments(t *testing.T) {
	done := make([]int, 5)
	withWork(t, func(r *rand.Rand, list []impl.Item) {
		if r.IntN(8) == 0 {
			list = alteredWork(r, list)
		}
		q := randomWorkQuestion(r, list)
		roomy, roomyRoles := withRoom(list, roomItem), withRoom(q.roles, -5)
		asked := workQuestion{q.number, q.owner, q.role, roomyRoles}
		first := askWork(roomy, asked)
		if !sameRoom(roomy, list, roomItem) || !sameRoom(roomyRoles, q.roles, -5) {
			t.Fatalf("%v and %v have become %v and %v", list, q.roles, roomy, roomyRoles)
		}
		want := first.copied()
		for i, n := range first.lists[1] {
			done[i] += n
		}
		first.spoil()
		if !sameRoom(roomy, list, roomItem) || !sameRoom(roomyRoles, q.roles, -5) {
			t.Fatalf("a result shares memory with an argument of %v, %v", list, q)
		}
		if !sameWorkAnswers(askWork(roomy, asked), want) {
			t.Fatalf("the second results for %v, %v differ", list, q)
		}
	})
	if slices.Min(done) < 500 {
		t.Errorf("%v calls that succeed test too little", done)
	}
}

// wantWorkApart fails if worklists share memory, for each of them is written over and then has to be as it was written.
func wantWorkApart(t *testing.T, what any, lists [][]impl.Item) {
	t.Helper()
	for i, list := range lists {
		spoil(list, item(i, -7, -7))
	}
	for i, list := range lists {
		if slices.ContainsFunc(list[:cap(list)], func(x impl.Item) bool { return x != item(i, -7, -7) }) {
			t.Fatalf("%v: the worklist %d shares memory with another one", what, i)
		}
	}
}

func TestWorklistsShareNoMemory(t *testing.T) {
	withWork(t, func(r *rand.Rand, list []impl.Item) {
		q := randomWorkQuestion(r, list)
		roomy := withRoom(list, roomItem)
		q.roles = withRoom(q.roles, -5)
		first, second := askWork(roomy, q), askWork(roomy, q)
		wantWorkApart(t, list, slices.Concat([][]impl.Item{roomy}, first.work, second.work))
		wantApart(t, list, slices.Concat([][]int{q.roles}, first.lists, second.lists))
	})
}

func TestEmptyAndNilWorklistsAreTheSame(t *testing.T) {
	r := newRandom(33)
	for range 1000 {
		q := randomWorkQuestion(r, nil)
		if !sameWorkAnswers(askWork(nil, q), askWork([]impl.Item{}, q)) {
			t.Fatalf("an empty worklist is not as none for %v", q)
		}
	}
	withWork(t, func(r *rand.Rand, list []impl.Item) {
		q := randomWorkQuestion(r, list)
		q.roles = nil
		empty := q
		empty.roles = []int{}
		if !sameWorkAnswers(askWork(list, q), askWork(list, empty)) {
			t.Fatalf("no roles for %v are not as none for %v", list, q)
		}
	})
}

// TestWorkFunctionsReturnForEveryArgument fails by a panic if they do not.
func TestWorkFunctionsReturnForEveryArgument(t *testing.T) {
	r := newRandom(34)
	valid := 0
	for range 50000 {
		var list []impl.Item
		for range r.IntN(4) * r.IntN(5) {
			list = append(list, item(anyNumber(r), anyNumber(r), anyNumber(r)))
		}
		q := workQuestion{anyNumber(r), anyNumber(r), anyNumber(r), anyNumbers(r, 4)}
		if got, want := askWork(list, q), wantedWorkAnswers(list, q); !sameWorkAnswers(got, want) {
			t.Fatalf("%v with %v: %v, want %v", list, q, got, want)
		}
		valid += bit(impl.ValidWork(list))
	}
	if valid < 2000 {
		t.Errorf("%d valid worklists test too little", valid)
	}
}

// TestWorkAtTheSameTime fails if a call about worklists or clients keeps something for the next one, or for one beside it.
func TestWorkAtTheSameTime(t *testing.T) {
	r := newRandom(35)
	lists, entries := worklists()[:500], clientLists()[:500]
	questions, calls := make([]workQuestion, len(lists)), make([]callQuestion, len(lists))
	want, wantCalls := make([]workAnswers, len(lists)), make([]callAnswers, len(lists))
	for i := range lists {
		questions[i], calls[i] = randomWorkQuestion(r, lists[i]), randomCallQuestion(r, entries[i])
		want[i], wantCalls[i] = askWork(lists[i], questions[i]), askCalls(entries[i], calls[i])
	}
	var group sync.WaitGroup
	for k := range 8 {
		group.Go(func() {
			for i := range lists {
				j := (i*7 + k*31) % len(lists)
				if !sameWorkAnswers(askWork(lists[j], questions[j]), want[j]) || !sameCallAnswers(askCalls(entries[j], calls[j]), wantCalls[j]) {
					t.Errorf("results for %v or %v differ", lists[j], entries[j])
				}
			}
		})
	}
	group.Wait()
}
