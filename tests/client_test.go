package tests

import (
	"math"
	"math/rand/v2"
	"slices"
	"testing"

	"loop.example/processengine/impl"
)

func TestClientConstants(t *testing.T) {
	wantList(t, "limits", []int{impl.MaxClient, impl.MaxCall}, 9, 999)
	wantList(t, "answers", []int{impl.CallNew, impl.CallAgain, impl.CallOld, impl.CallWrong}, 1, 2, 3, 4)
}

func wantValidClients(t *testing.T, what string, list []impl.Client, want bool) {
	t.Helper()
	if got := impl.ValidClients(list); got != want {
		t.Errorf("%s: ValidClients(%v) = %v", what, list, got)
	}
}

func TestValidClients(t *testing.T) {
	wantValidClients(t, "nil", nil, true)
	wantValidClients(t, "an empty list", []impl.Client{}, true)
	wantValidClients(t, "the least numbers", clients(client(0, 0, 0, 0)), true)
	wantValidClients(t, "the greatest numbers", clients(client(9, 999, 5, 9999)), true)
	wantValidClients(t, "numbers with gaps", clients(client(1, 5, 7, 50), client(4, 5, 7, 50), client(5, 5, 7, 50)), true)
	wantValidClients(t, "calls and times that fall", clients(client(1, 9, 7, 50), client(4, 8, 7, 40), client(5, 7, 7, 30)), true)
	wantValidClients(t, "all clients", allClients(), true)
	for _, reply := range extremes {
		wantValidClients(t, "any reply", clients(client(1, 5, reply, 50)), true)
	}
	for _, list := range badClients() {
		wantValidClients(t, "a bad one", list, false)
	}
	for _, n := range outside(9) {
		wantValidClients(t, "a number outside its range", clients(client(n, 5, 7, 50)), false)
	}
	for _, many := range []int{11, 12, 100000} {
		wantValidClients(t, "more entries than clients", slices.Repeat(clients(client(1, 5, 7, 50)), many), false)
		list := allClients()
		for i := 10; i < many; i++ {
			list = append(list, client(i, 5, 7, 50))
		}
		wantValidClients(t, "more entries than clients, ascending", list, false)
	}
	for i := range 10 { // one bad entry at each place
		for _, bad := range []impl.Client{client(i, -1, 7, 50), client(i, 1000, 7, 50), client(i, 5, 7, -1), client(i, 5, 7, 10000), client(i-1, 5, 7, 50), client(i+10, 5, 7, 50)} {
			list := allClients()
			list[i] = bad
			wantValidClients(t, "all clients with a bad entry", list, false)
		}
	}
}

// wantBadClients fails if a function succeeds for entries that are not valid.
func wantBadClients(t *testing.T, list []impl.Client) {
	t.Helper()
	wantValidClients(t, "bad ones", list, false)
	for number := -1; number <= 10; number++ {
		calls := []int{0, 1, 2, 999}
		for _, c := range list[:min(len(list), 20)] {
			calls = append(calls, c.Last, c.Last+1)
		}
		for _, call := range calls {
			wantChecked(t, "entries that are not valid", list, number, call, impl.CallWrong)
			wantNotRecorded(t, "entries that are not valid", list, client(number, call, 7, 50))
			wantNotReplied(t, "entries that are not valid", list, number, call)
		}
	}
	for _, before := range extremes {
		if got := impl.ForgetClients(list, before); got != nil {
			t.Errorf("ForgetClients(%v, %d) = %v", list, before, got)
		}
	}
}

func TestClientsThatAreNotValid(t *testing.T) {
	for _, list := range badClients() {
		wantBadClients(t, list)
	}
	for _, n := range outside(9) {
		wantBadClients(t, clients(client(n, 5, 7, 50)))
	}
	wantBadClients(t, slices.Repeat(clients(client(1, 5, 7, 50)), 1000))
}

func TestCheckCall(t *testing.T) {
	list := clients(client(0, 3, 40, 10), client(2, 1, 41, 20), client(5, 0, 42, 30), client(7, 998, 43, 40), client(9, 999, 44, 50))
	for number, answers := range map[int]map[int]int{
		0: {1: 3, 2: 3, 3: 2, 4: 1, 5: 4, 6: 4, 998: 4, 999: 4},
		1: {1: 1, 2: 4, 3: 4, 999: 4}, // without an entry
		2: {1: 2, 2: 1, 3: 4, 999: 4},
		3: {1: 1, 2: 4, 4: 4},
		5: {1: 1, 2: 4, 999: 4}, // with an entry, but without a call
		7: {1: 3, 2: 3, 997: 3, 998: 2, 999: 1},
		8: {1: 1, 2: 4, 998: 4, 999: 4},
		9: {1: 3, 2: 3, 998: 3, 999: 2},
	} {
		for call, want := range answers {
			wantChecked(t, "a call", list, number, call, want)
		}
		for _, call := range []int{math.MinInt, -1, 0, 1000, math.MaxInt} {
			wantChecked(t, "a call outside the range", list, number, call, impl.CallWrong)
			wantChecked(t, "a call outside the range, without entries", nil, number, call, impl.CallWrong)
		}
	}
	for _, number := range outside(9) {
		for _, call := range []int{-1, 0, 1, 2, 3, 4, 998, 999, 1000} {
			wantChecked(t, "a client outside the range", list, number, call, impl.CallWrong)
			wantChecked(t, "a client outside the range, without entries", nil, number, call, impl.CallWrong)
		}
	}
	for number := range 10 {
		wantChecked(t, "the first call of all", nil, number, 1, impl.CallNew)
		wantChecked(t, "the first call of all", []impl.Client{}, number, 1, impl.CallNew)
		wantChecked(t, "the second call without a first one", nil, number, 2, impl.CallWrong)
		wantChecked(t, "the last call without a first one", nil, number, 999, impl.CallWrong)
	}
}

func TestRecordCall(t *testing.T) {
	list := clients(client(2, 1, 41, 20), client(5, 0, 42, 30), client(7, 998, 43, 40))
	wantRecorded(t, "nothing", nil, client(5, 1, 7, 50), clients(client(5, 1, 7, 50)))
	wantRecorded(t, "an empty list", []impl.Client{}, client(0, 1, 0, 0), clients(client(0, 1, 0, 0)))
	wantRecorded(t, "the greatest client and time", nil, client(9, 1, 7, 9999), clients(client(9, 1, 7, 9999)))
	wantRecorded(t, "before all others", list, client(0, 1, 7, 50), slices.Concat(clients(client(0, 1, 7, 50)), list))
	wantRecorded(t, "between others", list, client(3, 1, 7, 50), slices.Insert(clients(list...), 1, client(3, 1, 7, 50)))
	wantRecorded(t, "behind all others", list, client(9, 1, 7, 50), append(clients(list...), client(9, 1, 7, 50)))
	wantRecorded(t, "the next call", list, client(2, 2, 7, 50), withClient(list, client(2, 2, 7, 50)))
	wantRecorded(t, "the first call of an entry", list, client(5, 1, 7, 50), withClient(list, client(5, 1, 7, 50)))
	wantRecorded(t, "the largest call", list, client(7, 999, 7, 50), withClient(list, client(7, 999, 7, 50)))
	wantRecorded(t, "a time before that of the last call", list, client(2, 2, 7, 3), withClient(list, client(2, 2, 7, 3)))
	for _, reply := range extremes {
		wantRecorded(t, "any reply", list, client(2, 2, reply, 50), withClient(list, client(2, 2, reply, 50)))
		wantRecorded(t, "any first reply", list, client(3, 1, reply, 50), withClient(list, client(3, 1, reply, 50)))
	}
	for _, now := range []int{0, 1, 9998, 9999} {
		wantRecorded(t, "a time in the range", list, client(2, 2, 7, now), withClient(list, client(2, 2, 7, now)))
	}
	for _, now := range outside(9999) {
		wantNotRecorded(t, "a time outside the range", list, client(2, 2, 7, now))
		wantNotRecorded(t, "a time outside the range", nil, client(5, 1, 7, now))
	}
	for _, number := range outside(9) {
		wantNotRecorded(t, "a client outside the range", list, client(number, 1, 7, 50))
		wantNotRecorded(t, "a client outside the range", nil, client(number, 1, 7, 50))
	}
	for _, call := range []int{math.MinInt, -1, 0, 2, 3, 999, 1000, math.MaxInt} {
		wantNotRecorded(t, "no first call", nil, client(5, call, 7, 50))
		wantNotRecorded(t, "no first call", list, client(3, call, 7, 50))
		wantNotRecorded(t, "no first call of an entry", list, client(5, call, 7, 50))
	}
	for _, call := range []int{math.MinInt, -1, 0, 1, 3, 4, 999, 1000, math.MaxInt} {
		wantNotRecorded(t, "not the next call", list, client(2, call, 7, 50))
	}
	for _, call := range []int{0, 1, 997, 998, 1000} {
		wantNotRecorded(t, "not the largest call", list, client(7, call, 7, 50))
	}
	most := clients(client(7, 999, 43, 40))
	for _, call := range []int{-1, 0, 1, 998, 999, 1000} {
		wantNotRecorded(t, "behind the largest call", most, client(7, call, 7, 50))
	}
}

func TestAllCallsOfAClient(t *testing.T) {
	var list []impl.Client
	for call := 1; call <= 999; call++ {
		wantRecorded(t, "one after the other", list, client(4, call, -call, call), clients(client(4, call, -call, call)))
		next, _ := impl.RecordCall(list, 4, call, -call, call)
		wantReplied(t, "the last call", next, 4, call, -call)
		wantNotReplied(t, "the call before", next, 4, call-1)
		list = next
	}
	for number := range 10 { // and the first call of all others
		if number != 4 {
			wantRecorded(t, "all clients", list, client(number, 1, 7, 50), withClient(list, client(number, 1, 7, 50)))
			list, _ = impl.RecordCall(list, number, 1, 7, 50)
		}
	}
	if len(list) != 10 {
		t.Errorf("all clients have the entries %v", list)
	}
}

func TestReplyOf(t *testing.T) {
	list := clients(client(0, 3, 40, 10), client(2, 1, 0, 20), client(5, 0, 42, 30), client(9, 999, -44, 50))
	wantReplied(t, "the last call", list, 0, 3, 40)
	wantReplied(t, "the first call, with the reply 0", list, 2, 1, 0)
	wantReplied(t, "the largest call", list, 9, 999, -44)
	for _, reply := range extremes {
		wantReplied(t, "any reply", clients(client(1, 5, reply, 50)), 1, 5, reply)
	}
	for number, calls := range map[int][]int{0: {-1, 0, 1, 2, 4, 5, 999, 1000}, 1: {0, 1, 2}, 2: {0, 2, 3}, 5: {-1, 0, 1, 2}, 8: {0, 1, 999}, 9: {0, 1, 998, 1000}} {
		for _, call := range append(calls, math.MinInt, math.MaxInt) {
			wantNotReplied(t, "not the last call", list, number, call)
		}
	}
	for _, number := range outside(9) {
		for _, call := range []int{0, 1, 3, 999} {
			wantNotReplied(t, "a client outside the range", list, number, call)
			wantNotReplied(t, "a client outside the range, without entries", nil, number, call)
		}
	}
}

func TestForgetClients(t *testing.T) {
	list := clients(client(0, 3, 40, 50), client(2, 1, 41, 0), client(5, 0, 42, 51), client(7, 2, 43, 9999), client(9, 999, 44, 49))
	for before, numbers := range map[int][]int{
		math.MinInt: {0, 2, 5, 7, 9}, -1: {0, 2, 5, 7, 9}, 0: {0, 2, 5, 7, 9}, 1: {0, 5, 7, 9}, 49: {0, 5, 7, 9}, 50: {0, 5, 7},
		51: {5, 7}, 52: {7}, 9999: {7}, 10000: nil, math.MaxInt: nil,
	} {
		var want []impl.Client
		for _, number := range numbers {
			entry, _ := entryOf(list, number)
			want = append(want, entry)
		}
		if got := impl.ForgetClients(list, before); !slices.Equal(got, want) {
			t.Errorf("ForgetClients(%v, %d) = %v, want %v", list, before, got, want)
		}
	}
	for _, before := range extremes {
		if got := impl.ForgetClients(nil, before); len(got) != 0 {
			t.Errorf("ForgetClients of nothing before %d = %v", before, got)
		}
	}
	all := allClients() // the client i was seen at 1111*i
	for i := range 10 {
		if got := impl.ForgetClients(all, 1111*i); !slices.Equal(got, all[i:]) {
			t.Errorf("ForgetClients(%v, %d) = %v", all, 1111*i, got)
		}
	}
}

// TestRandomClients compares the functions for many entries, valid or not, with what they have to be.
func TestRandomClients(t *testing.T) {
	answers := make([]int, 5)
	recorded, late := 0, 0
	withClients(t, func(r *rand.Rand, list []impl.Client) {
		for range 4 {
			if r.IntN(6) == 0 {
				list = alteredClients(r, list)
			}
			if got, want := impl.ValidClients(list), wantedClients(list); got != want {
				t.Fatalf("ValidClients(%v) = %v", list, got)
			}
			number, call := askedCall(r, list)
			reply, now := anyNumber(r), []int{r.IntN(impl.MaxClock + 1), anyNumber(r)}[r.IntN(2)]
			answer := impl.CheckCall(list, number, call)
			if want := wantedCheck(list, number, call); answer != want {
				t.Fatalf("CheckCall(%v, %d, %d) = %d, want %d", list, number, call, answer, want)
			}
			answers[answer]++
			next, ok := impl.RecordCall(list, number, call, reply, now)
			if want, wantOk := wantedRecord(list, number, call, reply, now); ok != wantOk || !slices.Equal(next, want) {
				t.Fatalf("RecordCall(%v, %d, %d, %d, %d) = %v, %v, want %v, %v", list, number, call, reply, now, next, ok, want, wantOk)
			}
			recorded += bit(ok)
			late += bit(!ok && answer == impl.CallNew)
			got, ok := impl.ReplyOf(list, number, call)
			if want, wantOk := wantedReply(list, number, call); got != want || ok != wantOk {
				t.Fatalf("ReplyOf(%v, %d, %d) = %d, %v, want %d, %v", list, number, call, got, ok, want, wantOk)
			}
			for _, before := range []int{now, anyNumber(r), r.IntN(12)} {
				if got, want := impl.ForgetClients(list, before), wantedForget(list, before); !slices.Equal(got, want) {
					t.Fatalf("ForgetClients(%v, %d) = %v, want %v", list, before, got, want)
				}
			}
		}
	})
	if slices.Min(answers[1:]) < 1000 || recorded < 1000 || late < 300 {
		t.Errorf("%v answers, %d recorded calls and %d new ones at no time of the clock test too little", answers[1:], recorded, late)
	}
}
