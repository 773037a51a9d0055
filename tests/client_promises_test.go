package tests

import (
	"math/rand/v2"
	"slices"
	"testing"

	"loop.example/processengine/impl"
)

// withRecorded calls a function with many calls that are recorded, the entries before and behind, and the new entry of the client.
func withRecorded(t *testing.T, f func(r *rand.Rand, list []impl.Client, next []impl.Client, entry impl.Client)) {
	t.Helper()
	first, behind := 0, 0
	withClients(t, func(r *rand.Rand, list []impl.Client) {
		for number := range impl.MaxClient + 1 {
			old, known := entryOf(list, number)
			entry := client(number, old.Last+1, anyNumber(r), []int{0, 1, r.IntN(impl.MaxClock + 1), impl.MaxClock}[r.IntN(4)])
			if entry.Last > impl.MaxCall {
				wantNotRecorded(t, "behind the largest call", list, entry)
				continue
			}
			next, ok := impl.RecordCall(list, entry.Number, entry.Last, entry.Reply, entry.Seen)
			if !ok {
				t.Fatalf("RecordCall(%v, %v) = %v, %v", list, entry, next, ok)
			}
			for _, now := range outside(impl.MaxClock) {
				wantNotRecorded(t, "a time outside the range", list, client(number, entry.Last, entry.Reply, now))
			}
			for _, call := range []int{entry.Last - 2, entry.Last - 1, entry.Last + 1, entry.Last + 2} {
				wantNotRecorded(t, "not the next call", list, client(number, call, entry.Reply, entry.Seen))
			}
			f(r, list, next, entry)
			first += bit(!known)
			behind += bit(known)
		}
	})
	if min(first, behind) < 5000 {
		t.Errorf("%d first calls and %d others test too little", first, behind)
	}
}

// wantBadClientsFail fails if a function succeeds for entries that are not valid.
func wantBadClientsFail(t *testing.T, succeeds func(list []impl.Client, number int, call int) bool) {
	t.Helper()
	for _, list := range badClients() {
		for number := range impl.MaxClient + 1 {
			entry, _ := entryOf(list, number)
			for _, call := range []int{1, entry.Last, entry.Last + 1} {
				if succeeds(list, number, call) {
					t.Errorf("the call %d of %d, with the entries %v, succeeds", call, number, list)
				}
			}
		}
	}
}

func checks(list []impl.Client, number int, call int) bool {
	return impl.CheckCall(list, number, call) != impl.CallWrong
}

func records(list []impl.Client, number int, call int) bool {
	next, ok := impl.RecordCall(list, number, call, 7, 50)
	return ok || next != nil
}

func replies(list []impl.Client, number int, call int) bool {
	reply, ok := impl.ReplyOf(list, number, call)
	return ok || reply != 0
}

func forgets(list []impl.Client, number int, call int) bool {
	return impl.ForgetClients(list, number-5) != nil
}

func TestPromise67ClientsCanBeForgotten(t *testing.T) {
	shorter := 0
	withClients(t, func(r *rand.Rand, list []impl.Client) {
		for next := list; ; shorter++ {
			if !impl.ValidClients(next) {
				t.Fatalf("%v are not valid", next)
			}
			for i := range next { // each of them, and then one after the other
				if !impl.ValidClients(without(next, i)) {
					t.Fatalf("%v are not valid without the entry %d", next, i)
				}
				if impl.ValidClients(slices.Insert(clients(next...), i, next[i])) {
					t.Fatalf("%v are valid with the entry %d twice", next, i)
				}
			}
			if len(next) == 0 {
				return
			}
			next = without(next, r.IntN(len(next)))
		}
	})
	if shorter < 5000 {
		t.Errorf("%d lists of entries test too little", shorter)
	}
	wantBadClientsFail(t, func(list []impl.Client, number int, call int) bool { return impl.ValidClients(list) })
}

func TestPromise68EveryCallHasOneAnswer(t *testing.T) {
	news, agains, olds := 0, 0, 0
	withClients(t, func(r *rand.Rand, list []impl.Client) {
		for number := range impl.MaxClient + 1 {
			entry, _ := entryOf(list, number)
			for _, call := range callsNear(r, list, number) {
				want := impl.CallWrong // for calls that are skipped
				switch {
				case call == entry.Last+1:
					want = impl.CallNew
					news++
				case call == entry.Last:
					want = impl.CallAgain
					agains++
				case call < entry.Last:
					want = impl.CallOld
					olds++
				}
				wantChecked(t, "a call", list, number, call, want)
			}
			for _, call := range append(outside(impl.MaxCall), 0) {
				wantChecked(t, "a call outside the range", list, number, call, impl.CallWrong)
			}
		}
		for _, number := range outside(impl.MaxClient) {
			wantChecked(t, "a client outside the range", list, number, 1, impl.CallWrong)
		}
		if t.Failed() {
			t.FailNow()
		}
	})
	for last := range impl.MaxCall + 1 { // all calls of one client
		list := clients(client(3, last, 7, 50))
		for call := 1; call <= impl.MaxCall; call++ {
			want := impl.CallWrong
			if i := call - last; i <= 1 {
				want = []int{impl.CallOld, impl.CallAgain, impl.CallNew}[max(i, -1)+1]
			}
			if got := impl.CheckCall(list, 3, call); got != want {
				t.Fatalf("CheckCall(%v, 3, %d) = %d, want %d", list, call, got, want)
			}
		}
	}
	if min(news, agains, olds) < 5000 {
		t.Errorf("%d new calls, %d again and %d old ones test too little", news, agains, olds)
	}
	wantBadClientsFail(t, checks)
}

func TestPromise69CallsAreDoneOnce(t *testing.T) {
	withRecorded(t, func(r *rand.Rand, list []impl.Client, next []impl.Client, entry impl.Client) {
		number, call := entry.Number, entry.Last
		if got := impl.CheckCall(next, number, call); got != impl.CallAgain {
			t.Fatalf("CheckCall(%v, %d, %d) = %d behind it", next, number, call, got)
		}
		if reply, ok := impl.ReplyOf(next, number, call); !ok || reply != entry.Reply {
			t.Fatalf("ReplyOf(%v, %d, %d) = %d, %v behind it, want %d", next, number, call, reply, ok, entry.Reply)
		}
		wantNotRecorded(t, "a call that is done", next, entry)
		want := impl.CallNew
		if call == impl.MaxCall {
			want = impl.CallWrong
		}
		wantChecked(t, "the next call", next, number, call+1, want)
		if call > 1 {
			wantChecked(t, "the call before", next, number, call-1, impl.CallOld)
		}
	})
	wantBadClientsFail(t, checks)
	wantBadClientsFail(t, records)
	wantBadClientsFail(t, replies)
}

func TestPromise70OtherClientsAreNotChanged(t *testing.T) {
	withRecorded(t, func(r *rand.Rand, list []impl.Client, next []impl.Client, entry impl.Client) {
		if !slices.Equal(withoutClient(next, entry.Number), withoutClient(list, entry.Number)) {
			t.Fatalf("RecordCall(%v, %v) = %v", list, entry, next)
		}
		if !slices.Equal(next, withClient(list, entry)) || !impl.ValidClients(next) {
			t.Fatalf("RecordCall(%v, %v) = %v", list, entry, next)
		}
	})
	wantBadClientsFail(t, records)
}

func TestPromise71RepliesAreKept(t *testing.T) {
	kept, not := 0, 0
	withClients(t, func(r *rand.Rand, list []impl.Client) {
		for number := range impl.MaxClient + 1 {
			entry, known := entryOf(list, number)
			for _, call := range append(callsNear(r, list, number), append(outside(impl.MaxCall), 0)...) {
				if known && call == entry.Last && call > 0 {
					wantReplied(t, "the last call", list, number, call, entry.Reply)
					kept++
					continue
				}
				wantNotReplied(t, "not the last call", list, number, call)
				not++
			}
		}
		for _, number := range outside(impl.MaxClient) {
			wantNotReplied(t, "a client outside the range", list, number, 1)
		}
		if t.Failed() {
			t.FailNow()
		}
	})
	if min(kept, not) < 5000 {
		t.Errorf("%d last calls and %d others test too little", kept, not)
	}
	wantBadClientsFail(t, replies)
}

// timesFor returns times at, next to and between those of some entries, and some far from them, ascending.
func timesFor(r *rand.Rand, list []impl.Client) []int {
	times := []int{-1, 0, 1, impl.MaxClock, impl.MaxClock + 1, r.IntN(impl.MaxClock), extremes[0], extremes[len(extremes)-1], anyNumber(r)}
	for _, c := range list {
		times = append(times, c.Seen, c.Seen+1)
	}
	slices.Sort(times)
	return times
}

func TestPromise72ForgottenClientsBeginAnew(t *testing.T) {
	some := 0
	withClients(t, func(r *rand.Rand, list []impl.Client) {
		for _, before := range timesFor(r, list) {
			var want []impl.Client
			for _, c := range list {
				if c.Seen >= before {
					want = append(want, c)
				}
			}
			next := impl.ForgetClients(list, before)
			if !slices.Equal(next, want) {
				t.Fatalf("ForgetClients(%v, %d) = %v, want %v", list, before, next, want)
			}
			for _, c := range list {
				if c.Seen < before && impl.CheckCall(next, c.Number, 1) != impl.CallNew {
					t.Fatalf("the call 1 of %d is not new in %v", c.Number, next)
				}
			}
			some += bit(len(want) > 0 && len(want) < len(list))
		}
	})
	if some < 5000 {
		t.Errorf("%d times at which some clients are forgotten test too little", some)
	}
	wantBadClientsFail(t, checks)
	wantBadClientsFail(t, forgets)
}

func TestPromise145NewClientsBeginWith1(t *testing.T) {
	fresh := 0
	withClients(t, func(r *rand.Rand, list []impl.Client) {
		for number := range impl.MaxClient + 1 {
			if _, known := entryOf(list, number); known {
				continue
			}
			entry := client(number, 1, anyNumber(r), r.IntN(impl.MaxClock+1))
			wantRecorded(t, "the call 1", list, entry, withClient(list, entry))
			for _, now := range outside(impl.MaxClock) {
				wantNotRecorded(t, "a time outside the range", list, client(number, 1, entry.Reply, now))
			}
			for _, call := range []int{-1, 0, 2, 3, 1 + r.IntN(impl.MaxCall-1) + 1, impl.MaxCall, impl.MaxCall + 1} {
				entry.Last = call
				wantNotRecorded(t, "another call than 1", list, entry)
			}
			fresh++
		}
		for _, number := range outside(impl.MaxClient) {
			wantNotRecorded(t, "a client outside the range", list, client(number, 1, 7, 50))
		}
		if t.Failed() {
			t.FailNow()
		}
	})
	if fresh < 5000 {
		t.Errorf("%d clients without an entry test too little", fresh)
	}
	wantBadClientsFail(t, records)
}

func TestPromise146MoreClientsAreForgottenLater(t *testing.T) {
	fewer := 0
	withClients(t, func(r *rand.Rand, list []impl.Client) {
		for _, before := range []int{0, -1, extremes[0]} {
			if got := impl.ForgetClients(list, before); !slices.Equal(got, list) {
				t.Fatalf("ForgetClients(%v, %d) = %v", list, before, got)
			}
		}
		times := timesFor(r, list)
		for i, before := range times[1:] {
			sooner, later := impl.ForgetClients(list, times[i]), impl.ForgetClients(list, before)
			for _, c := range later {
				if !slices.Contains(sooner, c) {
					t.Fatalf("ForgetClients(%v, %d) has %v, but it has not at %d", list, before, c, times[i])
				}
			}
			if !slices.Equal(impl.ForgetClients(sooner, before), later) {
				t.Fatalf("%v has %v at %d, but %v at %d", list, sooner, times[i], later, before)
			}
			fewer += bit(len(later) < len(sooner))
		}
		for _, before := range []int{impl.MaxClock + 1, extremes[len(extremes)-1]} {
			if got := impl.ForgetClients(list, before); len(got) != 0 {
				t.Fatalf("ForgetClients(%v, %d) = %v", list, before, got)
			}
		}
	})
	if fewer < 5000 {
		t.Errorf("%d later times with fewer clients test too little", fewer)
	}
	wantBadClientsFail(t, forgets)
}
