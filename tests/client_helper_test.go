package tests

import (
	"math/rand/v2"
	"slices"
	"sync"
	"testing"

	"loop.example/processengine/impl"
)

func client(number int, last int, reply int, seen int) impl.Client {
	return impl.Client{Number: number, Last: last, Reply: reply, Seen: seen}
}

// clients returns new entries; no two lists of entries share memory.
func clients(list ...impl.Client) []impl.Client { return slices.Clone(list) }

// entryOf returns the entry of a client; false if there is none.
func entryOf(list []impl.Client, number int) (impl.Client, bool) {
	i := slices.IndexFunc(list, func(c impl.Client) bool { return c.Number == number })
	if i < 0 {
		return impl.Client{}, false
	}
	return list[i], true
}

// withoutClient returns new entries without that of a client.
func withoutClient(list []impl.Client, number int) []impl.Client {
	return slices.DeleteFunc(clients(list...), func(c impl.Client) bool { return c.Number == number })
}

// withClient returns new entries in which a client has an entry.
func withClient(list []impl.Client, entry impl.Client) []impl.Client {
	next := append(withoutClient(list, entry.Number), entry)
	slices.SortFunc(next, func(a impl.Client, b impl.Client) int { return a.Number - b.Number })
	return next
}

// allClients returns entries of all clients, with calls and times up to the limits.
func allClients() []impl.Client {
	var list []impl.Client
	for i := range 10 {
		list = append(list, client(i, 111*i, 7*i-20, 1111*i))
	}
	return list
}

// randomClients returns valid entries, in which calls and times are often near a limit.
func randomClients(r *rand.Rand) []impl.Client {
	var list []impl.Client
	skipped := 1 + r.IntN(4)
	for i := range impl.MaxClient + 1 {
		if r.IntN(4) < skipped {
			last := []int{0, 1, 2, r.IntN(6), r.IntN(impl.MaxCall + 1), impl.MaxCall - 1, impl.MaxCall}[r.IntN(7)]
			seen := []int{0, 1, r.IntN(10), r.IntN(impl.MaxClock + 1), impl.MaxClock}[r.IntN(5)]
			list = append(list, client(i, last, anyNumber(r), seen))
		}
	}
	return list
}

// callsNear returns the calls of a client that are allowed and near its last one, and some far from it.
func callsNear(r *rand.Rand, list []impl.Client, number int) []int {
	entry, _ := entryOf(list, number)
	calls := []int{1, 2, entry.Last - 1, entry.Last, entry.Last + 1, entry.Last + 2, 1 + r.IntN(impl.MaxCall), impl.MaxCall}
	return slices.DeleteFunc(calls, func(call int) bool { return call < 1 || call > impl.MaxCall })
}

// askedCall returns a client and a call that is often near its last one.
func askedCall(r *rand.Rand, list []impl.Client) (number int, call int) {
	number = r.IntN(impl.MaxClient + 1)
	if r.IntN(8) == 0 {
		number = anyNumber(r)
	}
	if r.IntN(8) == 0 {
		return number, anyNumber(r)
	}
	entry, _ := entryOf(list, number)
	return number, entry.Last + []int{-1, 0, 0, 1, 1, 2}[r.IntN(6)]
}

// alteredClients returns entries with one thing changed, so that often they are not valid any more.
func alteredClients(r *rand.Rand, list []impl.Client) []impl.Client {
	next := clients(list...)
	if len(list) == 0 {
		return append(next, client(anyNumber(r), 1, 2, 3))
	}
	i := r.IntN(len(list))
	switch k := r.IntN(7); k {
	case 0:
		next = append(next, client(next[len(next)-1].Number+1, 1, 2, 3))
	case 1:
		next = slices.Insert(next, i, next[i])
	case 2:
		next[0], next[i] = next[i], next[0]
	default:
		c := &next[i]
		*[]*int{&c.Number, &c.Last, &c.Seen, &c.Reply}[k-3] = anyNumber(r)
	}
	return next
}

// clientLists returns many valid entries. Nobody may change them.
var clientLists = sync.OnceValue(func() [][]impl.Client {
	r := newRandom(36)
	list := [][]impl.Client{nil, allClients(), clients(client(0, 0, 0, 0)), clients(client(impl.MaxClient, impl.MaxCall, 7, impl.MaxClock))}
	for range 5000 {
		list = append(list, randomClients(r))
	}
	return list
})

// withClients calls a function with many valid entries.
func withClients(t *testing.T, f func(r *rand.Rand, list []impl.Client)) {
	t.Helper()
	r := newRandom(37)
	for _, list := range clientLists() {
		f(r, list)
	}
}

// badClients returns entries that are not valid, each for one reason alone.
func badClients() [][]impl.Client {
	bad := [][]impl.Client{
		clients(client(1, 5, 7, 50), client(1, 5, 7, 50)),
		clients(client(2, 5, 7, 50), client(1, 5, 7, 50)),
		clients(client(0, 5, 7, 50), client(4, 5, 7, 50), client(3, 5, 7, 50)),
		clients(client(0, 5, 7, 50), client(4, 5, 7, 50), client(4, 6, 7, 50), client(5, 5, 7, 50)),
		clients(append(allClients(), client(9, 999, 7, 50))...),
		clients(append(allClients(), client(10, 5, 7, 50))...),
		clients(client(-1, 5, 7, 50), client(0, 5, 7, 50)),
		clients(client(3, 5, 7, 50), client(10, 5, 7, 50)),
	}
	for _, n := range outside(impl.MaxCall) {
		bad = append(bad, clients(client(1, n, 7, 50), client(2, 5, 7, 50)), clients(client(1, 5, 7, 50), client(2, n, 7, 50)))
	}
	for _, n := range outside(impl.MaxClock) {
		bad = append(bad, clients(client(1, 5, 7, n), client(2, 5, 7, 50)), clients(client(1, 5, 7, 50), client(2, 5, 7, n)))
	}
	return bad
}

func wantChecked(t *testing.T, what string, list []impl.Client, number int, call int, want int) {
	t.Helper()
	if got := impl.CheckCall(list, number, call); got != want {
		t.Errorf("%s: CheckCall(%v, %d, %d) = %d, want %d", what, list, number, call, got, want)
	}
}

func wantRecorded(t *testing.T, what string, list []impl.Client, entry impl.Client, want []impl.Client) {
	t.Helper()
	if got, ok := impl.RecordCall(list, entry.Number, entry.Last, entry.Reply, entry.Seen); !ok || !slices.Equal(got, want) {
		t.Errorf("%s: RecordCall(%v, %v) = %v, %v, want %v", what, list, entry, got, ok, want)
	}
}

func wantNotRecorded(t *testing.T, what string, list []impl.Client, entry impl.Client) {
	t.Helper()
	if got, ok := impl.RecordCall(list, entry.Number, entry.Last, entry.Reply, entry.Seen); ok || got != nil {
		t.Errorf("%s: RecordCall(%v, %v) = %v, %v", what, list, entry, got, ok)
	}
}

func wantReplied(t *testing.T, what string, list []impl.Client, number int, call int, want int) {
	t.Helper()
	if got, ok := impl.ReplyOf(list, number, call); !ok || got != want {
		t.Errorf("%s: ReplyOf(%v, %d, %d) = %d, %v, want %d", what, list, number, call, got, ok, want)
	}
}

func wantNotReplied(t *testing.T, what string, list []impl.Client, number int, call int) {
	t.Helper()
	if got, ok := impl.ReplyOf(list, number, call); ok || got != 0 {
		t.Errorf("%s: ReplyOf(%v, %d, %d) = %d, %v", what, list, number, call, got, ok)
	}
}
