package tests

import (
	"math/rand/v2"
	"slices"
	"testing"

	"loop.example/processengine/impl"
)

var roomClient = client(-5, -5, -5, -5)

// callQuestion is what is asked about entries of clients.
type callQuestion struct {
	number int
	call   int
	reply  int
	now    int
}

// callAnswers are the results of all functions for entries of clients.
type callAnswers struct {
	clients [][]impl.Client
	numbers []int
}

func askCalls(list []impl.Client, q callQuestion) callAnswers {
	recorded, okRecord := impl.RecordCall(list, q.number, q.call, q.reply, q.now)
	reply, okReply := impl.ReplyOf(list, q.number, q.call)
	return callAnswers{
		clients: [][]impl.Client{recorded, impl.ForgetClients(list, q.now)},
		numbers: []int{bit(impl.ValidClients(list)), impl.CheckCall(list, q.number, q.call), bit(okRecord), reply, bit(okReply)},
	}
}

// wantedCallAnswers returns what askCalls has to return.
func wantedCallAnswers(list []impl.Client, q callQuestion) callAnswers {
	recorded, okRecord := wantedRecord(list, q.number, q.call, q.reply, q.now)
	reply, okReply := wantedReply(list, q.number, q.call)
	return callAnswers{
		clients: [][]impl.Client{recorded, wantedForget(list, q.now)},
		numbers: []int{bit(wantedClients(list)), wantedCheck(list, q.number, q.call), bit(okRecord), reply, bit(okReply)},
	}
}

func (a callAnswers) copied() callAnswers {
	b := callAnswers{numbers: slices.Clone(a.numbers)}
	for _, list := range a.clients {
		b.clients = append(b.clients, slices.Clone(list))
	}
	return b
}

func (a callAnswers) spoil() {
	for _, list := range a.clients {
		spoil(list, client(-7, -7, -7, -7))
	}
}

// sameCallAnswers reports whether results are the same, where a nil slice is an empty one.
func sameCallAnswers(a callAnswers, b callAnswers) bool {
	return slices.EqualFunc(a.clients, b.clients, slices.Equal) && slices.Equal(a.numbers, b.numbers)
}

func randomCallQuestion(r *rand.Rand, list []impl.Client) callQuestion {
	number, call := askedCall(r, list)
	return callQuestion{number, call, anyNumber(r), []int{r.IntN(10), r.IntN(impl.MaxClock + 1), anyNumber(r)}[r.IntN(3)]}
}

func TestClientFunctionsLeaveTheirArguments(t *testing.T) {
	recorded, forgotten := 0, 0
	withClients(t, func(r *rand.Rand, list []impl.Client) {
		if r.IntN(8) == 0 {
			list = alteredClients(r, list)
		}
		q := randomCallQuestion(r, list)
		roomy := withRoom(list, roomClient)
		first := askCalls(roomy, q)
		if !sameRoom(roomy, list, roomClient) {
			t.Fatalf("%v have become %v by %v", list, roomy, q)
		}
		want := first.copied()
		recorded += first.numbers[2]
		forgotten += bit(len(first.clients[1]) > 0 && len(first.clients[1]) < len(list))
		first.spoil()
		if !sameRoom(roomy, list, roomClient) {
			t.Fatalf("a result shares memory with the argument of %v, %v", list, q)
		}
		if !sameCallAnswers(askCalls(roomy, q), want) {
			t.Fatalf("the second results for %v, %v differ", list, q)
		}
	})
	if min(recorded, forgotten) < 500 {
		t.Errorf("%d calls that are recorded, and %d times some clients forgotten, test too little", recorded, forgotten)
	}
}

// wantClientsApart fails if entries share memory, for each list of them is written over and then has to be as it was written.
func wantClientsApart(t *testing.T, what any, lists [][]impl.Client) {
	t.Helper()
	for i, list := range lists {
		spoil(list, client(i, -7, -7, -7))
	}
	for i, list := range lists {
		if slices.ContainsFunc(list[:cap(list)], func(c impl.Client) bool { return c != client(i, -7, -7, -7) }) {
			t.Fatalf("%v: the entries %d share memory with others", what, i)
		}
	}
}

func TestClientsShareNoMemory(t *testing.T) {
	withClients(t, func(r *rand.Rand, list []impl.Client) {
		roomy := withRoom(list, roomClient)
		q := randomCallQuestion(r, list)
		first, second := askCalls(roomy, q), askCalls(roomy, q)
		all := impl.ForgetClients(roomy, 0) // nothing is left out
		wantClientsApart(t, list, slices.Concat([][]impl.Client{roomy, all}, first.clients, second.clients))
	})
}

func TestEmptyAndNilClientsAreTheSame(t *testing.T) {
	r := newRandom(38)
	for range 1000 {
		if q := randomCallQuestion(r, nil); !sameCallAnswers(askCalls(nil, q), askCalls([]impl.Client{}, q)) {
			t.Fatalf("no entries are not as none for %v", q)
		}
	}
}

// TestClientFunctionsReturnForEveryArgument fails by a panic if they do not.
func TestClientFunctionsReturnForEveryArgument(t *testing.T) {
	r := newRandom(39)
	valid := 0
	for range 50000 {
		var list []impl.Client
		for range r.IntN(4) * r.IntN(5) {
			list = append(list, client(anyNumber(r), anyNumber(r), anyNumber(r), anyNumber(r)))
		}
		q := callQuestion{anyNumber(r), anyNumber(r), anyNumber(r), anyNumber(r)}
		if got, want := askCalls(list, q), wantedCallAnswers(list, q); !sameCallAnswers(got, want) {
			t.Fatalf("%v with %v: %v, want %v", list, q, got, want)
		}
		valid += bit(impl.ValidClients(list))
	}
	if valid < 2000 {
		t.Errorf("%d valid entries test too little", valid)
	}
}
