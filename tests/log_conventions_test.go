package tests

import (
	"math/rand/v2"
	"slices"
	"testing"

	"loop.example/processengine/impl"
)

var roomEntry = entry(-5, -5)

// logQuestion is what is asked about a log.
type logQuestion struct {
	number int
	term   int
	more   []impl.Entry
	has    []int
}

// logAnswers are the results of all functions for a log.
type logAnswers struct {
	log     []impl.Entry
	numbers []int
}

func askLog(list []impl.Entry, q logQuestion) logAnswers {
	next, ok := impl.AppendEntries(list, q.number, q.term, q.more)
	return logAnswers{
		log:     next,
		numbers: []int{bit(ok), bit(impl.ValidLog(list)), bit(impl.NewerLog(list, q.more)), bit(impl.NewerLog(q.more, list)), impl.CommonPart(list, q.more), impl.CommitPoint(list, q.has, q.term)},
	}
}

// wantedLogAnswers returns what askLog has to return.
func wantedLogAnswers(list []impl.Entry, q logQuestion) logAnswers {
	next, ok := wantedAppend(list, q.number, q.term, q.more)
	return logAnswers{
		log:     next,
		numbers: []int{bit(ok), bit(wantedLog(list)), bit(wantedNewer(list, q.more)), bit(wantedNewer(q.more, list)), wantedCommon(list, q.more), wantedCommit(list, q.has, q.term)},
	}
}

func (a logAnswers) copied() logAnswers {
	return logAnswers{log: slices.Clone(a.log), numbers: slices.Clone(a.numbers)}
}

// sameLogAnswers reports whether results are the same, where a nil slice is an empty one.
func sameLogAnswers(a logAnswers, b logAnswers) bool {
	return slices.Equal(a.log, b.log) && slices.Equal(a.numbers, b.numbers)
}

func randomLogQuestion(r *rand.Rand, list []impl.Entry) logQuestion {
	number := r.IntN(len(list) + 1)
	q := logQuestion{number, termBefore(list, number), moreFor(r, list, number), randomHas(r, list)}
	switch r.IntN(8) {
	case 0:
		q.number = anyNumber(r)
	case 1:
		q.term = anyNumber(r)
	case 2:
		q.more = alteredLog(r, q.more)
	case 3:
		q.has[r.IntN(len(q.has))] = anyNumber(r)
	}
	return q
}

func TestLogFunctionsLeaveTheirArguments(t *testing.T) {
	done, left := 0, 0
	withLogs(t, func(r *rand.Rand, list []impl.Entry) {
		q := randomLogQuestion(r, list)
		if r.IntN(8) == 0 {
			list = alteredLog(r, list)
		}
		roomy, roomyMore, roomyHas := withRoom(list, roomEntry), withRoom(q.more, roomEntry), withRoom(q.has, -5)
		same := func() bool {
			return sameRoom(roomy, list, roomEntry) && sameRoom(roomyMore, q.more, roomEntry) && sameRoom(roomyHas, q.has, -5)
		}
		asked := logQuestion{q.number, q.term, roomyMore, roomyHas}
		first := askLog(roomy, asked)
		if !same() {
			t.Fatalf("%v and %v have become %v and %v", list, q, roomy, asked)
		}
		want := first.copied()
		done += first.numbers[0]
		left += bit(first.numbers[0] == 0 && len(first.log) > 0)
		spoil(first.log, entry(-7, -7))
		if !same() {
			t.Fatalf("a result shares memory with an argument of %v, %v", list, q)
		}
		if !sameLogAnswers(askLog(roomy, asked), want) {
			t.Fatalf("the second results for %v, %v differ", list, q)
		}
	})
	if min(done, left) < 300 {
		t.Errorf("%d calls that succeed, and %d that leave the log, test too little", done, left)
	}
}

// wantLogsApart fails if logs share memory, for each of them is written over and then has to be as it was written.
func wantLogsApart(t *testing.T, what any, lists [][]impl.Entry) {
	t.Helper()
	for i, list := range lists {
		spoil(list, entry(i, -7))
	}
	for i, list := range lists {
		if slices.ContainsFunc(list[:cap(list)], func(e impl.Entry) bool { return e != entry(i, -7) }) {
			t.Fatalf("%v: the log %d shares memory with another one", what, i)
		}
	}
}

func TestLogsShareNoMemory(t *testing.T) {
	withLogs(t, func(r *rand.Rand, list []impl.Entry) {
		q := randomLogQuestion(r, list)
		roomy, more := withRoom(list, roomEntry), withRoom(q.more, roomEntry)
		lists := [][]impl.Entry{roomy, more}
		for range 2 {
			next, _ := impl.AppendEntries(roomy, q.number, q.term, more)
			none, _ := impl.AppendEntries(roomy, 0, 0, nil)
			there, _ := impl.AppendEntries(roomy, 0, 0, roomy)
			left, _ := impl.AppendEntries(roomy, 0, 1, more)
			all, _ := impl.AppendEntries(nil, 0, 0, more)
			lists = append(lists, next, none, there, left, all)
		}
		wantLogsApart(t, list, lists)
	})
}

func TestEmptyAndNilLogsAreTheSame(t *testing.T) {
	withLogs(t, func(r *rand.Rand, list []impl.Entry) {
		q := randomLogQuestion(r, nil)
		if !sameLogAnswers(askLog(nil, q), askLog([]impl.Entry{}, q)) {
			t.Fatalf("an empty log is not as none for %v", q)
		}
		q = randomLogQuestion(r, list)
		q.more = nil
		empty := q
		empty.more = []impl.Entry{}
		if !sameLogAnswers(askLog(list, q), askLog(list, empty)) {
			t.Fatalf("no entries for %v are not as none for %v", list, q)
		}
		q.has, empty.has = nil, []int{}
		if !sameLogAnswers(askLog(list, q), askLog(list, empty)) {
			t.Fatalf("no servers for %v are not as none for %v", list, q)
		}
	})
}

func anyLog(r *rand.Rand) []impl.Entry {
	var list []impl.Entry
	for range r.IntN(4) * r.IntN(7) {
		list = append(list, entry(anyNumber(r), anyNumber(r)))
	}
	return list
}

// TestLogFunctionsReturnForEveryArgument fails by a panic if they do not.
func TestLogFunctionsReturnForEveryArgument(t *testing.T) {
	r := newRandom(44)
	both := 0
	for range 50000 {
		list, q := anyLog(r), logQuestion{anyNumber(r), anyNumber(r), anyLog(r), anyNumbers(r, 3)}
		if got, want := askLog(list, q), wantedLogAnswers(list, q); !sameLogAnswers(got, want) {
			t.Fatalf("%v with %v: %v, want %v", list, q, got, want)
		}
		both += bit(impl.ValidLog(list) && impl.ValidLog(q.more))
	}
	if both < 2000 {
		t.Errorf("%d pairs of valid logs test too little", both)
	}
}
