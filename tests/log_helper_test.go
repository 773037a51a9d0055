package tests

import (
	"math/rand/v2"
	"slices"
	"sync"
	"testing"

	"loop.example/processengine/impl"
)

func entry(term int, op int) impl.Entry { return impl.Entry{Term: term, Op: op} }

// logOf returns a new log; no two logs share memory.
func logOf(list ...impl.Entry) []impl.Entry { return slices.Clone(list) }

// logOfTerms returns a log whose entries have some terms, and all different operations.
func logOfTerms(terms ...int) []impl.Entry {
	var list []impl.Entry
	for i, term := range terms {
		list = append(list, entry(term, 10+i))
	}
	return list
}

// termBefore returns the term of the entry with a number, which is 0 for the number 0.
func termBefore(list []impl.Entry, number int) int {
	if number == 0 {
		return 0
	}
	return list[number-1].Term
}

// lastOf returns the term of the last entry, which is 0 if there is none.
func lastOf(list []impl.Entry) int { return termBefore(list, len(list)) }

// termsOf returns the terms of all entries, in order.
func termsOf(list []impl.Entry) []int {
	var terms []int
	for _, e := range list {
		terms = append(terms, e.Term)
	}
	return terms
}

// otherOps returns a log with the same terms, and other operations.
func otherOps(list []impl.Entry) []impl.Entry {
	next := logOf(list...)
	for i := range next {
		next[i].Op = 99 - next[i].Op
	}
	return next
}

// fullLog returns a log with as many entries as the limit allows, in which all terms are there, and the least and the greatest operation.
func fullLog() []impl.Entry {
	var list []impl.Entry
	for i := range 16 {
		list = append(list, entry(1+i*9/16, i*33/5))
	}
	return list
}

// longLog returns a log with so many entries, all of one term.
func longLog(many int, term int) []impl.Entry {
	var list []impl.Entry
	for i := range many {
		list = append(list, entry(term, i%100))
	}
	return list
}

// grown returns a new log with up to so many entries more, whose terms do not fall.
func grown(r *rand.Rand, list []impl.Entry, many int) []impl.Entry {
	next := logOf(list...)
	term := max(lastOf(list), 1)
	for range r.IntN(many + 1) {
		if r.IntN(2) == 0 {
			term = min(term+1+r.IntN(2), impl.MaxTerm)
		}
		if len(next) < impl.MaxLog {
			next = append(next, entry(term, []int{0, 1, r.IntN(impl.MaxOp + 1), impl.MaxOp}[r.IntN(4)]))
		}
	}
	return next
}

// randomLog returns a valid log, which often is full, or has a term at the limit.
func randomLog(r *rand.Rand) []impl.Entry {
	many := []int{r.IntN(4), r.IntN(impl.MaxLog + 1), impl.MaxLog - r.IntN(2)}[r.IntN(3)]
	least := 1 + r.IntN(2)*r.IntN(impl.MaxTerm)
	var terms []int
	for range many {
		terms = append(terms, least+r.IntN(impl.MaxTerm-least+1)*r.IntN(2))
	}
	slices.Sort(terms)
	list := logOfTerms(terms...)
	for i := range list {
		list[i].Op = r.IntN(impl.MaxOp + 1)
	}
	return list
}

// relatedLog returns a log that begins like another one: a part of it, more than it, or other entries somewhere.
func relatedLog(r *rand.Rand, list []impl.Entry) []impl.Entry {
	next := logOf(list[:r.IntN(len(list)+1)]...)
	switch r.IntN(5) {
	case 0:
		return next
	case 1:
		next = logOf(list...)
		if len(list) > 0 {
			i := r.IntN(len(list))
			next[i].Op = impl.MaxOp - next[i].Op
		}
		return next
	case 2:
		return grown(r, list, 3)
	}
	return grown(r, next, 6)
}

// moreFor returns entries that can be put behind an entry of a log: some that it has, with these or other operations, and some more.
func moreFor(r *rand.Rand, list []impl.Entry, number int) []impl.Entry {
	there := list[number : number+r.IntN(len(list)-number+1)]
	if r.IntN(4) == 0 {
		there = otherOps(there)
	}
	if len(there) == 0 && number > 0 { // so that the terms do not fall behind the entry
		return without(grown(r, list[number-1:number], 4), 0)
	}
	if r.IntN(3) == 0 {
		return logOf(there...)
	}
	return grown(r, there, 4)
}

// smallLogs returns all logs of so many entries at most, with three terms and two operations.
func smallLogs(most int) [][]impl.Entry {
	all := [][]impl.Entry{nil}
	for i := 0; i < len(all); i++ { // all grows
		if len(all[i]) == most {
			continue
		}
		for term := max(lastOf(all[i]), 1); term <= 3; term++ {
			all = append(all, append(logOf(all[i]...), entry(term, 0)), append(logOf(all[i]...), entry(term, 1)))
		}
	}
	return all
}

// logs returns many valid logs. Nobody may change them.
var logs = sync.OnceValue(func() [][]impl.Entry {
	r := newRandom(41)
	list := append(smallLogs(3), fullLog(), longLog(16, 1), longLog(16, 9), logOf(entry(9, 99)), logOfTerms(1, 9))
	for range 3000 {
		list = append(list, randomLog(r))
	}
	return list
})

// withLogs calls a function with many valid logs.
func withLogs(t *testing.T, f func(r *rand.Rand, list []impl.Entry)) {
	t.Helper()
	r := newRandom(42)
	for _, list := range logs() {
		f(r, list)
	}
}

// withTwoLogs calls a function with all pairs of small logs, and with many others that have something in common.
func withTwoLogs(t *testing.T, f func(r *rand.Rand, a []impl.Entry, b []impl.Entry)) {
	t.Helper()
	r := newRandom(43)
	small := smallLogs(3)
	for _, a := range small {
		for _, b := range small {
			f(r, a, b)
		}
	}
	for _, a := range logs() {
		b := relatedLog(r, a)
		f(r, a, b)
		f(r, b, relatedLog(r, a))
		f(r, a, randomLog(r))
	}
}

// badLogs returns logs that are not valid, each for one reason alone.
func badLogs() [][]impl.Entry {
	bad := [][]impl.Entry{
		append(fullLog(), entry(9, 99)),
		longLog(17, 1),
		longLog(100, 9),
		logOfTerms(2, 1),
		logOfTerms(1, 1, 3, 2),
		logOfTerms(1, 3, 2, 3),
		logOfTerms(9, 8, 9),
	}
	for _, n := range append(outside(9), 0) {
		bad = append(bad, logOf(entry(n, 5)), logOf(entry(n, 5), entry(9, 5)), logOf(entry(1, 5), entry(n, 5)))
	}
	for _, n := range outside(99) {
		bad = append(bad, logOf(entry(2, n)), logOf(entry(1, n), entry(2, 5)), logOf(entry(1, 5), entry(2, n)))
	}
	return bad
}

func wantValidLog(t *testing.T, what string, list []impl.Entry, want bool) {
	t.Helper()
	if got := impl.ValidLog(list); got != want {
		t.Errorf("%s: ValidLog(%v) = %v", what, list, got)
	}
}

func wantAppended(t *testing.T, what string, list []impl.Entry, number int, term int, more []impl.Entry, want []impl.Entry) {
	t.Helper()
	if got, ok := impl.AppendEntries(list, number, term, more); !ok || !slices.Equal(got, want) {
		t.Errorf("%s: AppendEntries(%v, %d, %d, %v) = %v, %v, want %v", what, list, number, term, more, got, ok, want)
	}
}

// wantLeft fails if entries are put behind an entry, or if the log is not returned as it is.
func wantLeft(t *testing.T, what string, list []impl.Entry, number int, term int, more []impl.Entry) {
	t.Helper()
	if got, ok := impl.AppendEntries(list, number, term, more); ok || !slices.Equal(got, list) {
		t.Errorf("%s: AppendEntries(%v, %d, %d, %v) = %v, %v", what, list, number, term, more, got, ok)
	}
}

// wantNotAppended fails if there is a log.
func wantNotAppended(t *testing.T, what string, list []impl.Entry, number int, term int, more []impl.Entry) {
	t.Helper()
	if got, ok := impl.AppendEntries(list, number, term, more); ok || got != nil {
		t.Errorf("%s: AppendEntries(%v, %d, %d, %v) = %v, %v", what, list, number, term, more, got, ok)
	}
}

func wantNewer(t *testing.T, what string, a []impl.Entry, b []impl.Entry, want bool) {
	t.Helper()
	if got := impl.NewerLog(a, b); got != want {
		t.Errorf("%s: NewerLog(%v, %v) = %v", what, a, b, got)
	}
}

// wantCommon fails if two logs have not so many entries in common, in both orders.
func wantCommon(t *testing.T, what string, a []impl.Entry, b []impl.Entry, want int) {
	t.Helper()
	if x, y := impl.CommonPart(a, b), impl.CommonPart(b, a); x != want || y != want {
		t.Errorf("%s: CommonPart(%v, %v) = %d, in the other order %d, want %d", what, a, b, x, y, want)
	}
}

func wantCommit(t *testing.T, what string, list []impl.Entry, has []int, term int, want int) {
	t.Helper()
	if got := impl.CommitPoint(list, has, term); got != want {
		t.Errorf("%s: CommitPoint(%v, %v, %d) = %d, want %d", what, list, has, term, got, want)
	}
}

// haveAt returns how many servers have the entry with a number.
func haveAt(has []int, number int) int {
	servers := 0
	for _, many := range has {
		servers += bit(many >= number)
	}
	return servers
}

// randomHas returns how many entries servers have, most of them near the length of a log.
func randomHas(r *rand.Rand, list []impl.Entry) []int {
	var has []int
	for range 1 + r.IntN(impl.MaxServers) {
		many := []int{0, len(list), r.IntN(len(list) + 1), r.IntN(len(list) + 1), r.IntN(impl.MaxLog + 1), impl.MaxLog}[r.IntN(6)]
		has = append(has, many)
	}
	return has
}

// badHas returns what cannot be the numbers of the entries that servers have.
func badHas() [][]int {
	bad := [][]int{nil, {}, {3, 3, 3, 3, 3, 3, 3, 3}, slices.Repeat([]int{3}, 1000)}
	for _, n := range outside(16) {
		bad = append(bad, []int{n}, []int{n, 3, 3}, []int{3, n, 3}, []int{3, 3, n}, []int{3, 3, 3, 3, 3, 3, n})
	}
	return bad
}
