package tests

import (
	"math"
	"math/rand/v2"
	"slices"
	"testing"

	"loop.example/processengine/impl"
)

func TestLogConstants(t *testing.T) {
	wantList(t, "limits", []int{impl.MaxTerm, impl.MaxOp, impl.MaxLog, impl.MaxServers}, 9, 99, 16, 7)
}

func TestValidLog(t *testing.T) {
	wantValidLog(t, "nil", nil, true)
	wantValidLog(t, "an empty log", []impl.Entry{}, true)
	wantValidLog(t, "the least term and operation", logOf(entry(1, 0)), true)
	wantValidLog(t, "the greatest term and operation", logOf(entry(9, 99)), true)
	wantValidLog(t, "the term 0", logOf(entry(0, 5)), false)
	wantValidLog(t, "equal entries", logOf(entry(2, 5), entry(2, 5), entry(2, 5)), true)
	wantValidLog(t, "terms that grow by more than 1", logOfTerms(1, 4, 4, 9), true)
	wantValidLog(t, "all terms", logOfTerms(1, 2, 3, 4, 5, 6, 7, 8, 9), true)
	wantValidLog(t, "a first term that is not 1", logOfTerms(7, 7), true)
	wantValidLog(t, "operations that fall", logOf(entry(1, 99), entry(1, 50), entry(2, 0)), true)
	wantValidLog(t, "as many entries as the limit", fullLog(), true)
	for _, many := range []int{17, 18, 100, 100000} {
		list := longLog(many, 3)
		wantValidLog(t, "too many entries", list, false)
		wantValidLog(t, "as many of them as the limit", list[:16], true)
		wantValidLog(t, "the last ones of them", list[many-16:], true)
	}
	for _, list := range badLogs() {
		wantValidLog(t, "a bad one", list, false)
	}
	for i := range 16 { // one bad entry at each place
		for _, bad := range []impl.Entry{entry(0, 5), entry(-1, 5), entry(10, 5), entry(5, -1), entry(5, 100), entry(math.MaxInt, 5), entry(5, math.MinInt)} {
			list := longLog(16, 5)
			list[i] = bad
			wantValidLog(t, "a full one with a bad entry", list, false)
		}
		list := longLog(16, 5)
		list[i].Term = 4
		wantValidLog(t, "a full one with a term that is less", list, i == 0)
		list[i].Term = 6
		wantValidLog(t, "a full one with a term that is greater", list, i == 15)
	}
}

func TestLogsThatAreNotValid(t *testing.T) {
	some := [][]impl.Entry{nil, {}, logOf(entry(1, 5)), logOfTerms(1, 2, 3), fullLog()}
	for _, bad := range badLogs() {
		for _, list := range append(some, bad) {
			for number := -1; number <= 18; number++ {
				for _, term := range []int{-1, 0, 1, 2, 3, 9, 10} {
					wantNotAppended(t, "behind a log that is not valid", bad, number, term, list)
					wantNotAppended(t, "entries that are no valid log", list, number, term, bad)
				}
			}
			wantNewer(t, "a log that is not valid", bad, list, false)
			wantNewer(t, "than a log that is not valid", list, bad, false)
			wantCommon(t, "a log that is not valid", bad, list, -1)
		}
		for _, term := range extremes {
			wantCommit(t, "a log that is not valid", bad, []int{1, 1, 1}, term, -1)
			wantCommit(t, "a log that is not valid, and no entries", bad, []int{0}, term, -1)
		}
	}
}

func TestAppendEntries(t *testing.T) {
	list := logOfTerms(1, 1, 2)
	wantAppended(t, "behind the last one", list, 3, 2, logOf(entry(2, 5), entry(4, 6)), append(logOf(list...), entry(2, 5), entry(4, 6)))
	wantAppended(t, "at the beginning of an empty log", nil, 0, 0, logOf(entry(3, 5)), logOf(entry(3, 5)))
	wantAppended(t, "at the beginning of an empty log that is not nil", []impl.Entry{}, 0, 0, logOf(entry(3, 5)), logOf(entry(3, 5)))
	wantAppended(t, "nothing behind nothing", nil, 0, 0, nil, nil)
	wantAppended(t, "from the beginning on, all there already", list, 0, 0, list, list)
	wantAppended(t, "from the beginning on, and more", list, 0, 0, logOfTerms(1, 1, 2, 5), logOfTerms(1, 1, 2, 5))
	wantAppended(t, "from the beginning on, another term", list, 0, 0, logOf(entry(2, 5)), logOf(entry(2, 5)))
	for number, term := range []int{0, 1, 1, 2} {
		wantAppended(t, "none", list, number, term, nil, list)
		wantAppended(t, "no entries", list, number, term, []impl.Entry{}, list)
		for end := number; end <= 3; end++ {
			wantAppended(t, "entries that are there", list, number, term, list[number:end], list)
			wantAppended(t, "entries that are there, with other operations", list, number, term, otherOps(list[number:end]), list)
		}
	}
	wantAppended(t, "an entry of another term", list, 1, 1, logOf(entry(2, 5)), append(logOf(list[:1]...), entry(2, 5)))
	wantAppended(t, "another term in the place of the last one", list, 2, 1, logOf(entry(3, 5)), append(logOf(list[:2]...), entry(3, 5)))
	wantAppended(t, "a term that is less in the place of the last one", list, 2, 1, logOf(entry(1, 5)), append(logOf(list[:2]...), entry(1, 5)))
	wantAppended(t, "another term behind one that is there", list, 1, 1, logOf(entry(1, 70), entry(3, 5)), append(logOf(list[:2]...), entry(3, 5)))
	wantAppended(t, "an entry that is there and one more", list, 2, 1, logOf(entry(2, 70), entry(2, 5)), append(logOf(list...), entry(2, 5)))
	wantAppended(t, "the log is cut although later terms are the same", logOfTerms(1, 3, 4, 4), 1, 1, logOf(entry(2, 5), entry(4, 6)), logOf(entry(1, 10), entry(2, 5), entry(4, 6)))
	wantAppended(t, "the log is cut far before its end", fullLog(), 0, 0, logOf(entry(9, 5)), logOf(entry(9, 5)))
	wantNotAppended(t, "a term that is less than that of the entry before", list, 3, 2, logOf(entry(1, 5)))
	wantNotAppended(t, "a term that is less in the place of an entry", list, 3, 2, logOf(entry(1, 5), entry(2, 6)))
	wantNotAppended(t, "a term that is less than that of the entry before, where the log is cut", logOfTerms(2, 4, 5), 2, 4, logOf(entry(3, 5)))
	wantNotAppended(t, "another term that is less", logOfTerms(2, 4), 1, 2, logOf(entry(1, 5)))
}

// TestAppendEntriesBehindWhatIsNotThere has terms and numbers that the log does not have, where the log itself is the result.
func TestAppendEntriesBehindWhatIsNotThere(t *testing.T) {
	list := logOfTerms(1, 1, 2)
	for _, more := range [][]impl.Entry{nil, {}, logOf(entry(1, 5)), logOf(entry(2, 5)), logOf(entry(9, 99)), list, fullLog()} {
		for number := range 4 {
			for _, term := range extremes {
				if term != termBefore(list, number) {
					wantLeft(t, "another term", list, number, term, more)
				}
			}
		}
		for _, number := range []int{math.MinInt, -2, -1, 4, 5, 15, 16, 17, 18, math.MaxInt - 1, math.MaxInt} {
			for _, term := range extremes {
				wantLeft(t, "a number that the log does not have", list, number, term, more)
				wantLeft(t, "a number that an empty log does not have", nil, number, term, more)
				wantLeft(t, "a number that an empty log does not have", []impl.Entry{}, number, term, more)
			}
		}
		for _, term := range []int{-1, 1, 2, 9, 10} {
			wantLeft(t, "the number 0 with another term", list, 0, term, more)
			wantLeft(t, "the number 0 with another term", nil, 0, term, more)
			wantLeft(t, "the number 1 of an empty log", nil, 1, term, more)
		}
		wantLeft(t, "the number 1 of an empty log with the term 0", nil, 1, 0, more)
		wantLeft(t, "behind the limit", fullLog(), 17, 9, more)
		wantLeft(t, "before the limit, with another term", fullLog(), 16, 8, more)
	}
}

func TestAppendEntriesUpToTheLimit(t *testing.T) {
	full := longLog(16, 3)
	for number := range 17 {
		there := full[:number]
		left := 16 - number
		wantAppended(t, "as many as the limit", there, number, termBefore(there, number), full[number:], full)
		wantAppended(t, "as many as the limit, in the place of others", full, number, termBefore(full, number), longLog(left, 4), slices.Concat(there, longLog(left, 4)[:left]))
		if number > 0 {
			wantNotAppended(t, "one more than the limit", there, number, 3, longLog(left+1, 3))
			wantNotAppended(t, "one more than the limit, all others there", full, number, 3, longLog(left+1, 3))
			wantNotAppended(t, "one more than the limit, in the place of others", full, number, 3, longLog(left+1, 4))
			wantNotAppended(t, "far more than the limit", there, number, 3, full)
		}
		wantAppended(t, "none behind a full one", full, number, termBefore(full, number), nil, full)
	}
	wantNotAppended(t, "more entries than a log can have", nil, 0, 0, longLog(17, 3))
	wantNotAppended(t, "more entries than a log can have, behind another term", nil, 0, 5, longLog(17, 3))
	wantLeft(t, "more than the limit, but behind another term", full, 16, 2, full)
}

func TestNewerLog(t *testing.T) {
	a, b := logOfTerms(1, 1, 2), logOfTerms(1, 2)
	wantNewer(t, "longer, with the same last term", a, b, true)
	wantNewer(t, "shorter, with the same last term", b, a, false)
	wantNewer(t, "itself", a, a, true)
	wantNewer(t, "equal ones", a, logOf(a...), true)
	wantNewer(t, "other operations", a, otherOps(a), true)
	wantNewer(t, "other operations, in the other order", otherOps(a), a, true)
	wantNewer(t, "other terms before the last one", logOfTerms(1, 1, 2), logOfTerms(2, 2, 2), true)
	wantNewer(t, "other terms before the last one, in the other order", logOfTerms(2, 2, 2), logOfTerms(1, 1, 2), true)
	wantNewer(t, "shorter, with a greater last term", logOfTerms(3), a, true)
	wantNewer(t, "longer, with a last term that is less", a, logOfTerms(3), false)
	wantNewer(t, "one against a full one", logOfTerms(4), longLog(16, 3), true)
	wantNewer(t, "a full one against one", longLog(16, 3), logOfTerms(4), false)
	wantNewer(t, "a full one against a shorter one", longLog(16, 3), longLog(15, 3), true)
	wantNewer(t, "none and none", nil, nil, true)
	wantNewer(t, "none and an empty one", nil, []impl.Entry{}, true)
	wantNewer(t, "an empty one and none", []impl.Entry{}, nil, true)
	for _, list := range [][]impl.Entry{a, b, fullLog(), logOf(entry(1, 0)), logOf(entry(9, 99))} {
		wantNewer(t, "any against none", list, nil, true)
		wantNewer(t, "none against any", nil, list, false)
		wantNewer(t, "an empty one against any", []impl.Entry{}, list, false)
	}
}

func TestCommonPart(t *testing.T) {
	a := logOfTerms(1, 1, 2, 5)
	wantCommon(t, "none and none", nil, nil, 0)
	wantCommon(t, "none and an empty one", nil, []impl.Entry{}, 0)
	wantCommon(t, "itself", a, a, 4)
	wantCommon(t, "equal ones", a, logOf(a...), 4)
	wantCommon(t, "full ones", fullLog(), fullLog(), 16)
	for i := range a {
		wantCommon(t, "a beginning", a, a[:i], i)
		op := logOf(a...)
		op[i].Op++
		wantCommon(t, "another operation, the same behind it", a, op, i)
		wantCommon(t, "another operation at the end", a, op[:i+1], i)
	}
	wantCommon(t, "another term, the same behind it", a, logOf(a[0], entry(2, 11), a[2], a[3]), 1)
	wantCommon(t, "another term at the end", a, logOf(a[0], a[1], a[2], entry(6, 13)), 3)
	wantCommon(t, "another first one", a, logOf(entry(1, 9), a[1], a[2], a[3]), 0)
	wantCommon(t, "an end", a, a[1:], 0)
	wantCommon(t, "the term and the operation exchanged", logOf(entry(2, 3)), logOf(entry(3, 2)), 0)
	for i := range 16 {
		other := fullLog()
		other[i].Op = (other[i].Op + 1) % 100
		wantCommon(t, "a full one with another operation", fullLog(), other, i)
	}
}

func TestCommitPoint(t *testing.T) {
	list := logOfTerms(1, 1, 2, 2, 5)
	wantCommit(t, "all have all", list, []int{5, 5, 5}, 5, 5)
	wantCommit(t, "most have all", list, []int{5, 0, 5}, 5, 5)
	wantCommit(t, "half of them have all", list, []int{5, 0, 5, 0}, 5, 0)
	wantCommit(t, "less than half of them have all", list, []int{5, 4, 4, 5, 4}, 5, 0)
	wantCommit(t, "just more than half of them", list, []int{5, 4, 4, 5, 5}, 5, 5)
	wantCommit(t, "an entry of the term before", list, []int{5, 4, 4}, 2, 4)
	wantCommit(t, "the first one of a term", list, []int{5, 3, 3}, 2, 3)
	wantCommit(t, "not up to the first one of the term", list, []int{5, 2, 2}, 2, 0)
	wantCommit(t, "of an old term, although most have more", list, []int{5, 5, 5}, 1, 2)
	wantCommit(t, "a term between that no entry has", list, []int{5, 5, 5}, 3, 0)
	wantCommit(t, "a greater term", list, []int{5, 5, 5}, 6, 0)
	wantCommit(t, "the greatest term", list, []int{5, 5, 5}, 9, 0)
	wantCommit(t, "a term before that no entry has", logOfTerms(2, 3), []int{2}, 1, 0)
	wantCommit(t, "servers have more than the log", list, []int{16, 16, 0}, 5, 5)
	wantCommit(t, "servers have more than the log, of an old term", list, []int{16, 0, 16}, 2, 4)
	wantCommit(t, "no server has anything", list, []int{0, 0, 0}, 1, 0)
	wantCommit(t, "an empty log", nil, []int{0}, 1, 0)
	wantCommit(t, "an empty log, and servers that have more", []impl.Entry{}, []int{16, 16}, 1, 0)
	wantCommit(t, "the term of an empty log", nil, []int{0, 0}, 0, 0)
	wantCommit(t, "a full one", fullLog(), []int{16, 16, 15, 16, 0, 0, 16}, 9, 16)
	wantCommit(t, "a full one, one server less", fullLog(), []int{16, 16, 15, 15, 0, 0, 16}, 9, 0)
	wantCommit(t, "the term before the last one of a full one", fullLog(), []int{16, 16, 15, 15, 0, 0, 16}, 8, 15)
	for _, many := range []int{1, 2, 3, 4, 5, 6, 7} {
		for with := range many + 1 {
			has := append(slices.Repeat([]int{5}, with), slices.Repeat([]int{0}, many-with)...)
			wantCommit(t, "some of the servers", list, has, 5, 5*bit(2*with > many))
			slices.Reverse(has)
			wantCommit(t, "some of the servers, the last ones", list, has, 5, 5*bit(2*with > many))
		}
	}
	for n := range 17 { // one server alone
		wantCommit(t, "one server", longLog(16, 3), []int{n}, 3, n)
		wantCommit(t, "one of two servers", longLog(16, 3), []int{n, 8}, 3, min(n, 8))
		wantCommit(t, "the middle one of three servers", longLog(16, 3), []int{16, n, 0}, 3, n)
	}
}

// TestCommitPointOfOtherTerms holds how the document is read where it does not say it: a term that no entry can have
// is one of which there is no entry, for the section gives the term no range, and that of an empty log is 0.
func TestCommitPointOfOtherTerms(t *testing.T) {
	for _, list := range [][]impl.Entry{nil, {}, logOfTerms(1, 1, 2), fullLog()} {
		for _, term := range append(outside(9), 0) {
			wantCommit(t, "a term outside the range", list, []int{16, 16, 16}, term, 0)
			wantCommit(t, "a term outside the range", list, []int{0}, term, 0)
			for _, has := range badHas() {
				wantCommit(t, "a term outside the range, and servers, too", list, has, term, -1)
			}
		}
	}
}

func TestCommitPointOfServersThatCannotBe(t *testing.T) {
	for _, has := range badHas() {
		for _, list := range [][]impl.Entry{nil, {}, logOfTerms(1, 1, 2), fullLog()} {
			for _, term := range extremes {
				wantCommit(t, "servers that cannot be", list, has, term, -1)
			}
		}
	}
	wantCommit(t, "as many servers as the limit", logOfTerms(1, 1, 2), slices.Repeat([]int{2}, 7), 1, 2)
	wantCommit(t, "one more server than the limit", logOfTerms(1, 1, 2), slices.Repeat([]int{2}, 8), 1, -1)
	wantCommit(t, "as many entries as the limit", logOfTerms(1, 1, 2), []int{16}, 2, 3)
	wantCommit(t, "one more entry than the limit", logOfTerms(1, 1, 2), []int{17}, 2, -1)
}

// TestSmallLogs compares the functions for all pairs of small logs with what they have to be.
func TestSmallLogs(t *testing.T) {
	small := smallLogs(3)
	for _, a := range small {
		for _, b := range small {
			if got, want := impl.NewerLog(a, b), wantedNewer(a, b); got != want {
				t.Fatalf("NewerLog(%v, %v) = %v", a, b, got)
			}
			if got, want := impl.CommonPart(a, b), wantedCommon(a, b); got != want {
				t.Fatalf("CommonPart(%v, %v) = %d, want %d", a, b, got, want)
			}
			for number := -1; number <= 4; number++ {
				for term := -1; term <= 4; term++ {
					got, ok := impl.AppendEntries(a, number, term, b)
					want, wantOk := wantedAppend(a, number, term, b)
					if ok != wantOk || !slices.Equal(got, want) {
						t.Fatalf("AppendEntries(%v, %d, %d, %v) = %v, %v, want %v, %v", a, number, term, b, got, ok, want, wantOk)
					}
				}
			}
		}
		for i := range 7 * 7 * 7 { // up to three servers, with numbers beyond the log
			has := []int{i % 7, i / 7 % 7, i / 49}[:1+i%3]
			for term := -1; term <= 4; term++ {
				if got, want := impl.CommitPoint(a, has, term), wantedCommit(a, has, term); got != want {
					t.Fatalf("CommitPoint(%v, %v, %d) = %d, want %d", a, has, term, got, want)
				}
			}
		}
	}
}

// alteredLog returns a log with one thing changed, so that often it is not valid any more.
func alteredLog(r *rand.Rand, list []impl.Entry) []impl.Entry {
	next := logOf(list...)
	if len(list) == 0 {
		return append(next, entry(anyNumber(r), r.IntN(100)))
	}
	i := r.IntN(len(list))
	switch k := r.IntN(5); k {
	case 0:
		next = append(next, entry(lastOf(next), r.IntN(100)))
	case 1:
		next = slices.Insert(next, i, entry(r.IntN(impl.MaxTerm)+1, 5))
	case 2:
		next[0], next[i] = next[i], next[0]
	case 3:
		next[i].Term = anyNumber(r)
	case 4:
		next[i].Op = anyNumber(r)
	}
	return next
}

// TestRandomAppends compares what is put behind the entries of many logs, valid or not, with what it has to be.
func TestRandomAppends(t *testing.T) {
	done := map[string]int{}
	withLogs(t, func(r *rand.Rand, list []impl.Entry) {
		for range 4 {
			number := r.IntN(len(list) + 1)
			term, more := termBefore(list, number), moreFor(r, list, number)
			if r.IntN(4) == 0 {
				number, term = anyNumber(r), anyNumber(r)
			}
			x := list
			switch r.IntN(8) {
			case 0:
				x = alteredLog(r, list)
			case 1:
				more = alteredLog(r, more)
			}
			got, ok := impl.AppendEntries(x, number, term, more)
			want, wantOk := wantedAppend(x, number, term, more)
			if ok != wantOk || !slices.Equal(got, want) {
				t.Fatalf("AppendEntries(%v, %d, %d, %v) = %v, %v, want %v, %v", x, number, term, more, got, ok, want, wantOk)
			}
			done["appended"] += bit(ok)
			done["changed"] += bit(ok && !slices.Equal(got, x))
			done["left"] += bit(!ok && len(got) > 0)
			done["not appended"] += bit(!ok && len(got) == 0)
		}
	})
	for _, what := range []string{"appended", "changed", "left", "not appended"} {
		if done[what] < 1000 {
			t.Errorf("%d times '%s' test too little", done[what], what)
		}
	}
}

// TestRandomLogs compares the other functions for many logs, valid or not, with what they have to be.
func TestRandomLogs(t *testing.T) {
	valid, committed, not := 0, 0, 0
	withLogs(t, func(r *rand.Rand, list []impl.Entry) {
		for range 4 {
			x, y := list, relatedLog(r, list)
			if r.IntN(6) == 0 {
				x = alteredLog(r, x)
			}
			wantValidLog(t, "a random one", x, wantedLog(x))
			wantNewer(t, "related logs", x, y, wantedNewer(x, y))
			wantNewer(t, "related logs in the other order", y, x, wantedNewer(y, x))
			wantCommon(t, "related logs", x, y, wantedCommon(x, y))
			has, term := randomHas(r, x), termBefore(x, r.IntN(len(x)+1))
			if r.IntN(8) == 0 {
				has[0], term = anyNumber(r), anyNumber(r)
			}
			want := wantedCommit(x, has, term)
			wantCommit(t, "a random one", x, has, term, want)
			valid += bit(wantedLog(x))
			committed += bit(want > 0)
			not += bit(want == 0)
		}
		if t.Failed() {
			t.FailNow()
		}
	})
	if min(valid, committed, not) < 3000 {
		t.Errorf("%d valid logs, %d commit points and %d that are none test too little", valid, committed, not)
	}
}
