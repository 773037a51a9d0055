package tests

import (
	"math/rand/v2"
	"slices"
	"testing"

	"loop.example/processengine/impl"
)

// appended is a call of AppendEntries that succeeds, and the log behind it.
type appended struct {
	list   []impl.Entry
	number int
	term   int
	more   []impl.Entry
	next   []impl.Entry
	// same is how many of the entries that are sent have the term of the one that is there, before the first one that has not.
	same int
}

// cuts reports whether an entry that is there has another term than the one that is sent.
func (a appended) cuts() bool { return a.same < len(a.more) && a.number+a.same < len(a.list) }

// withAppended calls a function with many entries that are put behind others.
func withAppended(t *testing.T, f func(r *rand.Rand, a appended)) {
	t.Helper()
	cut, longer, same := 0, 0, 0
	withLogs(t, func(r *rand.Rand, list []impl.Entry) {
		for _, number := range []int{0, r.IntN(len(list) + 1), r.IntN(len(list) + 1), len(list)} {
			a := appended{list: list, number: number, term: termBefore(list, number), more: moreFor(r, list, number)}
			for a.same < len(a.more) && number+a.same < len(list) && a.more[a.same].Term == list[number+a.same].Term {
				a.same++
			}
			next, ok := impl.AppendEntries(list, number, a.term, a.more)
			// Only this limit may be in the way.
			if full := number+len(a.more) > impl.MaxLog; ok == full || !ok && next != nil || ok && !impl.ValidLog(next) {
				t.Fatalf("AppendEntries(%v, %d, %d, %v) = %v, %v", list, number, a.term, a.more, next, ok)
			}
			if !ok {
				continue
			}
			a.next = next
			f(r, a)
			cut += bit(a.cuts())
			longer += bit(!a.cuts() && a.same < len(a.more))
			same += bit(a.same == len(a.more))
		}
	})
	if min(cut, longer, same) < 1500 {
		t.Errorf("%d logs that are cut, %d that get longer and %d that stay test too little", cut, longer, same)
	}
}

// wantBadLogsFail fails if a function succeeds for a log that is not valid.
func wantBadLogsFail(t *testing.T, succeeds func(list []impl.Entry) bool) {
	t.Helper()
	for _, list := range badLogs() {
		if succeeds(list) {
			t.Errorf("a call for %v succeeds", list)
		}
	}
}

// appends reports whether a log is the result if nothing, or an entry, is put behind a log, or before its first entry.
func appends(list []impl.Entry) bool {
	for _, more := range [][]impl.Entry{nil, {}, list, logOf(entry(9, 5))} {
		for _, number := range []int{-1, 0, 1, len(list), len(list) + 1} {
			for _, term := range []int{0, 1, 2, lastOf(list)} {
				if next, ok := impl.AppendEntries(list, number, term, more); ok || next != nil {
					return true
				}
			}
		}
	}
	return false
}

// areSent reports whether a log is the result if some entries are put into a log.
func areSent(more []impl.Entry) bool {
	for _, list := range [][]impl.Entry{nil, {}, logOf(entry(1, 5)), fullLog()} {
		for _, number := range []int{-1, 0, 1, 2} {
			for _, term := range []int{0, 1, 2} {
				if next, ok := impl.AppendEntries(list, number, term, more); ok || next != nil {
					return true
				}
			}
		}
	}
	return false
}

// newer reports whether a log is newer than another one, or another one than it.
func newer(list []impl.Entry) bool {
	return impl.NewerLog(list, nil) || impl.NewerLog(nil, list) || impl.NewerLog(list, list) || impl.NewerLog(fullLog(), list) || impl.NewerLog(list, fullLog())
}

func haveCommon(list []impl.Entry) bool {
	return impl.CommonPart(list, nil) != -1 || impl.CommonPart(nil, list) != -1 || impl.CommonPart(list, list) != -1 || impl.CommonPart(list, fullLog()) != -1 || impl.CommonPart(fullLog(), list) != -1
}

func commits(list []impl.Entry) bool {
	return impl.CommitPoint(list, []int{1, 1, 1}, lastOf(list)) != -1 || impl.CommitPoint(list, []int{0}, 1) != -1
}

func TestPromise73LogsHaveBeginnings(t *testing.T) {
	shorter := 0
	withLogs(t, func(r *rand.Rand, list []impl.Entry) {
		for next := list; ; shorter++ {
			if !impl.ValidLog(next) {
				t.Fatalf("%v is not valid", next)
			}
			for i := range next { // nor is it with one bad entry
				for _, bad := range []impl.Entry{entry(0, 5), entry(impl.MaxTerm+1, 5), entry(next[i].Term, -1), entry(next[i].Term, impl.MaxOp+1)} {
					other := logOf(next...)
					if other[i] = bad; impl.ValidLog(other) {
						t.Fatalf("%v is valid", other)
					}
				}
			}
			if last := lastOf(next); last > 1 && impl.ValidLog(append(logOf(next...), entry(last-1, 5))) {
				t.Fatalf("%v with a last term that is less is valid", next)
			}
			if len(next) == 0 {
				return
			}
			next = next[:len(next)-1]
		}
	})
	if shorter < 5000 {
		t.Errorf("%d logs with entries test too little", shorter)
	}
	wantBadLogsFail(t, impl.ValidLog)
}

func TestPromise74WhatWasSentIsThere(t *testing.T) {
	withAppended(t, func(r *rand.Rand, a appended) {
		if len(a.next) < a.number+len(a.more) || !slices.Equal(a.next[:a.number], a.list[:a.number]) {
			t.Fatalf("%v have become %v", a, a.next)
		}
		for i, e := range a.more {
			if a.next[a.number+i].Term != e.Term {
				t.Fatalf("%v: the entry %d of %v has another term", a, i, a.next)
			}
		}
		if behind := a.number + a.same; !slices.Equal(a.next[:behind], a.list[:behind]) {
			t.Fatalf("%v: entries that are there already are changed", a)
		}
		if !slices.Equal(a.next[a.number+a.same:a.number+len(a.more)], a.more[a.same:]) {
			t.Fatalf("%v: entries that were not there are not as they were sent", a)
		}
	})
	wantBadLogsFail(t, appends)
	wantBadLogsFail(t, areSent)
}

func TestPromise75EntriesCanBeSentTwice(t *testing.T) {
	withAppended(t, func(r *rand.Rand, a appended) {
		wantAppended(t, "sent again", a.next, a.number, a.term, a.more, a.next)
		end := r.IntN(len(a.more) + 1)
		wantAppended(t, "sent again in part", a.next, a.number, a.term, a.more[:end], a.next)
		wantAppended(t, "sent again with other operations", a.next, a.number, a.term, otherOps(a.more), a.next)
		if t.Failed() {
			t.FailNow()
		}
	})
	wantBadLogsFail(t, appends)
	wantBadLogsFail(t, areSent)
}

func TestPromise76OldEntriesDoNoHarm(t *testing.T) {
	withLogs(t, func(r *rand.Rand, list []impl.Entry) {
		for number := range len(list) + 1 {
			term := termBefore(list, number)
			wantAppended(t, "none", list, number, term, nil, list)
			wantAppended(t, "no entries", list, number, term, []impl.Entry{}, list)
			for end := number; end <= len(list); end++ {
				wantAppended(t, "entries that are there", list, number, term, list[number:end], list)
			}
			wantAppended(t, "entries with the terms of those that are there", list, number, term, otherOps(list[number:]), list)
		}
		if t.Failed() {
			t.FailNow()
		}
	})
	wantBadLogsFail(t, appends)
	wantBadLogsFail(t, areSent)
}

func TestPromise77OtherTermsCutTheLog(t *testing.T) {
	withAppended(t, func(r *rand.Rand, a appended) {
		part := min(len(a.next), len(a.list))
		changed := len(a.next) < len(a.list) || !slices.Equal(a.next[:part], a.list[:part])
		if changed != a.cuts() {
			t.Fatalf("%v: an entry that was there has changed: %v", a, changed)
		}
		if !changed {
			return
		}
		if len(a.next) != a.number+len(a.more) || !slices.Equal(termsOf(a.next[a.number:]), termsOf(a.more)) || !slices.Equal(a.next[a.number+a.same:], a.more[a.same:]) {
			t.Fatalf("%v: %v does not end with the entries that were sent", a, a.next)
		}
	})
	wantBadLogsFail(t, appends)
	wantBadLogsFail(t, areSent)
}

func TestPromise147EntriesHaveToFit(t *testing.T) {
	withLogs(t, func(r *rand.Rand, list []impl.Entry) {
		more := []impl.Entry{}
		if r.IntN(4) > 0 {
			more = randomLog(r)
		}
		for number := -2; number <= impl.MaxLog+2; number++ {
			for _, term := range []int{-1, 0, 1, 2, lastOf(list), lastOf(list) + 1, r.IntN(impl.MaxTerm + 1), anyNumber(r)} {
				if number < 0 || number > len(list) || term != termBefore(list, number) {
					wantLeft(t, "an entry that is not there", list, number, term, more)
				}
			}
		}
		for _, number := range outside(impl.MaxLog) {
			for _, term := range []int{0, lastOf(list), anyNumber(r)} {
				wantLeft(t, "a number that no log has", list, number, term, more)
			}
		}
		wantLeft(t, "another term for itself", list, len(list), lastOf(list)+1, list)
		number := r.IntN(len(list) + 1) // and behind an entry that is there it succeeds
		wantAppended(t, "an entry that is there", list, number, termBefore(list, number), list[number:], list)
		if t.Failed() {
			t.FailNow()
		}
	})
	wantBadLogsFail(t, appends)
	wantBadLogsFail(t, areSent)
}

func TestPromise176LogsDoNotLoseMoreThanTheyMust(t *testing.T) {
	withAppended(t, func(r *rand.Rand, a appended) {
		if !a.cuts() && (len(a.next) < len(a.list) || !slices.Equal(a.next[:len(a.list)], a.list)) {
			t.Fatalf("%v: only %v is left", a, a.next)
		}
		if !a.cuts() && len(a.next) != max(len(a.list), a.number+len(a.more)) {
			t.Fatalf("%v: %v has another length", a, a.next)
		}
	})
	wantBadLogsFail(t, appends)
	wantBadLogsFail(t, areSent)
}

func TestPromise78OneOfTwoLogsIsAtLeastAsNew(t *testing.T) {
	one, both := 0, 0
	withTwoLogs(t, func(r *rand.Rand, a []impl.Entry, b []impl.Entry) {
		x, y := impl.NewerLog(a, b), impl.NewerLog(b, a)
		same := len(a) == len(b) && lastOf(a) == lastOf(b)
		if !x && !y || x && y != same {
			t.Fatalf("NewerLog(%v, %v) = %v, in the other order %v", a, b, x, y)
		}
		// The last term is what counts first.
		if x && lastOf(a) < lastOf(b) || y && lastOf(b) < lastOf(a) {
			t.Fatalf("NewerLog(%v, %v) = %v, in the other order %v", a, b, x, y)
		}
		one += bit(x != y)
		both += bit(x && y)
	})
	if min(one, both) < 1500 {
		t.Errorf("%d pairs that hold in one order, and %d in both, test too little", one, both)
	}
	wantBadLogsFail(t, newer)
}

func TestPromise79LogsAreNewerThanTheirBeginnings(t *testing.T) {
	withLogs(t, func(r *rand.Rand, list []impl.Entry) {
		for end := range len(list) + 1 {
			wantNewer(t, "a beginning", list, list[:end], true)
			wantNewer(t, "a beginning in the other order", list[:end], list, end == len(list))
		}
		if t.Failed() {
			t.FailNow()
		}
	})
	wantBadLogsFail(t, newer)
}

func TestPromise148LongerLogsAreNewer(t *testing.T) {
	longer := 0
	withLogs(t, func(r *rand.Rand, list []impl.Entry) {
		if len(list) == 0 || len(list) == impl.MaxLog {
			return
		}
		next := append(logOf(list...), entry(lastOf(list), r.IntN(impl.MaxOp+1)))
		wantNewer(t, "an entry more", next, list, true)
		wantNewer(t, "an entry less", list, next, false)
		wantNewer(t, "an entry more, other operations", otherOps(next), list, true)
		wantNewer(t, "an entry less, other operations", list, otherOps(next), false)
		longer++
		if t.Failed() {
			t.FailNow()
		}
	})
	if longer < 1500 {
		t.Errorf("%d longer logs test too little", longer)
	}
	wantBadLogsFail(t, newer)
}

func TestPromise80CommonPartsAreCommon(t *testing.T) {
	parted, whole := 0, 0
	withTwoLogs(t, func(r *rand.Rand, a []impl.Entry, b []impl.Entry) {
		many := impl.CommonPart(a, b)
		if other := impl.CommonPart(b, a); other != many || many < 0 || many > min(len(a), len(b)) {
			t.Fatalf("CommonPart(%v, %v) = %d, in the other order %d", a, b, many, other)
		}
		if !slices.Equal(a[:many], b[:many]) {
			t.Fatalf("CommonPart(%v, %v) = %d, but these entries differ", a, b, many)
		}
		if many < min(len(a), len(b)) && a[many] == b[many] {
			t.Fatalf("CommonPart(%v, %v) = %d, but one more is equal", a, b, many)
		}
		parted += bit(many > 0 && many < min(len(a), len(b)))
		whole += bit(many > 0 && many == min(len(a), len(b)))
	})
	if min(parted, whole) < 1500 {
		t.Errorf("%d pairs of logs that part, and %d that do not, test too little", parted, whole)
	}
	wantBadLogsFail(t, haveCommon)
}

// withCommits calls a function with many logs, the entries that servers have, terms of entries, and the commit points.
func withCommits(t *testing.T, f func(r *rand.Rand, list []impl.Entry, has []int, term int, number int)) {
	t.Helper()
	some, none := 0, 0
	withLogs(t, func(r *rand.Rand, list []impl.Entry) {
		for _, term := range []int{lastOf(list), termBefore(list, r.IntN(len(list)+1)), 1 + r.IntN(impl.MaxTerm)} {
			has := randomHas(r, list)
			number := impl.CommitPoint(list, has, term)
			if number < 0 || number > len(list) {
				t.Fatalf("CommitPoint(%v, %v, %d) = %d", list, has, term, number)
			}
			f(r, list, has, term, number)
			some += bit(number > 0)
			none += bit(number == 0)
		}
	})
	if min(some, none) < 1500 {
		t.Errorf("%d commit points and %d that are none test too little", some, none)
	}
	for _, has := range badHas() {
		for _, list := range [][]impl.Entry{nil, logOfTerms(1, 2, 2), fullLog()} {
			for _, term := range []int{1, 2, lastOf(list)} {
				wantCommit(t, "servers that cannot be", list, has, term, -1)
			}
		}
	}
	wantBadLogsFail(t, commits)
}

func TestPromise81CommittedEntriesAreOnMostServers(t *testing.T) {
	just := 0
	withCommits(t, func(r *rand.Rand, list []impl.Entry, has []int, term int, number int) {
		if number == 0 {
			return
		}
		if 2*haveAt(has, number) <= len(has) || list[number-1].Term != term {
			t.Fatalf("CommitPoint(%v, %v, %d) = %d", list, has, term, number)
		}
		if haveAt(has, number) == len(has)/2+1 { // with one server less it is not committed
			i := slices.IndexFunc(has, func(many int) bool { return many >= number })
			fewer := slices.Clone(has)
			fewer[i] = number - 1
			if got := impl.CommitPoint(list, fewer, term); got >= number {
				t.Fatalf("CommitPoint(%v, %v, %d) = %d", list, fewer, term, got)
			}
			just++
		}
	})
	if just < 1500 {
		t.Errorf("%d entries that are on just enough servers test too little", just)
	}
}

func TestPromise82CommitPointsDoNotGoBack(t *testing.T) {
	greater := 0
	withCommits(t, func(r *rand.Rand, list []impl.Entry, has []int, term int, number int) {
		for i := range has {
			next := slices.Clone(has)
			for behind := number; next[i] < impl.MaxLog; { // as many entries more as there can be
				next[i]++
				got := impl.CommitPoint(list, next, term)
				if got < behind {
					t.Fatalf("CommitPoint(%v, %v, %d) = %d, with an entry less it was %d", list, next, term, got, behind)
				}
				greater += bit(got > behind)
				behind = got
			}
		}
	})
	if greater < 1500 {
		t.Errorf("%d commit points that are greater test too little", greater)
	}
}

func TestPromise83TheCommitPointIsTheGreatestOne(t *testing.T) {
	later := 0
	withCommits(t, func(r *rand.Rand, list []impl.Entry, has []int, term int, number int) {
		for n := number + 1; n <= len(list); n++ {
			if list[n-1].Term == term && 2*haveAt(has, n) > len(has) {
				t.Fatalf("CommitPoint(%v, %v, %d) = %d, but most servers have the entry %d", list, has, term, number, n)
			}
			later += bit(list[n-1].Term == term)
		}
	})
	if later < 1500 {
		t.Errorf("%d later entries of the term test too little", later)
	}
}

func TestPromise149WhatAllHaveIsCommitted(t *testing.T) {
	withLogs(t, func(r *rand.Rand, list []impl.Entry) {
		for servers := 1; servers <= impl.MaxServers; servers++ {
			has := slices.Repeat([]int{len(list)}, servers)
			wantCommit(t, "all have all", list, has, lastOf(list), len(list))
			for i := range has {
				has[i] += r.IntN(impl.MaxLog - len(list) + 1)
			}
			wantCommit(t, "all have all, and some have more", list, has, lastOf(list), len(list))
			wantCommit(t, "all have the limit", list, slices.Repeat([]int{impl.MaxLog}, servers), lastOf(list), len(list))
		}
		wantCommit(t, "too many servers have all", list, slices.Repeat([]int{len(list)}, impl.MaxServers+1), lastOf(list), -1)
		wantCommit(t, "no servers", list, nil, lastOf(list), -1)
		wantCommit(t, "servers with too many entries", list, []int{impl.MaxLog + 1, len(list)}, lastOf(list), -1)
		wantCommit(t, "servers with less than no entries", list, []int{len(list), -1, len(list)}, lastOf(list), -1)
		if t.Failed() {
			t.FailNow()
		}
	})
	wantBadLogsFail(t, commits)
}
