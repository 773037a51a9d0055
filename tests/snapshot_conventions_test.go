package tests

import (
	"math/rand/v2"
	"slices"
	"sync"
	"testing"

	"loop.example/processengine/impl"
)

// snapAnswers are the results of all functions for a snapshot and one that is sent.
type snapAnswers struct {
	snaps   []impl.Snap
	numbers []int
}

func askSnap(own impl.Snap, sent impl.Snap, many int) snapAnswers {
	next, ok := impl.CompactLog(own, many)
	return snapAnswers{
		snaps:   []impl.Snap{next, impl.InstallSnap(own, sent), impl.InstallSnap(sent, own)},
		numbers: []int{bit(ok), bit(impl.ValidSnap(own)), bit(impl.ValidSnap(sent)), impl.StateOf(own), impl.StateOf(sent)},
	}
}

// wantedSnapAnswers returns what askSnap has to return.
func wantedSnapAnswers(own impl.Snap, sent impl.Snap, many int) snapAnswers {
	next, ok := wantedCompact(own, many)
	return snapAnswers{
		snaps:   []impl.Snap{next, wantedInstall(own, sent), wantedInstall(sent, own)},
		numbers: []int{bit(ok), bit(wantedSnap(own)), bit(wantedSnap(sent)), wantedState(own), wantedState(sent)},
	}
}

func (a snapAnswers) copied() snapAnswers {
	b := snapAnswers{numbers: slices.Clone(a.numbers)}
	for _, s := range a.snaps {
		b.snaps = append(b.snaps, withRest(s, s.Rest))
	}
	return b
}

// sameSnapAnswers reports whether results are the same, where a nil slice is an empty one.
func sameSnapAnswers(a snapAnswers, b snapAnswers) bool {
	return slices.EqualFunc(a.snaps, b.snaps, sameSnap) && slices.Equal(a.numbers, b.numbers)
}

// snapCase is what all functions are asked with.
type snapCase struct {
	own  impl.Snap
	sent impl.Snap
	many int
}

func (c snapCase) ask() snapAnswers { return askSnap(c.own, c.sent, c.many) }

// snapCases returns many cases, most of them valid. Nobody may change them.
var snapCases = sync.OnceValue(func() []snapCase {
	r := newRandom(63)
	var cases []snapCase
	for _, s := range snaps() {
		c := snapCase{s, sentTo(r, s), r.IntN(len(s.Rest) + 1)}
		switch r.IntN(8) {
		case 0:
			c.own = alteredSnap(r, s)
		case 1:
			c.sent = alteredSnap(r, c.sent)
		case 2:
			c.many = anyNumber(r)
		}
		cases = append(cases, c)
	}
	return cases
})

func TestSnapFunctionsLeaveTheirArguments(t *testing.T) {
	compacted, installed := 0, 0
	for _, c := range snapCases() {
		roomy := c
		roomy.own.Rest, roomy.sent.Rest = withRoom(c.own.Rest, roomEntry), withRoom(c.sent.Rest, roomEntry)
		same := func() bool {
			return sameRoom(roomy.own.Rest, c.own.Rest, roomEntry) && sameRoom(roomy.sent.Rest, c.sent.Rest, roomEntry)
		}
		first := roomy.ask()
		if !same() {
			t.Fatalf("%v has become %v", c, roomy)
		}
		want := first.copied()
		compacted += bit(first.numbers[0] == 1)
		installed += bit(len(first.snaps[1].Rest) > 0 || len(first.snaps[2].Rest) > 0)
		for _, s := range first.snaps {
			spoil(s.Rest, entry(-7, -7))
		}
		if !same() {
			t.Fatalf("a result shares memory with an argument of %v", c)
		}
		if !sameSnapAnswers(roomy.ask(), want) {
			t.Fatalf("the second results for %v differ", c)
		}
	}
	if min(compacted, installed) < 1000 {
		t.Errorf("%d snapshots that are compacted and %d that are installed test too little", compacted, installed)
	}
}

func TestSnapsShareNoMemory(t *testing.T) {
	for _, c := range snapCases() {
		own, sent := c.own, c.sent
		own.Rest, sent.Rest = withRoom(own.Rest, roomEntry), withRoom(sent.Rest, roomEntry)
		lists := [][]impl.Entry{own.Rest, sent.Rest}
		for range 2 {
			for _, s := range askSnap(own, sent, c.many).snaps {
				lists = append(lists, s.Rest)
			}
			none, _ := impl.CompactLog(own, 0)
			all, _ := impl.CompactLog(own, len(own.Rest))
			lists = append(lists, none.Rest, all.Rest, impl.InstallSnap(own, own).Rest, impl.InstallSnap(own, none).Rest)
		}
		wantLogsApart(t, c, lists)
	}
}

func TestEmptyAndNilRestsAreTheSame(t *testing.T) {
	for _, c := range snapCases() {
		c.own.Rest = nil
		empty := c
		empty.own.Rest = []impl.Entry{}
		if !sameSnapAnswers(c.ask(), empty.ask()) {
			t.Fatalf("an empty own rest is not as none for %v", c)
		}
		c.sent.Rest, empty.sent.Rest = nil, []impl.Entry{}
		if !sameSnapAnswers(c.ask(), empty.ask()) {
			t.Fatalf("empty rests are not as none for %v", c)
		}
		c.many, empty.many = 0, 0
		if !sameSnapAnswers(c.ask(), empty.ask()) {
			t.Fatalf("none of an empty rest are not as none for %v", c)
		}
	}
}

// anySnap returns a snapshot that often is valid, but not always.
func anySnap(r *rand.Rand) impl.Snap {
	small := func() int { return r.IntN(6) - 1 }
	if r.IntN(3) == 0 {
		return impl.Snap{Number: anyNumber(r), Term: anyNumber(r), State: anyNumber(r), Rest: anyLog(r)}
	}
	s := impl.Snap{Number: small(), Term: small(), State: small()}
	if r.IntN(2) == 0 {
		s.Rest = anyLog(r)
	}
	return s
}

// TestSnapFunctionsReturnForEveryArgument fails by a panic if they do not.
func TestSnapFunctionsReturnForEveryArgument(t *testing.T) {
	r := newRandom(64)
	both := 0
	for range 50000 {
		c := snapCase{anySnap(r), anySnap(r), anyNumber(r)}
		if got, want := c.ask(), wantedSnapAnswers(c.own, c.sent, c.many); !sameSnapAnswers(got, want) {
			t.Fatalf("%v: %v, want %v", c, got, want)
		}
		both += bit(wantedSnap(c.own) && wantedSnap(c.sent))
	}
	for _, c := range snapCases() {
		for _, c.many = range extremes {
			if got, want := c.ask(), wantedSnapAnswers(c.own, c.sent, c.many); !sameSnapAnswers(got, want) {
				t.Fatalf("%v: %v, want %v", c, got, want)
			}
		}
	}
	if both < 2000 {
		t.Errorf("%d pairs of valid snapshots test too little", both)
	}
}

// TestSnapsAtTheSameTime fails if a call about a snapshot keeps something for the next one, or for one beside it.
func TestSnapsAtTheSameTime(t *testing.T) {
	cases := snapCases()[:1000]
	want := make([]snapAnswers, len(cases))
	for i, c := range cases {
		want[i] = c.ask()
	}
	var group sync.WaitGroup
	for k := range 8 {
		group.Go(func() {
			for i := range cases {
				j := (i*7 + k*31) % len(cases)
				if !sameSnapAnswers(cases[j].ask(), want[j]) {
					t.Errorf("results for %v differ", cases[j])
				}
			}
		})
	}
	group.Wait()
}

// TestOneServerAfterTheOther keeps the snapshots of two servers over many steps: entries are put behind
// their rests, entries are compacted, and the snapshot of one is sent to the other one.
func TestOneServerAfterTheOther(t *testing.T) {
	r := newRandom(65)
	sent := 0
	for range 300 {
		var all []impl.Entry // of one log, whose beginnings both servers have
		for _, term := range []int{1, 2, 3, 5, 8, 9} {
			all = append(all, slices.Repeat([]impl.Entry{entry(term, r.IntN(100))}, 1+r.IntN(10))...)
		}
		state := []int{0}
		for i, e := range all {
			state = append(state, (31*state[i]+e.Op)%10007)
		}
		servers := []impl.Snap{{}, {}}
		for range 60 {
			k := r.IntN(2)
			s := servers[k]
			switch r.IntN(3) {
			case 0:
				if room := min(impl.MaxLog-len(s.Rest), len(all)-endOf(s)); room > 0 {
					s.Rest = slices.Concat(s.Rest, all[endOf(s):endOf(s)+1+r.IntN(room)])
				}
			case 1:
				s, _ = impl.CompactLog(s, r.IntN(len(s.Rest)+1))
			case 2:
				s = impl.InstallSnap(s, servers[1-k])
				sent += bit(s.Number > servers[k].Number)
			}
			// No entry is lost, and every state is that of as many entries.
			if endOf(s) < endOf(servers[k]) || !slices.Equal(s.Rest, all[s.Number:endOf(s)]) || s.State != state[s.Number] || impl.StateOf(s) != state[endOf(s)] {
				t.Fatalf("%v has become %v", servers[k], s)
			}
			servers[k] = s
		}
	}
	if sent < 500 {
		t.Errorf("%d snapshots that bring a server forward test too little", sent)
	}
}
