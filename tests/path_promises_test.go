package tests

import (
	"math/rand/v2"
	"slices"
	"testing"

	"loop.example/processengine/impl"
)

func TestPromise13WithoutCirclesNodesCanBePutInOrder(t *testing.T) {
	circles, ways := 0, 0
	for _, p := range slices.Concat(pathProcesses(), someProcesses(), circleProcesses()) {
		ones := slices.Repeat([]int{1}, len(p.Nodes))
		if impl.HasCircle(p) {
			wantNoPath(t, p, ones)
			circles++
			continue
		}
		begins := impl.EarliestTimes(p, ones)
		if len(begins) != len(p.Nodes) {
			t.Fatalf("EarliestTimes(%v, %v) = %v", p, ones, begins)
		}
		for _, w := range p.Flows {
			if begins[w.To] <= begins[w.From] {
				t.Fatalf("EarliestTimes(%v, %v) = %v, but a flow leads from %d to %d", p, ones, begins, w.From, w.To)
			}
		}
		ways += bit(len(p.Flows) >= len(p.Nodes))
	}
	if min(circles, ways) < 500 {
		t.Errorf("%d processes with circles and %d with ways that meet test too little", circles, ways)
	}
	for _, p := range badProcesses() {
		wantNoPath(t, p, slices.Repeat([]int{1}, len(p.Nodes)))
	}
}

func TestPromise104NodesWaitForThoseBeforeThem(t *testing.T) {
	withPaths(t, func(r *rand.Rand, p impl.Process, times []int, begins []int) {
		just := make([]bool, len(begins))
		for i, begin := range begins {
			just[i] = begin == 0
		}
		for _, w := range p.Flows {
			end := begins[w.From] + times[w.From]
			if begins[w.To] < end {
				t.Fatalf("EarliestTimes(%v, %v) = %v, but %d ends at %d", p, times, begins, w.From, end)
			}
			just[w.To] = just[w.To] || begins[w.To] == end
		}
		if slices.Contains(just, false) || slices.Min(begins) < 0 || begins[slices.Index(p.Nodes, impl.Node{})] != 0 {
			t.Fatalf("EarliestTimes(%v, %v) = %v, and %v begin when one before them ends", p, times, begins, just)
		}
	})
}

// longer returns times with so much more for one node.
func longer(times []int, node int, more int) []int { return changed(times, node, times[node]+more) }

func TestPromise105LongerTimesBeginLater(t *testing.T) {
	later := 0
	withPaths(t, func(r *rand.Rand, p impl.Process, times []int, begins []int) {
		for i := range times {
			if times[i] == impl.MaxTime {
				wantNoPath(t, p, longer(times, i, 1))
				continue
			}
			more := longer(times, i, 1+r.IntN(impl.MaxTime-times[i]))
			next := impl.EarliestTimes(p, more)
			for k := range begins {
				if len(next) != len(begins) || next[k] < begins[k] {
					t.Fatalf("%v: EarliestTimes with %v = %v, but with %v it is %v", p, times, begins, more, next)
				}
			}
			later += bit(!slices.Equal(begins, next))
		}
	})
	if later < 5000 {
		t.Errorf("%d times that begin later test too little", later)
	}
}

func TestPromise106TheEndIsTheEndOfAll(t *testing.T) {
	several := 0
	withPaths(t, func(r *rand.Rand, p impl.Process, times []int, begins []int) {
		ends := endsOf(begins, times)
		if got := impl.TotalTime(p, times); got != slices.Max(ends) {
			t.Fatalf("TotalTime(%v, %v) = %d, but nodes end at %v", p, times, got, ends)
		}
		last := 0
		for _, n := range p.Nodes {
			last += bit(n.Kind == impl.NodeEnd)
		}
		several += bit(last > 1)
	})
	if several < 500 {
		t.Errorf("%d processes with several ends test too little", several)
	}
}

func TestPromise107NothingTakesLongerThanEverything(t *testing.T) {
	sums, single := 0, 0
	withPaths(t, func(r *rand.Rand, p impl.Process, times []int, begins []int) {
		total := impl.TotalTime(p, times)
		if total > sumOf(times) || total < slices.Max(times) {
			t.Fatalf("TotalTime(%v, %v) = %d", p, times, total)
		}
		sums += bit(total == sumOf(times) && total > 0)
		for i, n := range times { // the time of one node alone is both bounds
			alone := changed(make([]int, len(times)), i, n)
			if got := impl.TotalTime(p, alone); got != n {
				t.Fatalf("TotalTime(%v, %v) = %d", p, alone, got)
			}
			single += bit(n > 0)
		}
	})
	if min(sums, single) < 200 {
		t.Errorf("%d sums and %d single times test too little", sums, single)
	}
}

func TestPromise108WhoHasTimeCanWait(t *testing.T) {
	waiting, greater := 0, 0
	withPaths(t, func(r *rand.Rand, p impl.Process, times []int, begins []int) {
		total := impl.TotalTime(p, times)
		for i, slack := range impl.SlackTimes(p, times) {
			if times[i]+slack > impl.MaxTime {
				continue
			}
			more := longer(times, i, slack)
			if got := impl.TotalTime(p, more); got != total {
				t.Fatalf("%v: TotalTime with %v = %d, but with %v it is %d", p, times, total, more, got)
			}
			waiting += bit(slack > 0)
			if more[i] == impl.MaxTime {
				continue
			}
			by := 1 + r.IntN(impl.MaxTime-more[i])
			more[i] += by
			if got := impl.TotalTime(p, more); got != total+by {
				t.Fatalf("%v: TotalTime with %v = %d, but with %v it is %d", p, times, total, more, got)
			}
			greater++
		}
	})
	if min(waiting, greater) < 1000 {
		t.Errorf("%d nodes with slack, and %d times a greater time, test too little", waiting, greater)
	}
}

func TestPromise109SlackIsUsedUpAlongTheWay(t *testing.T) {
	between := 0
	withPaths(t, func(r *rand.Rand, p impl.Process, times []int, begins []int) {
		slack := impl.SlackTimes(p, times)
		ends, total := endsOf(begins, times), impl.TotalTime(p, times)
		for i := range p.Nodes {
			most := total - ends[i] // and it has exactly as much as its flows leave
			for _, w := range p.Flows {
				if w.From != i {
					continue
				}
				most = min(most, begins[w.To]-ends[i]+slack[w.To])
				between += bit(begins[w.To] > ends[i])
			}
			if slack[i] != most {
				t.Fatalf("SlackTimes(%v, %v) = %v, but %d has %d", p, times, slack, i, most)
			}
		}
	})
	if between < 1000 {
		t.Errorf("%d nodes that end before the next one begins test too little", between)
	}
}

func TestPromise110CriticalNodesMakeTheEnd(t *testing.T) {
	all, some := 0, 0
	withPaths(t, func(r *rand.Rand, p impl.Process, times []int, begins []int) {
		list := impl.CriticalNodes(p, times)
		sum := 0
		for i, slack := range impl.SlackTimes(p, times) {
			if (slack == 0) != slices.Contains(list, i) {
				t.Fatalf("CriticalNodes(%v, %v) = %v, but the slack of %d is %d", p, times, list, i, slack)
			}
			if slack == 0 {
				sum += times[i]
			}
		}
		if !ascends(list) || sum < impl.TotalTime(p, times) || list[0] < 0 || list[len(list)-1] >= len(p.Nodes) {
			t.Fatalf("CriticalNodes(%v, %v) = %v, whose times are %d", p, times, list, sum)
		}
		all += bit(len(list) == len(p.Nodes))
		some += bit(len(list) < len(p.Nodes))
	})
	if min(all, some) < 500 {
		t.Errorf("%d times all nodes and %d times some test too little", all, some)
	}
}

func TestPromise157WithoutTimesEverythingBeginsAtOnce(t *testing.T) {
	withPaths(t, func(r *rand.Rand, p impl.Process, times []int, begins []int) {
		zero := make([]int, len(p.Nodes))
		wantList(t, "EarliestTimes without times", impl.EarliestTimes(p, zero), zero...)
		wantList(t, "SlackTimes without times", impl.SlackTimes(p, zero), zero...)
		if got := impl.TotalTime(p, zero); got != 0 {
			t.Errorf("TotalTime without times = %d", got)
		}
		i := r.IntN(len(zero)) // a time of one node alone delays only those behind it
		zero[i] = 1
		for k, begin := range impl.EarliestTimes(p, zero) {
			if f, _ := wantedProcess(p); begin != bit(f.leads()[i][k]) {
				t.Errorf("%v: EarliestTimes of %d with the times %v = %d", p, k, zero, begin)
			}
		}
		if t.Failed() {
			t.FailNow()
		}
	})
}

func TestPromise158ALongerNodeDelaysByAtMostAsMuch(t *testing.T) {
	same, more := 0, 0
	withPaths(t, func(r *rand.Rand, p impl.Process, times []int, begins []int) {
		total, slack := impl.TotalTime(p, times), impl.SlackTimes(p, times)
		for i := range times {
			if times[i] == impl.MaxTime {
				continue
			}
			got := impl.TotalTime(p, longer(times, i, 1))
			if got != total+bit(slack[i] == 0) {
				t.Fatalf("%v: TotalTime with %v = %d, but with 1 more for %d it is %d", p, times, total, i, got)
			}
			same += bit(got == total)
			more += bit(got > total)
		}
	})
	if min(same, more) < 2000 {
		t.Errorf("%d times the same and %d times 1 more test too little", same, more)
	}
}

func TestPromise159CriticalNodesFollowEachOther(t *testing.T) {
	followed, free := 0, 0
	withPaths(t, func(r *rand.Rand, p impl.Process, times []int, begins []int) {
		list := impl.CriticalNodes(p, times)
		ends := endsOf(begins, times)
		for _, i := range list {
			found := begins[i] == 0
			for _, w := range p.Flows {
				// The one before it is critical, too.
				found = found || w.To == i && ends[w.From] == begins[i] && slices.Contains(list, w.From)
			}
			if !found {
				t.Fatalf("CriticalNodes(%v, %v) = %v, but none ends when %d begins at %d", p, times, list, i, begins[i])
			}
			followed += bit(begins[i] > 0)
		}
		if !slices.ContainsFunc(list, func(i int) bool { return ends[i] == impl.TotalTime(p, times) }) {
			t.Fatalf("CriticalNodes(%v, %v) = %v, but none ends at last", p, times, list)
		}
		free += bit(len(list) < len(p.Nodes))
	})
	if min(followed, free) < 1000 {
		t.Errorf("%d nodes that follow and %d processes with slack test too little", followed, free)
	}
}

func TestPromise175SlackIsBounded(t *testing.T) {
	none, most := 0, 0
	withPaths(t, func(r *rand.Rand, p impl.Process, times []int, begins []int) {
		total := impl.TotalTime(p, times)
		slack := impl.SlackTimes(p, times)
		if len(slack) != len(times) {
			t.Fatalf("SlackTimes(%v, %v) = %v", p, times, slack)
		}
		for i, n := range slack {
			if n < 0 || n > total-times[i] || n+begins[i]+times[i] > total {
				t.Fatalf("SlackTimes(%v, %v) = %v, with the begins %v", p, times, slack, begins)
			}
			none += bit(n == 0)
			most += bit(n > 0 && n == total-times[i])
		}
	})
	if min(none, most) < 100 {
		t.Errorf("%d nodes without slack and %d with as much as can be test too little", none, most)
	}
}
