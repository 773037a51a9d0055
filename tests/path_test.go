package tests

import (
	"math"
	"math/rand/v2"
	"slices"
	"testing"

	"loop.example/processengine/impl"
)

func TestPathConstants(t *testing.T) {
	wantList(t, "limits", []int{impl.MaxTime}, 500)
}

func TestPathsOfLines(t *testing.T) {
	wantPath(t, "no nodes between", line(), []int{0, 0}, []int{0, 0}, 0, []int{0, 0}, 0, 1)
	wantPath(t, "times of both", line(), []int{3, 5}, []int{0, 3}, 8, []int{0, 0}, 0, 1)
	wantPath(t, "a time of the start alone", line(), []int{3, 0}, []int{0, 3}, 3, []int{0, 0}, 0, 1)
	wantPath(t, "a time of the end alone", line(), []int{0, 5}, []int{0, 0}, 5, []int{0, 0}, 0, 1)
	wantPath(t, "a task", line(impl.NodeTask), []int{1, 7, 2}, []int{0, 1, 8}, 10, []int{0, 0, 0}, 0, 1, 2)
	wantPath(t, "a timer, whose own value does not matter", lineOf(timer(100), message(9)), []int{1, 2, 3, 4}, []int{0, 1, 3, 6}, 10, []int{0, 0, 0, 0}, 0, 1, 2, 3)
	all := []int{0, 1, 2, 3, 4, 5, 6, 7, 8, 9}
	most := slices.Repeat([]int{500}, 10)
	wantPath(t, "as many nodes and as long times as the limits", tasks(10), most, []int{0, 500, 1000, 1500, 2000, 2500, 3000, 3500, 4000, 4500}, 5000, make([]int, 10), all...)
	wantPath(t, "as many nodes without times", tasks(10), make([]int, 10), make([]int, 10), 0, make([]int, 10), all...)
}

func TestPathsThatMeet(t *testing.T) {
	p := twoWays(impl.NodeChoice, impl.NodeMerge)
	wantPath(t, "a longer second way", p, []int{0, 1, 5, 9, 2, 1}, []int{0, 0, 1, 1, 10, 12}, 13, []int{0, 0, 4, 0, 0, 0}, 0, 1, 3, 4, 5)
	wantPath(t, "a longer first way", p, []int{0, 1, 9, 5, 2, 1}, []int{0, 0, 1, 1, 10, 12}, 13, []int{0, 0, 0, 4, 0, 0}, 0, 1, 2, 4, 5)
	wantPath(t, "equal ways", p, []int{4, 1, 5, 5, 2, 1}, []int{0, 4, 5, 5, 10, 12}, 13, make([]int, 6), 0, 1, 2, 3, 4, 5)
	wantPath(t, "a way without time", p, []int{4, 1, 0, 500, 0, 0}, []int{0, 4, 5, 5, 505, 505}, 505, []int{0, 0, 500, 0, 0, 0}, 0, 1, 3, 4, 5)
	p = twoWays(impl.NodeFork, impl.NodeJoin)
	wantPath(t, "a fork", p, []int{0, 1, 5, 9, 2, 1}, []int{0, 0, 1, 1, 10, 12}, 13, []int{0, 0, 4, 0, 0, 0}, 0, 1, 3, 4, 5)
	p = backwards() // lesser nodes lie behind greater ones: 5, 4, then 3 and 2, then 1 and 0
	wantPath(t, "nodes in reverse order", p, []int{1, 2, 3, 4, 5, 6}, []int{20, 18, 15, 11, 6, 0}, 21, make([]int, 6), 0, 1, 2, 3, 4, 5)
	wantPath(t, "nodes in reverse order, without a longest one", p, []int{1, 2, 0, 0, 5, 6}, []int{13, 11, 11, 11, 6, 0}, 14, make([]int, 6), 0, 1, 2, 3, 4, 5)
	p = shortcut(2) // 0, 1, then 4 and 5, then 2 and 3
	wantPath(t, "a flow beside two tasks", p, []int{1, 2, 3, 4, 5, 6}, []int{0, 1, 14, 17, 3, 8}, 21, make([]int, 6), 0, 1, 2, 3, 4, 5)
	p = wideFork(12)
	wantPath(t, "many flows between two nodes", p, []int{1, 20, 300, 4}, []int{0, 1, 21, 321}, 325, make([]int, 4), 0, 1, 2, 3)
}

func TestPathsWithSeveralEnds(t *testing.T) {
	p := detour() // 0, 1, then 2 and 3, or 4, before 5 and 6; or 7 before 8
	wantPath(t, "the longest way has its own end", p, []int{1, 2, 3, 4, 5, 6, 7, 99, 8}, []int{0, 1, 3, 6, 3, 10, 16, 3, 102}, 110, []int{0, 0, 87, 87, 89, 87, 87, 0, 0}, 0, 1, 7, 8)
	wantPath(t, "the longest way has tasks that follow each other", p, []int{1, 2, 3, 4, 5, 6, 7, 10, 8}, []int{0, 1, 3, 6, 3, 10, 16, 3, 13}, 23, []int{0, 0, 0, 0, 2, 0, 0, 2, 2}, 0, 1, 2, 3, 5, 6)
	wantPath(t, "the longest way has one task", p, []int{1, 2, 3, 4, 50, 6, 7, 10, 8}, []int{0, 1, 3, 6, 3, 53, 59, 3, 13}, 66, []int{0, 0, 43, 43, 0, 0, 0, 45, 45}, 0, 1, 4, 5, 6)
	wantPath(t, "a short end", p, []int{0, 0, 0, 0, 0, 0, 0, 0, 9}, []int{0, 0, 0, 0, 0, 0, 0, 0, 0}, 9, []int{0, 0, 9, 9, 9, 9, 9, 0, 0}, 0, 1, 7, 8)
}

func TestPathsThatAreNotValid(t *testing.T) {
	wantBadPathsFail(t)
	wantNoPath(t, impl.Process{}, nil)
	wantNoPath(t, impl.Process{}, []int{})
	for _, p := range []impl.Process{lostCircle(), repeatTask()} {
		if !impl.ValidProcess(p) || !impl.HasCircle(p) {
			t.Errorf("%v is not a valid process with a circle", p)
		}
		wantNoPath(t, p, make([]int, len(p.Nodes)))
	}
}

func TestTimesAtTheirLimits(t *testing.T) {
	for _, p := range []impl.Process{line(), detour(), wideFork(3)} {
		for i := range p.Nodes {
			for _, n := range slices.Concat(extremes, []int{499, 500, 501}) {
				times := changed(make([]int, len(p.Nodes)), i, n)
				if n < 0 || n > 500 {
					wantNoPath(t, p, times)
				} else if got := impl.TotalTime(p, times); got != n {
					t.Errorf("TotalTime with the times %v = %d", times, got)
				}
			}
		}
	}
	for many := range 14 {
		times := make([]int, many)
		if got := impl.TotalTime(detour(), times); got != bit(many == 9)-1 {
			t.Errorf("TotalTime with %d times for 9 nodes = %d", many, got)
		}
	}
	if got := impl.TotalTime(line(), []int{math.MaxInt, math.MaxInt}); got != -1 {
		t.Errorf("TotalTime with times that are too long = %d", got)
	}
}

// comparePath compares all functions with what they have to be, and reports whether there is a path.
func comparePath(t *testing.T, p impl.Process, times []int) bool {
	t.Helper()
	if got, want := impl.EarliestTimes(p, times), wantedEarliest(p, times); !slices.Equal(got, want) {
		t.Fatalf("EarliestTimes(%v, %v) = %v, want %v", p, times, got, want)
	}
	if got, want := impl.TotalTime(p, times), wantedTotal(p, times); got != want {
		t.Fatalf("TotalTime(%v, %v) = %d, want %d", p, times, got, want)
	}
	if got, want := impl.SlackTimes(p, times), wantedSlack(p, times); !slices.Equal(got, want) {
		t.Fatalf("SlackTimes(%v, %v) = %v, want %v", p, times, got, want)
	}
	if got, want := impl.CriticalNodes(p, times), wantedCritical(p, times); !slices.Equal(got, want) {
		t.Fatalf("CriticalNodes(%v, %v) = %v, want %v", p, times, got, want)
	}
	return wantedPath(p, times)
}

// alteredPath returns a case with one thing changed, so that often it is not valid any more.
func alteredPath(r *rand.Rand, c pathCase) pathCase {
	switch r.IntN(5) {
	case 0:
		c.p = badProcesses()[r.IntN(len(badProcesses()))]
	case 1:
		c.times = without(c.times, r.IntN(len(c.times)))
	case 2:
		c.times = append(slices.Clone(c.times), r.IntN(3))
	case 3:
		c.times = changed(c.times, r.IntN(len(c.times)), []int{-1, 501, anyNumber(r)}[r.IntN(3)])
	case 4: // a flow that leads elsewhere, so that there may be a circle
		c.p = copyProcess(c.p)
		i, j := r.IntN(len(c.p.Flows)), r.IntN(len(c.p.Flows))
		c.p.Flows[i].To, c.p.Flows[j].To = c.p.Flows[j].To, c.p.Flows[i].To
	}
	return c
}

// TestRandomPaths compares the functions for many processes and times, valid or not, with what they have to be.
func TestRandomPaths(t *testing.T) {
	t.Parallel()
	r := newRandom(83)
	found, not := 0, 0
	for _, c := range pathCases() {
		if r.IntN(4) == 0 {
			c = alteredPath(r, c)
		}
		if comparePath(t, c.p, c.times) {
			found++
		} else {
			not++
		}
	}
	if min(found, not) < 500 {
		t.Errorf("%d paths and %d times none test too little", found, not)
	}
}

// TestAllSmallTimes compares all small times of small processes with what they have to be.
func TestAllSmallTimes(t *testing.T) {
	for _, p := range []impl.Process{line(), line(impl.NodeTask), twoWays(impl.NodeChoice, impl.NodeMerge), bothTasks(), backwards(), shortcut(2)} {
		for i := range int(math.Pow(3, float64(len(p.Nodes)))) {
			var times []int
			for range p.Nodes {
				times = append(times, i%3)
				i /= 3
			}
			comparePath(t, p, times)
		}
	}
}
