package tests

import (
	"slices"
	"testing"

	"loop.example/processengine/impl"
)

// wantAll fails if all tokens of a process are not exactly some, in order.
func wantAll(t *testing.T, what string, p impl.Process, want ...[]int) {
	t.Helper()
	got, ok := impl.AllMarks(p)
	if !ok {
		t.Errorf("%s: AllMarks fails", what)
	}
	wantMarks(t, what+": AllMarks", got, want...)
}

// wantJudged fails if a process is not judged as told.
func wantJudged(t *testing.T, what string, p impl.Process, sound bool, stuck [][]int, never []int) {
	t.Helper()
	if got := impl.IsSound(p); got != sound {
		t.Errorf("%s: IsSound = %v", what, got)
	}
	wantMarks(t, what+": StuckMarks", impl.StuckMarks(p), stuck...)
	wantList(t, what+": NeverReady", impl.NeverReady(p), never...)
}

// wantNoMarks fails if a function gives a process for which AllMarks has to fail any other than its one result.
func wantNoMarks(t *testing.T, what string, p impl.Process) {
	t.Helper()
	if list, ok := impl.AllMarks(p); ok || len(list) != 0 {
		t.Errorf("%s: AllMarks = %v, %v", what, list, ok)
	}
	wantJudged(t, what, p, false, nil, nil)
}

func TestAllMarksOfLines(t *testing.T) {
	wantAll(t, "no task", line(), []int{1}, []int{0})
	wantAll(t, "two tasks", line(impl.NodeTask, impl.NodeTask), []int{1, 0, 0}, []int{0, 1, 0}, []int{0, 0, 1}, []int{0, 0, 0})
	for _, p := range []impl.Process{line(), line(impl.NodeTimer), line(impl.NodeMessage, impl.NodeTask), tasks(10)} {
		wantJudged(t, "a line", p, true, nil, nil)
	}
	wantAll(t, "a line beside a circle", lostCircle(), []int{1, 0}, []int{0, 0})
	wantJudged(t, "a line beside a circle", lostCircle(), true, nil, []int{2})
}

func TestAllMarksOfForksWithJoins(t *testing.T) {
	p := bothTasks()
	wantAll(t, "two tasks", p, []int{0, 0, 0, 0, 1, 0}, []int{0, 1, 0, 0, 0, 1}, []int{0, 0, 0, 1, 0, 1}, []int{1, 1, 0, 0, 0, 0}, []int{1, 0, 0, 1, 0, 0}, []int{0, 0, 1, 0, 0, 0}, make([]int, 6))
	wantJudged(t, "two tasks", p, true, nil, nil)
	wide := wideFork(12)
	one, all := make([]int, 14), slices.Concat([]int{0, 0}, slices.Repeat([]int{1}, 12))
	wantAll(t, "a wide fork", wide, changed(one, 0, 1), all, changed(one, 1, 1), one)
	wantJudged(t, "a wide fork", wide, true, nil, nil)
	ends := draw([]int{impl.NodeStart, impl.NodeFork, impl.NodeEnd, impl.NodeEnd}, [2]int{0, 1}, [2]int{1, 2}, [2]int{1, 3})
	wantAll(t, "a fork with two ends", ends, []int{1, 0, 0}, []int{0, 1, 1}, []int{0, 0, 1}, []int{0, 1, 0}, []int{0, 0, 0})
	wantJudged(t, "a fork with two ends", ends, true, nil, nil)
}

func TestAllMarksOfChoices(t *testing.T) {
	p := twoWays(impl.NodeChoice, impl.NodeMerge)
	want := [][]int{{1, 0, 0, 0, 0, 0}, {0, 1, 0, 0, 0, 0}, {0, 0, 1, 0, 0, 0}, {0, 0, 0, 1, 0, 0}, {0, 0, 0, 0, 1, 0}, {0, 0, 0, 0, 0, 1}, {0, 0, 0, 0, 0, 0}}
	wantAll(t, "a choice", p, want...)
	wantJudged(t, "a choice", p, true, nil, nil)
	for _, when := range [][]impl.Part{parts(number(0)), parts(number(1)), parts(variable(0))} {
		p.Flows[1].When, p.Flows[2].When = when, when // values, and thus conditions, do not matter
		wantAll(t, "a choice with conditions", p, want...)
		wantJudged(t, "a choice with conditions", p, true, nil, nil)
	}
	wantAll(t, "a circle", repeatTask(), []int{1, 0, 0, 0, 0}, []int{0, 1, 0, 0, 0}, []int{0, 0, 1, 0, 0}, []int{0, 0, 0, 1, 0}, []int{0, 0, 0, 0, 1}, []int{0, 0, 0, 0, 0})
	wantJudged(t, "a circle", repeatTask(), true, nil, nil)
	never := repeatTask()
	never.Flows[4].When = parts(number(0))
	wantJudged(t, "a circle with an end that is never chosen", never, true, nil, nil)
}

func TestJoinsBehindChoices(t *testing.T) {
	p := twoWays(impl.NodeChoice, impl.NodeJoin)
	wantAll(t, "a join behind a choice", p, []int{1, 0, 0, 0, 0, 0}, []int{0, 1, 0, 0, 0, 0}, []int{0, 0, 1, 0, 0, 0}, []int{0, 0, 0, 1, 0, 0}, []int{0, 0, 0, 0, 1, 0})
	wantJudged(t, "a join behind a choice", p, false, [][]int{{0, 0, 0, 1, 0, 0}, {0, 0, 0, 0, 1, 0}}, []int{4, 5})
	// One way of the choice goes to an end, so that only the other one is stuck.
	half := draw([]int{impl.NodeStart, impl.NodeChoice, impl.NodeEnd, impl.NodeJoin, impl.NodeFork, impl.NodeEnd},
		[2]int{0, 1}, [2]int{1, 2}, [2]int{1, 3}, [2]int{3, 4}, [2]int{4, 3}, [2]int{4, 5})
	wantAll(t, "a way that is stuck", half, []int{1, 0, 0, 0, 0, 0}, []int{0, 1, 0, 0, 0, 0}, []int{0, 0, 1, 0, 0, 0}, []int{0, 0, 0, 0, 0, 0})
	wantJudged(t, "a way that is stuck", half, false, [][]int{{0, 0, 1, 0, 0, 0}}, []int{3, 4, 5})
	join := ownCircle(impl.NodeJoin)
	wantAll(t, "a join that waits for itself", join, []int{0, 1})
	wantJudged(t, "a join that waits for itself", join, false, [][]int{{0, 1}}, []int{1})
}

func TestMergesBehindForks(t *testing.T) {
	wantNoMarks(t, "a merge behind a fork", twoWays(impl.NodeFork, impl.NodeMerge))
	direct := draw([]int{impl.NodeStart, impl.NodeFork, impl.NodeMerge, impl.NodeEnd}, [2]int{0, 1}, [2]int{1, 2}, [2]int{1, 2}, [2]int{2, 3})
	wantNoMarks(t, "a merge just behind a fork", direct)
	circle := draw([]int{impl.NodeStart, impl.NodeMerge, impl.NodeFork, impl.NodeEnd}, [2]int{0, 1}, [2]int{1, 2}, [2]int{2, 1}, [2]int{2, 3})
	wantNoMarks(t, "a fork that goes back", circle)
	// The merge always takes the token on its flow to itself, if this is the first one, and never a second token comes.
	own := draw([]int{impl.NodeStart, impl.NodeFork, impl.NodeMerge}, [2]int{2, 2}, [2]int{0, 1}, [2]int{1, 2}, [2]int{1, 2})
	wantAll(t, "a merge that follows itself first", own, []int{0, 1, 0, 0}, []int{0, 0, 1, 1}, []int{1, 0, 0, 1})
	wantJudged(t, "a merge that follows itself first", own, false, nil, nil)
	slices.Reverse(own.Flows)
	wantNoMarks(t, "a merge that follows itself last", own)
}

func TestCirclesWithoutAnEnd(t *testing.T) {
	merge := ownCircle(impl.NodeMerge)
	wantAll(t, "a merge that follows itself", merge, []int{0, 1}, []int{1, 0})
	wantJudged(t, "a merge that follows itself", merge, false, nil, nil)
	endless := draw([]int{impl.NodeTask, impl.NodeMerge, impl.NodeStart, impl.NodeTask, impl.NodeTask}, [2]int{2, 1}, [2]int{1, 0}, [2]int{0, 1}, [2]int{4, 3}, [2]int{3, 4})
	wantAll(t, "a circle without an end", endless, []int{1, 0, 0, 0, 0}, []int{0, 1, 0, 0, 0}, []int{0, 0, 1, 0, 0})
	wantJudged(t, "a circle without an end", endless, false, nil, []int{3, 4})
	// From some tokens the process can end, but not from those in the circle.
	half := draw([]int{impl.NodeStart, impl.NodeChoice, impl.NodeEnd, impl.NodeMerge, impl.NodeTask}, [2]int{0, 1}, [2]int{1, 2}, [2]int{1, 3}, [2]int{3, 4}, [2]int{4, 3})
	wantAll(t, "an end or a circle", half, []int{1, 0, 0, 0, 0}, []int{0, 1, 0, 0, 0}, []int{0, 0, 1, 0, 0}, []int{0, 0, 0, 0, 0}, []int{0, 0, 0, 1, 0}, []int{0, 0, 0, 0, 1})
	wantJudged(t, "an end or a circle", half, false, nil, nil)
	// One of two ways ends, and the other one never does.
	both := draw([]int{impl.NodeStart, impl.NodeFork, impl.NodeEnd, impl.NodeMerge, impl.NodeTask}, [2]int{0, 1}, [2]int{1, 2}, [2]int{1, 3}, [2]int{3, 4}, [2]int{4, 3})
	wantJudged(t, "an end and a circle", both, false, nil, nil)
}

func TestNodesThatAreNeverReady(t *testing.T) {
	islands := draw([]int{impl.NodeTask, impl.NodeTask, impl.NodeEnd, impl.NodeStart, impl.NodeMerge, impl.NodeFork, impl.NodeEnd},
		[2]int{3, 2}, [2]int{0, 1}, [2]int{1, 0}, [2]int{4, 5}, [2]int{5, 4}, [2]int{5, 4}, [2]int{5, 6})
	wantJudged(t, "nodes beside a line", islands, true, nil, []int{0, 1, 4, 5, 6})
	// A join is reachable, but one of its flows is not.
	waits := draw([]int{impl.NodeEnd, impl.NodeJoin, impl.NodeStart, impl.NodeFork}, [2]int{2, 1}, [2]int{1, 3}, [2]int{3, 1}, [2]int{3, 0})
	wantJudged(t, "a join before its own fork", waits, false, [][]int{{1, 0, 0, 0}}, []int{0, 1, 3})
	// The join is ready only if both ways of a fork come together.
	late := draw([]int{impl.NodeStart, impl.NodeFork, impl.NodeChoice, impl.NodeJoin, impl.NodeEnd, impl.NodeEnd},
		[2]int{0, 1}, [2]int{1, 2}, [2]int{1, 3}, [2]int{2, 3}, [2]int{2, 4}, [2]int{3, 5})
	wantJudged(t, "a join that may wait for ever", late, false, [][]int{{0, 0, 1, 0, 0, 0}}, nil)
}

func TestAsManyTokensAsTheLimit(t *testing.T) {
	for ways := 2; ways <= 6; ways++ {
		p := manyStates(ways)
		if ways > 2 {
			wantNoMarks(t, "more tokens than the limit", p)
			continue
		}
		list, ok := impl.AllMarks(p)
		if len(list) != 40 || !ok {
			t.Errorf("AllMarks with as many tokens as the limit: %d, %v", len(list), ok)
		}
		wantMarks(t, "the last of 40 tokens", list[39:], make([]int, 10))
		wantJudged(t, "as many tokens as the limit", p, true, nil, nil)
	}
	wantNoMarks(t, "a fork with one more than the limit", manyEnds())
	less := manyEnds()
	less.Nodes[8].Kind = impl.NodeEnd // a task less, so that its end is an end already
	less.Nodes, less.Flows = less.Nodes[:9], less.Flows[:8]
	if list, ok := impl.AllMarks(less); !ok || len(list) != 33 {
		t.Errorf("AllMarks of a fork with fewer tokens: %d, %v", len(list), ok)
	}
	wantJudged(t, "a fork with fewer tokens than the limit", less, true, nil, nil)
}

func TestSoundnessOfInvalidProcesses(t *testing.T) {
	for _, p := range badProcesses() {
		wantNoMarks(t, "a process that is not valid", p)
	}
	bad := repeatTask()
	bad.Flows[3].When = parts(operator(impl.PartNot))
	wantNoMarks(t, "a condition that is not valid", bad)
}

// TestRandomSoundness compares the functions for many processes with what they have to be.
func TestRandomSoundness(t *testing.T) {
	sound, stuck, endless, failed, many := 0, 0, 0, 0, 0
	for _, p := range tokenProcesses() {
		got, ok := impl.AllMarks(p)
		want, _, wantOk := wantedAll(p)
		if !slices.EqualFunc(got, want, slices.Equal) || ok != wantOk {
			t.Fatalf("AllMarks(%v) = %v, %v, want %v, %v", p, got, ok, want, wantOk)
		}
		compareSoundness(t, p)
		is, some := impl.IsSound(p), len(impl.StuckMarks(p)) > 0
		sound += bit(is)
		stuck += bit(some)
		endless += bit(ok && !is && !some)
		failed += bit(!ok)
		many += bit(len(got) > 20)
	}
	if min(sound, stuck, endless, failed) < 100 || many < 20 {
		t.Errorf("%d sound, %d stuck, %d endless, %d failed and %d large processes test too little", sound, stuck, endless, failed, many)
	}
}

func compareSoundness(t *testing.T, p impl.Process) {
	t.Helper()
	if got, want := impl.IsSound(p), wantedSound(p); got != want {
		t.Fatalf("IsSound(%v) = %v", p, got)
	}
	if got, want := impl.StuckMarks(p), wantedStuck(p); !slices.EqualFunc(got, want, slices.Equal) {
		t.Fatalf("StuckMarks(%v) = %v, want %v", p, got, want)
	}
	if got, want := impl.NeverReady(p), wantedNever(p); !slices.Equal(got, want) {
		t.Fatalf("NeverReady(%v) = %v, want %v", p, got, want)
	}
}
