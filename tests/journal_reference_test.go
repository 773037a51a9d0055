package tests

import "loop.example/processengine/impl"

// The rules for journals a second time, and in another way: journals are replayed from behind,
// and where they split is found by replaying ever longer beginnings of them.

func wantedApply(p impl.Process, x impl.Instance, e impl.Event) (impl.Instance, bool) {
	switch {
	case e.Kind == 1:
		return wantedComplete(p, x, e.Value, e.Sets)
	case e.Kind == 2 && len(e.Sets) == 0:
		return wantedDeliver(p, x, e.Value)
	case e.Kind == 3 && len(e.Sets) == 0:
		return wantedAdvance(p, x, e.Value)
	}
	return impl.Instance{}, false
}

func wantedReplay(p impl.Process, v []int, list []impl.Event) (impl.Instance, int) {
	if len(list) > 12 {
		return impl.Instance{}, -1
	}
	if len(list) == 0 {
		x, ok := wantedStart(p, v)
		return x, bit(ok) - 1
	}
	last := len(list) - 1
	x, n := wantedReplay(p, v, list[:last])
	if n < last {
		return x, n
	}
	if y, ok := wantedApply(p, x, list[last]); ok {
		return y, n + 1
	}
	return x, n
}

func wantedSplit(p impl.Process, v []int, a []impl.Event, b []impl.Event) int {
	if _, ok := wantedStart(p, v); !ok || max(len(a), len(b)) > 12 {
		return -1
	}
	for i := 1; i <= max(len(a), len(b)); i++ {
		if min(len(a), len(b)) < i {
			return i
		}
		x, n := wantedReplay(p, v, a[:i])
		y, m := wantedReplay(p, v, b[:i])
		if n != m || !sameInstance(x, y) {
			return i
		}
		if n < i {
			return 0
		}
	}
	return 0
}
