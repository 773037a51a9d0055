package tests

import (
	"slices"

	"loop.example/processengine/impl"
)

// The rules for letters a second time, and in another way: everything is looked for by counting from the end.

// wantedPost reports whether a post office is valid.
func wantedPost(x impl.Post) bool {
	if len(x.Subs) > 10 || len(x.Letters) > 10 {
		return false
	}
	in := func(n int, most int) bool { return n >= 0 && n <= most }
	for _, l := range x.Letters {
		if !in(l.Name, 9) || !in(l.Key, 99) || !in(l.Until, 9999) {
			return false
		}
	}
	for _, s := range x.Subs {
		if !in(s.Name, 9) || !in(s.Key, 99) || !in(s.Owner, 9) {
			return false
		}
		for _, l := range x.Letters {
			if l.Name == s.Name && l.Key == s.Key {
				return false
			}
		}
	}
	return true
}

func wantedSend(x impl.Post, l impl.Letter) (impl.Post, int, bool) {
	if !wantedPost(x) || !wantedPost(letters(l)) {
		return impl.Post{}, -1, false
	}
	first := -1
	for i := len(x.Subs) - 1; i >= 0; i-- {
		if s := x.Subs[i]; s.Name == l.Name && s.Key == l.Key {
			first = i
		}
	}
	if first >= 0 {
		return impl.Post{Subs: slices.Concat(x.Subs[:first], x.Subs[first+1:]), Letters: x.Letters}, x.Subs[first].Owner, true
	}
	y := impl.Post{Subs: x.Subs, Letters: slices.Concat(x.Letters, []impl.Letter{l})}
	if !wantedPost(y) {
		return impl.Post{}, -1, false
	}
	return y, -1, true
}

func wantedWait(x impl.Post, s impl.Sub) (impl.Post, bool, bool) {
	if !wantedPost(x) || !wantedPost(subs(s)) {
		return impl.Post{}, false, false
	}
	first := -1
	for i := len(x.Letters) - 1; i >= 0; i-- {
		if l := x.Letters[i]; l.Name == s.Name && l.Key == s.Key {
			first = i
		}
	}
	if first >= 0 {
		return impl.Post{Subs: x.Subs, Letters: slices.Concat(x.Letters[:first], x.Letters[first+1:])}, true, true
	}
	y := impl.Post{Subs: slices.Concat(x.Subs, []impl.Sub{s}), Letters: x.Letters}
	if !wantedPost(y) {
		return impl.Post{}, false, false
	}
	return y, false, true
}

func wantedDrop(x impl.Post, now int) impl.Post {
	if !wantedPost(x) {
		return impl.Post{}
	}
	y := impl.Post{Subs: x.Subs}
	for i := len(x.Letters) - 1; i >= 0; i-- {
		if x.Letters[i].Until >= now {
			y.Letters = slices.Concat(x.Letters[i:i+1], y.Letters)
		}
	}
	return y
}
