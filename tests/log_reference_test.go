package tests

import (
	"slices"

	"loop.example/processengine/impl"
)

// The rules for logs a second time, and in another way: logs are read from their end, and grow entry by entry behind one of the term 0.

// wantedLog reports whether a log is valid.
func wantedLog(list []impl.Entry) bool {
	most := 9
	for i := len(list) - 1; i >= 0; i-- {
		e := list[i]
		if e.Term > most || e.Term <= 0 || e.Op < 0 || e.Op >= 100 {
			return false
		}
		most = e.Term
	}
	return len(list) < 17
}

func wantedAppend(list []impl.Entry, number int, term int, more []impl.Entry) ([]impl.Entry, bool) {
	if !wantedLog(list) || !wantedLog(more) {
		return nil, false
	}
	next := slices.Concat([]impl.Entry{{}}, list)
	if number < 0 || number >= len(next) || next[number].Term != term {
		return list, false
	}
	for i, e := range more {
		at := number + 1 + i
		if at < len(next) && next[at].Term != e.Term {
			next = next[:at]
		}
		if at == len(next) {
			next = append(next, e)
		}
	}
	if !wantedLog(next[1:]) {
		return nil, false
	}
	return next[1:], true
}

// wantedAge returns a number that is greater for newer logs, and at least 0 for valid ones.
func wantedAge(list []impl.Entry) int {
	if !wantedLog(list) {
		return -1
	}
	if len(list) == 0 {
		return 0
	}
	return 100*list[len(list)-1].Term + len(list)
}

func wantedNewer(a []impl.Entry, b []impl.Entry) bool {
	return wantedAge(b) >= 0 && wantedAge(a) >= wantedAge(b)
}

func wantedCommon(a []impl.Entry, b []impl.Entry) int {
	if !wantedLog(a) || !wantedLog(b) {
		return -1
	}
	many := min(len(a), len(b))
	for !slices.Equal(a[:many], b[:many]) {
		many--
	}
	return many
}

func wantedCommit(list []impl.Entry, has []int, term int) int {
	if !wantedLog(list) || len(has) == 0 || len(has) >= 8 || slices.Min(has) < 0 || slices.Max(has) >= 17 {
		return -1
	}
	for number := len(list); number > 0; number-- {
		with, without := 0, 0
		for _, many := range has {
			if many < number {
				without++
			} else {
				with++
			}
		}
		if list[number-1].Term == term && with > without {
			return number
		}
	}
	return 0
}
