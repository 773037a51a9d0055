package tests

import (
	"slices"

	"loop.example/processengine/impl"
)

// The rules for clients a second time, and in another way: each client is looked for by going through all possible ones.

// wantedClients reports whether entries are valid.
func wantedClients(list []impl.Client) bool {
	i := 0
	for number := 0; number < 10 && i < len(list); number++ {
		if c := list[i]; c.Number == number {
			if c.Last != min(max(c.Last, 0), 999) || c.Seen != min(max(c.Seen, 0), 9999) {
				return false
			}
			i++
		}
	}
	return i == len(list) // so that none is left over, which came too late or too often
}

func wantedCheck(list []impl.Client, number int, call int) int {
	if !wantedClients(list) || number != min(max(number, 0), 9) || call != min(max(call, 1), 999) {
		return 4
	}
	for _, c := range list {
		if c.Number != number {
			continue
		}
		switch call - c.Last {
		case 1:
			return 1
		case 0:
			return 2
		}
		if call > c.Last {
			return 4
		}
		return 3
	}
	if call == 1 {
		return 1
	}
	return 4
}

func wantedRecord(list []impl.Client, number int, call int, reply int, now int) ([]impl.Client, bool) {
	if wantedCheck(list, number, call) != 1 || now != min(max(now, 0), 9999) {
		return nil, false
	}
	var next []impl.Client
	for i := range 10 {
		for _, c := range list {
			if c.Number == i && i != number {
				next = append(next, c)
			}
		}
		if i == number {
			next = append(next, impl.Client{Number: i, Last: call, Reply: reply, Seen: now})
		}
	}
	return next, true
}

func wantedReply(list []impl.Client, number int, call int) (int, bool) {
	if wantedCheck(list, number, call) != 2 {
		return 0, false
	}
	reply := 0
	for _, c := range list {
		if c.Number == number {
			reply = c.Reply
		}
	}
	return reply, true
}

func wantedForget(list []impl.Client, before int) []impl.Client {
	if !wantedClients(list) {
		return nil
	}
	var next []impl.Client
	for i := len(list) - 1; i >= 0; i-- {
		if list[i].Seen >= before {
			next = slices.Insert(next, 0, list[i])
		}
	}
	return next
}
