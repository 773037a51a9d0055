package tests

import (
	"fmt"
	"regexp"
	"strings"

	"loop.example/processengine/impl"
)

// The rules for sessions a second time, and in another way: a pattern tells what a line is,
// and events happen by the second rules for texts, instances and journals.

var (
	linePattern  = regexp.MustCompile(`(?s)\A(?:(deploy) (.+)|(start|tasks|marks|done)|(complete|message|clock) ([^ ]+)|(complete) ([^ ]+) ([^ ]+))\z`)
	shortPattern = regexp.MustCompile(`\A(?:0|-?[1-9][0-9]{0,3})\z`)
	setPattern   = regexp.MustCompile(`\Av([0-9])=(0|-?[1-9][0-9]{0,3})\z`)
)

// wantedSession is a session with the process and the instance that there are, if there are any.
type wantedSession struct {
	p        impl.Process
	x        impl.Instance
	deployed bool
	started  bool
}

// answer returns what a line has to print.
func (s *wantedSession) answer(line string) string {
	found := linePattern.FindStringSubmatch(line)
	switch {
	case found == nil:
		return "what"
	case found[1] != "":
		return s.deploy(found[2])
	case found[3] == "start":
		return s.start()
	case found[3] != "":
		return s.question(found[3])
	}
	return s.happen(found[4]+found[6], found[5]+found[7], found[8])
}

func (s *wantedSession) deploy(text string) string {
	p, ok := wantedParseProcess(text)
	if !ok {
		return "no"
	}
	*s = wantedSession{p: p, deployed: true}
	return "ok"
}

func (s *wantedSession) start() string {
	if !s.deployed {
		return "no"
	}
	x, ok := wantedStart(s.p, zeros)
	if !ok {
		return "no"
	}
	s.x, s.started = x, true
	return "ok"
}

func (s *wantedSession) question(word string) string {
	switch {
	case !s.started:
		return "no"
	case word == "tasks":
		return strings.Trim(fmt.Sprint(wantedOpen(s.p, s.x)), "[]")
	case word == "marks":
		return strings.Trim(fmt.Sprint(s.x.Marks), "[]")
	case wantedDone(s.p, s.x):
		return "yes"
	}
	return "not yet"
}

// happen lets an event happen, with a last word that is empty if there is none.
func (s *wantedSession) happen(word string, number string, last string) string {
	e := impl.Event{Kind: map[string]int{"complete": 1, "message": 2, "clock": 3}[word], Value: -1}
	if shortPattern.MatchString(number) {
		e.Value = readNumber(number)
	}
	if last != "" {
		found := setPattern.FindStringSubmatch(last)
		if found == nil {
			return "no"
		}
		e.Sets = []impl.Set{{Variable: readNumber(found[1]), Value: readNumber(found[2])}}
	}
	if !s.started {
		return "no"
	}
	x, ok := wantedApply(s.p, s.x, e)
	if !ok {
		return "no"
	}
	s.x = x
	return "ok"
}

func wantedRunSession(lines []string) string {
	var s wantedSession
	text := ""
	for i, line := range lines {
		if i < 20 {
			text += s.answer(line) + "\n"
		}
	}
	return text
}
