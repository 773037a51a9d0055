package tests

import (
	"fmt"
	"regexp"
	"strconv"
	"strings"

	"loop.example/processengine/impl"
)

// The rules for texts a second time, and in another way: patterns tell which texts there can be,
// so that only what they find has to be read.

const (
	numberPattern    = `(?:0|-?[1-9][0-9]*)`
	wordPattern      = `(?:` + numberPattern + `|v` + numberPattern + `|not|\+|-|and|or|<|=)`
	conditionPattern = wordPattern + `(?: ` + wordPattern + `)*`
	nodePattern      = `(?:start|end|task|choice|fork|merge|join|(?:timer|message)` + numberPattern + `)`
	flowPattern      = `(` + numberPattern + `)>(` + numberPattern + `)(?::(` + conditionPattern + `))?`
)

var (
	conditionText = regexp.MustCompile(`\A` + conditionPattern + `\z`)
	processText   = regexp.MustCompile(`\A` + nodePattern + `(?:,` + nodePattern + `)*(?:;` + flowPattern + `)*\z`)
	nodeText      = regexp.MustCompile(`\A([a-z]+)(.*)\z`)
	flowText      = regexp.MustCompile(`\A` + flowPattern + `\z`)
)

// operators are the words of the parts that take values, by their kinds.
var operators = strings.Split("  not + - and or < =", " ")

// kinds are the words of nodes, by their kinds.
var kinds = strings.Split("start end task timer message choice fork merge join", " ")

// readNumber returns a number that a pattern has found; one that is too great becomes another one that is.
func readNumber(s string) int {
	n, _ := strconv.ParseInt(s, 10, 64)
	return int(n)
}

// readPart returns a part that a pattern has found.
func readPart(word string) impl.Part {
	for kind, w := range operators {
		if word == w && kind >= 2 {
			return impl.Part{Kind: kind}
		}
	}
	if word[0] == 'v' {
		return impl.Part{Kind: 1, Value: readNumber(word[1:])}
	}
	return impl.Part{Value: readNumber(word)}
}

func wantedParseCondition(s string) ([]impl.Part, bool) {
	if !conditionText.MatchString(s) {
		return nil, false
	}
	var c []impl.Part
	for _, word := range strings.Fields(s) {
		c = append(c, readPart(word))
	}
	if !wantedValid(c) {
		return nil, false
	}
	return c, true
}

func wantedFormatCondition(c []impl.Part) string {
	if !wantedValid(c) {
		return ""
	}
	text := ""
	for _, p := range c {
		word := operators[p.Kind]
		if p.Kind < 2 {
			word = fmt.Sprintf("%s%d", []string{"", "v"}[p.Kind], p.Value)
		}
		text += " " + word
	}
	return text[1:]
}

func wantedParseProcess(s string) (impl.Process, bool) {
	if len(s) > 1500 || !processText.MatchString(s) {
		return impl.Process{}, false
	}
	pieces := strings.Split(s, ";")
	var p impl.Process
	for _, text := range strings.Split(pieces[0], ",") {
		found := nodeText.FindStringSubmatch(text)
		for kind, w := range kinds {
			if w == found[1] {
				p.Nodes = append(p.Nodes, impl.Node{Kind: kind, Value: readNumber(found[2])})
			}
		}
	}
	for _, text := range pieces[1:] {
		found := flowText.FindStringSubmatch(text)
		f := impl.Flow{From: readNumber(found[1]), To: readNumber(found[2])}
		if strings.Contains(text, ":") {
			when, ok := wantedParseCondition(found[3])
			if !ok {
				return impl.Process{}, false
			}
			f.When = when
		}
		p.Flows = append(p.Flows, f)
	}
	if _, ok := wantedProcess(p); !ok {
		return impl.Process{}, false
	}
	return p, true
}

func wantedFormatProcess(p impl.Process) string {
	if _, ok := wantedProcess(p); !ok {
		return ""
	}
	var nodes []string
	for _, n := range p.Nodes {
		value := ""
		if n.Kind == 3 || n.Kind == 4 {
			value = fmt.Sprint(n.Value)
		}
		nodes = append(nodes, kinds[n.Kind]+value)
	}
	text := strings.Join(nodes, ",")
	for _, f := range p.Flows {
		text += fmt.Sprintf(";%d>%d", f.From, f.To)
		if len(f.When) > 0 {
			text += ":" + wantedFormatCondition(f.When)
		}
	}
	return text
}
