package tool

import (
	"strconv"
	"strings"

	"meridian/api"
	"meridian/cal"
	"meridian/world"
)

// scanned is how many pairs a scan tells at most.
const scanned = 100

// args is what the words behind a line's first one tell.
type args struct {
	nums  []int
	day   int
	stamp api.Stamp
	words []string
}

// form is what a line's words must be, behind its first one: D a date, N a number, S a stamp, W a word; empty, if there is no such line.
func form(name string, words int) string {
	switch name {
	case "day", "expires", "offset", "length":
		return "D"
	case "leap", "tai", "era":
		return "DN"
	case "date", "utc", "start", "rest":
		return "N"
	case "most":
		return strings.Repeat("NN", max(words/2, 1))
	case "token":
		return "S"
	case "seen":
		return "W"
	case "put":
		return "NSWWN"
	case "del":
		return "NSW"
	case "snap":
		return "NSN"
	case "get":
		return "NNW"
	case "scan", "close", "tick", "ask", "crash":
		return "NN"
	case "reply":
		return "NNNN"
	}
	return ""
}

// parse takes words of a form.
func parse(form string, words []string) (args, bool) {
	var a args
	if form == "" || len(form) != len(words) {
		return a, false
	}
	for i, word := range words {
		if !a.take(form[i], word) {
			return args{}, false
		}
	}
	return a, true
}

// take takes one word of a kind.
func (a *args) take(kind byte, word string) bool {
	switch kind {
	case 'N':
		n, ok := number(word)
		a.nums = append(a.nums, n)
		return ok
	case 'D':
		d, e := cal.Parse(word)
		if e != api.OK {
			return false
		}
		a.day, e = cal.Days(d)
		return e == api.OK
	case 'S':
		milli, count, ok := strings.Cut(word, ".")
		m, isMilli := number(milli)
		c, isCount := number(count)
		a.stamp = api.Stamp{Milli: m, Count: c}
		return ok && isMilli && isCount
	}
	a.words = append(a.words, word)
	return true
}

// number is the number that digits tell, without noughts ahead.
func number(s string) (int, bool) {
	if s == "" || strings.Trim(s, "0123456789") != "" || len(s) > 1 && s[0] == '0' {
		return 0, false
	}
	n, err := strconv.Atoi(s)
	return n, err == nil
}

// stepOf is the step that a line is; false, if it is none.
func stepOf(name string, a args) (world.Step, bool) {
	kind := kindOf(name)
	if kind == 0 {
		return world.Step{}, false
	}
	s := world.Step{Kind: kind, Node: a.nums[0], Seen: a.stamp}
	if len(a.nums) > 1 {
		s.N = a.nums[1]
	}
	if len(a.words) > 0 {
		s.Key = a.words[0]
	}
	switch kind {
	case world.StepPut:
		s.Value = []byte(a.words[1])
	case world.StepScan:
		s.M = scanned
	case world.StepReply:
		s.M, s.By = a.nums[2], byte(a.nums[3])
	case world.StepRest:
		s.Node, s.N = 0, a.nums[0]
	}
	return s, true
}

// kindOf is a step's kind by its name; 0, if it is none.
func kindOf(name string) int {
	switch name {
	case "put":
		return world.StepPut
	case "del":
		return world.StepDel
	case "snap":
		return world.StepSnap
	case "get":
		return world.StepGet
	case "scan":
		return world.StepScan
	case "close":
		return world.StepClose
	case "tick":
		return world.StepTick
	case "ask":
		return world.StepAsk
	case "reply":
		return world.StepReply
	case "crash":
		return world.StepCrash
	case "start":
		return world.StepStart
	case "rest":
		return world.StepRest
	}
	return 0
}
