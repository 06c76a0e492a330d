package trace_test

import (
	"math"
	"strconv"
	"strings"
	"testing"

	"meridian/api"
	"meridian/trace"
	"meridian/world"
)

// P26.1: each byte there is.
func TestQuote(t *testing.T) {
	for x := range 256 {
		want := string([]byte{byte(x)})
		if x < 0x20 || x > 0x7e || x == '"' || x == '\\' {
			want = `\x` + strconv.FormatInt(int64(x+0x100), 16)[1:]
		}
		if got := trace.Quote([]byte{byte(x)}); got != `"`+want+`"` {
			t.Error(x, got)
		}
	}
	for _, c := range [][2]string{{"", `""`}, {"v", `"v"`}, {"a \"b\\\n\xff~\x7f", `"a \x22b\x5c\x0a\xff~\x7f"`}} {
		if got := trace.Quote([]byte(c[0])); got != c[1] {
			t.Error(got)
		}
	}
	if trace.Quote(nil) != `""` {
		t.Error("nil")
	}
}

// P26.1: the example, each part of a line, and what is not told.
func TestLine(t *testing.T) {
	st := func(m, c int) api.Stamp { return api.Stamp{Milli: m, Count: c} }
	for i, c := range []struct {
		s    world.Step
		a    world.Answer
		want string
	}{
		{world.Step{Kind: world.StepGet, Node: 1}, world.Answer{Found: true, Value: []byte("v")}, `4 1 found "v"`},
		{world.Step{}, world.Answer{}, "0 0"},
		{world.Step{Kind: -5, Node: math.MinInt}, world.Answer{N: -1}, "0 0"},
		{world.Step{Kind: 18, Node: 123, N: 9, M: 9, Key: "k"}, world.Answer{N: 7}, "18 123 n=7"},
		{world.Step{Kind: 1}, world.Answer{Err: api.ErrDead}, "1 0 error 9"},
		{world.Step{Kind: 1}, world.Answer{Stamp: st(5, 0)}, "1 0 at=5.0"},
		{world.Step{Kind: 1}, world.Answer{Stamp: st(0, 3)}, "1 0 at=0.3"},
		{world.Step{Kind: 1}, world.Answer{Stamp: st(-5, 3)}, "1 0 at=0.3"},
		{world.Step{Kind: 1}, world.Answer{Stamp: st(2, -3)}, "1 0 at=2.0"},
		{world.Step{Kind: 1}, world.Answer{Stamp: st(-2, -3)}, "1 0 at=0.0"},
		{world.Step{Kind: 4}, world.Answer{Value: []byte("v")}, "4 0"},
		{world.Step{Kind: 4}, world.Answer{Found: true}, `4 0 found ""`},
		{world.Step{Kind: 5}, world.Answer{Pairs: []api.Pair{{Key: "a", Value: []byte("1")}, {Key: "\"", Value: nil}}}, `5 0 "a"="1" "\x22"=""`},
		{world.Step{Kind: 2, Node: 3}, world.Answer{Err: api.ErrOld, N: 2, Stamp: st(1, 2), Found: true, Value: []byte("\n"), Pairs: []api.Pair{{Key: "k", Value: []byte("w")}}}, `2 3 error 19 n=2 at=1.2 found "\x0a" "k"="w"`},
	} {
		if got := trace.Line(c.s, c.a); got != c.want {
			t.Error(i, got)
		}
	}
}

// P26.2.
func TestLines(t *testing.T) {
	steps := []world.Step{{Kind: 1}, {Kind: 2, Node: 1}, {Kind: 3}}
	answers := []world.Answer{{N: 1}, {}, {Err: 1}, {}}
	for n := range 4 {
		want := strings.Join([]string{"1 0 n=1\n", "2 1\n", "3 0 error 1\n"}[:n], "")
		if a, b := trace.Lines(steps[:n], answers...), trace.Lines(steps, answers[:n]...); a != want || b != want {
			t.Error(n, a, b)
		}
	}
	if trace.Lines(nil) != "" {
		t.Error("nothing")
	}
}

// P26.3: the same again, and nothing is changed.
func TestTheSameAgain(t *testing.T) {
	b := []byte("a\"b")
	s, a := world.Step{Kind: 4}, world.Answer{Found: true, Value: b}
	if one := trace.Line(s, a); one != trace.Line(s, a) || string(b) != "a\"b" {
		t.Error(one)
	}
}
