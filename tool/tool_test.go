package tool_test

import (
	"math/rand"
	"strconv"
	"strings"
	"testing"

	"meridian/tool"
)

// says holds a script, line by line, to what it answers.
func says(t *testing.T, pairs ...string) {
	t.Helper()
	var script, want []string
	for i := 0; i+1 < len(pairs); i += 2 {
		script = append(script, pairs[i])
		want = append(want, pairs[i+1])
	}
	got := strings.Split(tool.Run(strings.Join(script, "\n")), "\n")
	for i, w := range want {
		if i >= len(got) || got[i] != w {
			t.Errorf("%q: %q, not %q", script[i], got[min(i, len(got)-1)], w)
		}
	}
	if len(got) != len(want)+1 || got[len(got)-1] != "" {
		t.Error("so many lines", len(got)-1)
	}
}

// P27.1: dates, tables, moments.
func TestDates(t *testing.T) {
	says(t,
		"day 2000-03-01", "11017", "day 1969-12-31", "-1", "day 0001-01-01", "-719162", "day 1970-01-01", "0",
		"date 0", "1970-01-01", "date 11017", "2000-03-01", "date 2932896", "9999-12-31", "date 2932897", "error 11", "date 9223372036854775807", "error 11",
		"offset 2016-12-31", "36", "offset 2017-01-01", "37", "offset 1900-01-01", "35",
		"length 2016-12-31", "86401", "length 2016-12-30", "86400", "length 2015-06-30", "86401",
		"tai 2016-12-31 86400000000000", "1483228836000000000", "tai 2016-12-31 86401000000000", "error 1", "tai 1969-12-31 0", "-86365000000000", "tai 9999-12-31 0", "9223372036854775807",
		"utc 1483228836000000000", "2016-12-31 86400000000000", "utc 1483228837000000000", "2017-01-01 0", "utc 0", "1969-12-31 86365000000000", "utc 9223372036854775807", "error 11",
		"era 2036-02-07 23296000000000", "0000000000000000", "era 1900-01-01 500000000", "0000000080000000", "era 1970-01-01 0", "83aa7e8000000000", "era 1970-01-01 86401000000000", "error 1",
	)
}

func TestTables(t *testing.T) {
	says(t,
		"offset 2017-01-01", "37",
		"leap 1990-01-01 5", "ok", "offset 2017-01-01", "37",
		"leap 1991-01-01 6", "ok", "expires 1992-01-01", "ok",
		"offset 2017-01-01", "6", "length 1990-12-31", "86401",
		"expires 1992-01-01", "error 12", "offset 2017-01-01", "6",
		"leap 1990-01-01 5", "ok", "leap 1990-01-01 6", "ok", "expires 1992-01-01", "error 12",
		"leap 1990-01-01 1001", "ok", "expires 1992-01-01", "error 12",
		"leap 1990-01-15 7", "ok", "expires 1990-01-16", "ok", "offset 1990-01-01", "7",
	)
}

// P27.1: intervals, tokens.
func TestOthers(t *testing.T) {
	says(t,
		"most 1 5 4 8 7 9", "4 5 2", "most 3 3", "3 3 1", "most 5 4", "0 0 0", "most 0 9223372036854775807", "0 9223372036854775807 1",
		"most", "? most", "most 1", "? most 1", "most 1 2 3", "? most 1 2 3", "most 1 x", "? most 1 x",
		"token 281474976710655.65535", "mffffffffffffffff-"+sum("mffffffffffffffff"), "token 0.65536", "error 1",
		"seen m0000000000010002-"+sum("m0000000000010002"), "1.2", "seen m", "error 10",
	)
}

// sum is what stands behind a token.
func sum(head string) string {
	m, c := "1", "2"
	if head[1] == 'f' {
		m, c = "281474976710655", "65535"
	}
	s := tool.Run("token " + m + "." + c)
	return s[18:26]
}

// P27.1: lines that are none.
func TestNone(t *testing.T) {
	for _, line := range []string{
		" ", "x", "day", "day ", "day  2000-03-01", " day 2000-03-01", "day 2000-03-01 ", "day 2000-02-30", "day 2000-3-1", "Day 2000-03-01", "day\t2000-03-01", "day 2000-03-01\r",
		"date", "date -1", "date +1", "date 01", "date 00", "date 9223372036854775808", "date 99999999999999999999999", "date 1.0", "date 0x1", "date 1_0", "date 1 2",
		"leap 1990-01-01", "leap 1990-01-01 -1", "leap 1990-01-32 1", "expires", "expires 1990-13-01", "offset 5", "length x", "tai 2000-01-01", "tai 2000-01-01 -5", "utc -5", "era 5 5",
		"token", "token 5", "token 5.", "token .5", "token 5.5.5", "token 05.5", "token 5.05", "token -5.5", "token 5,5", "seen", "seen a b",
		"put 0 0.0 k v", "put 0 0.0 k v 0 0", "put 0 0 k v 0", "put x 0.0 k v 0", "put 0 0.0 k v x", "del 0 0.0", "del 0 k", "snap 0 0.0", "snap 0 0", "get 0 0", "get 0 x k", "scan 0", "scan 0 0 0",
		"close 0", "tick 0", "tick 0 -1", "ask 0", "reply 0 0 0", "reply 0 0 0 x", "reply 0 0 0 0 0", "crash 0", "start", "start 0 0", "rest", "rest 0 0", "give 0", "lose 0", "fuse 0 0", "? x", "\x00", "\xff\xfe", "ok",
	} {
		if got := tool.Run(line); got != "? "+line+"\n" {
			t.Errorf("%q: %q", line, got)
		}
	}
	if got := tool.Run(""); got != "" {
		t.Error(got)
	}
	if got := tool.Run("\n\n# a remark\n#day 2000-03-01\nday 1970-01-02\n\n"); got != "1\n" {
		t.Error(got)
	}
}

// P27.1: a world.
func TestWorld(t *testing.T) {
	says(t,
		"put 0 0.0 k v 0", "1 0 at=0.1",
		"put 3 0.0 k v 0", "1 3 error 1",
		"put 9223372036854775807 0.0 k v 0", "1 9223372036854775807 error 1",
		"put 0 70000.0 k v 0", "1 0 error 16",
		"snap 1 0.1 1000", "3 1 error 18",
		"rest 5", "18 0",
		"rest 0", "18 0 error 1",
		"snap 1 0.1 1000", "3 1 at=50.0",
		"get 1 0 k", `4 1 found "v"`,
		"get 1 0 l", "4 1",
		"get 1 7 k", "4 1 error 7",
		"scan 1 0", `5 1 "k"="v"`,
		"del 1 0.1 k", "2 1 at=50.1",
		"put 1 0.0 \"x\\ \xff 30", "1 1 at=50.2",
		"rest 2", "18 0",
		"snap 1 0.1 1000", "3 1 n=1 at=70.0",
		"scan 1 1", `5 1 "\x22x\x5c"="\xff"`,
		"close 1 1", "6 1 n=1",
		"close 1 1", "6 1",
		"tick 2 1000000", "7 2",
		"tick 2 9223372036854775807", "7 2 error 1",
		"ask 2 0", "13 2",
		"ask 2 3", "13 2 error 1",
		"reply 2 1 0 0", "14 2 error 7",
		"reply 2 0 1483228836000000000 1", "14 2 error 15",
		"reply 2 0 1483228836000000000 0", "14 2 error 7",
		"ask 2 0", "13 2", "ask 2 1", "13 2",
		"reply 2 0 1483228836000000000 8", "14 2",
		"reply 2 1 1483228836000000000 16", "14 2",
		"reply 2 1 1483228836000000000 256", "14 2 error 14",
		"crash 0 5", "15 0",
		"put 0 0.0 k v 0", "1 0 error 9",
		"start 0", "16 0",
		"start 0", "16 0",
		"put 0 0.0 k v 0", "1 0 at=1000.1",
	)
}

// P27.1: a scan tells at most a hundred.
func TestScanTellsAHundred(t *testing.T) {
	var script strings.Builder
	for i := range 120 {
		script.WriteString("put 0 0.0 k" + strconv.Itoa(i) + " v 0\n")
		if i%50 == 49 {
			script.WriteString("rest 20\n")
		}
	}
	got := tool.Run(script.String() + "rest 20\nsnap 0 0.0 100\nscan 0 0\n")
	if n := strings.Count(got, "="); strings.Contains(got, "error") || n-strings.Count(got, "at=") != 100 {
		t.Error(n, got)
	}
}

// P27.1: the world has the table that there was at its first line.
func TestWorldTable(t *testing.T) {
	short := "leap 1972-01-01 35\nexpires 1990-01-01\n"
	ask := "ask 0 0\nreply 0 0 1483228836000000000 0\n"
	if got := tool.Run(short + ask); got != "ok\nok\n13 0\n14 0 error 13\n" {
		t.Error(got)
	}
	if got := tool.Run("start 0\n" + short + ask); got != "16 0\nok\nok\n13 0\n14 0\n" {
		t.Error(got)
	}
	if got := tool.Run("get 0 0\n" + short + ask); got != "? get 0 0\nok\nok\n13 0\n14 0 error 13\n" {
		t.Error("a line that is none makes no world", got)
	}
}

// P27.2: scripts one behind the other; the same again.
func TestBehindOneAnother(t *testing.T) {
	lines := []string{
		"put 0 0.0 a 1 0", "put 1 0.0 b 2 50", "put 2 0.0 a 3 0", "rest 3", "snap 0 0.0 500", "get 0 0 a", "scan 0 0", "del 1 0.0 a", "crash 2 3", "start 2", "tick 1 30000000",
		"leap 1990-01-01 5", "expires 1999-01-01", "offset 1995-05-05", "ask 0 1", "reply 0 1 1483228836000000000 0", "x", "", "#", "most 1 2", "token 5.5", "era 1999-09-09 1",
	}
	r := rand.New(rand.NewSource(27))
	for range 100 {
		var a, b strings.Builder
		for range r.Intn(30) {
			a.WriteString(lines[r.Intn(len(lines))] + "\n")
			b.WriteString(lines[r.Intn(len(lines))] + "\n")
		}
		one, both := tool.Run(a.String()), tool.Run(a.String()+b.String())
		if !strings.HasPrefix(both, one) || both != tool.Run(strings.TrimSuffix(a.String()+b.String(), "\n")) {
			t.Fatal(a.String(), b.String())
		}
	}
	for range 300 {
		b := make([]byte, r.Intn(200))
		for i := range b {
			b[i] = " 01.-\nputdayrest#"[r.Intn(17)]
		}
		tool.Run(string(b))
	}
}
