package tool_test

import (
	"strconv"
	"strings"
	"testing"

	"girandole/tool"
)

// Programs of one worker, of two, of none that anything comes into, and one from which nothing goes out.
const (
	plus  = "node f(x: int) returns (y: int) let y = x + 1; tel"
	both  = "node m(x: int, b: bool) returns (y: int, z: bool)\nvar u: future int;\nlet u = async g(x); y = await u after (0); z = not b; tel\nnode g(a: int) returns (c: int) let c = a -> pre c + a; tel"
	count = "node f() returns (y: int) let y = 1 fby 2 * y; tel"
	deaf  = "node f(x: int) returns () var y: int; let y = x; tel"
)

// job: a text of a program and rows.
func job(program string, rows ...string) string {
	return strings.Join(append([]string{program, "--- rows"}, rows...), "\n")
}

// scripted: a text of a program, a script and rows.
func scripted(program, script string, rows ...string) string {
	return job(program+"\n--- script\n"+script, rows...)
}

// tells: of a job these lines come.
func tells(t *testing.T, text string, lines ...string) {
	t.Helper()
	want := ""
	for _, line := range lines {
		want += line + "\n"
	}
	if got := tool.Run(text); got != want {
		t.Errorf("Run(%.800q): %.400q, want %.400q", text, got, want)
	}
}

// picks: a script of one worker, so often.
func picks(worker, times int) string {
	return strings.Repeat(strconv.Itoa(worker)+" ", times)
}

// numbered: so many rows of one number each, from 0 on.
func numbered(n int) []string {
	var l []string
	for i := range n {
		l = append(l, strconv.Itoa(i))
	}
	return l
}
