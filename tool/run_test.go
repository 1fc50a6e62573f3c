package tool_test

import (
	"strconv"
	"strings"
	"testing"
)

// TestExample: the document's own.
func TestExample(t *testing.T) {
	tells(t, job(plus, "5", "6"), "y: 6 7")
}

// TestPorts: of each port a line, in their order, of as many words as rows come in.
func TestPorts(t *testing.T) {
	for text, want := range map[string][]string{
		job(plus):                        {"y:"},
		plus:                             {"y:"},
		job(plus, "", "", ""):            {"y:"},
		job(plus, "5"):                   {"y: 6"},
		job(plus, "", "5", "", "6", "7"): {"y: 6 7 8"},
		job(plus, "5", "6", ""):          {"y: 6 7"},
		job(plus, "-5", "-1", "0"):       {"y: -4 0 1"},
		job(plus, "9223372036854775807", "-9223372036854775808"): {"y: -9223372036854775808 -9223372036854775807"},
		job(both):                                 {"y:", "z:"},
		job(both, "1 true", "2 false"):            {"y: 0 1", "z: false true"},
		job(both, "1 true", "", "2 true", ""):     {"y: 0 1", "z: false false"},
		job(both, "4 false", "-5 true", "6 true"): {"y: 0 4 -1", "z: true false false"},
		job(count):                        {"y:"},
		job(count, ".", ".", ".", "."):    {"y: 1 2 4 8"},
		job(count, ".", "", ".", "", "."): {"y: 1 2 4"},
		job(deaf):                         nil,
		job(deaf, "5", "6"):               nil,
		job("node f(x: int, y: int) returns (b: bool, longer_name9: int, c: bool, a: int) let (a, longer_name9, b, c) = g(x, y); tel "+
			"node g(x: int, y: int) returns (s: int, d: int, less: bool, same: bool) let s = x + y; d = x - y; less = x < y; same = x = y; tel", "1 2", "3 3"): {
			"b: true false", "longer_name9: -1 0", "c: false true", "a: 3 6"},
		job("node f() returns () let tel", ".", "."): nil,
		job("node f(b: bool) returns (n: bool, a: bool) let n = not b; a = b -> pre a and b; tel", "true", "true", "false", "true"): {
			"n: false false true false", "a: true true false false"},
	} {
		tells(t, text, want...)
	}
}

// TestRowsOfAProgram: the program's lines may stand as they like; the first node is the one that rows are for.
func TestRowsOfAProgram(t *testing.T) {
	tells(t, job("\n\n-- a remark, --- rows\n--- rows? no\n  --- script\n"+strings.ReplaceAll(plus, " ", "\n")+"\n-- the end", "5", "6"), "y: 6 7")
	const other = "\nnode g(a: bool, b: bool) returns (c: bool, d: bool) let c = a and b; d = a or b; tel"
	tells(t, job(plus+other, "5"), "y: 6")
	tells(t, job(other+"\n"+plus, "true false"), "c: false", "d: true")
	tells(t, job(other+"\n"+plus, "5"), "error 1 row 0")
	for _, text := range []string{job(plus, "5") + "\n", job(plus+"\n", "5"), job("\n"+plus, "5") + "\n\n"} {
		tells(t, text, "y: 6")
	}
}

// TestMany: as many rows as there may be, and one more.
func TestMany(t *testing.T) {
	want := "y:"
	for i := range 200 {
		want += " " + strconv.Itoa(i+1)
	}
	tells(t, job(plus, numbered(200)...), want)
	tells(t, job(plus, numbered(200)...)+"\n\n", want)
	tells(t, job(plus, numbered(201)...), "error 14 row 200")
	tells(t, job(plus, append([]string{"", ""}, numbered(201)...)...), "error 14 row 202")
	tells(t, scripted(plus, "x", numbered(201)...), "error 14 row 200")
}

// TestProgramFaults: of a program the fault, and its place in the program.
func TestProgramFaults(t *testing.T) {
	const head = "node f(x: int, c: bool) returns (y: int) "
	const g = " node g(a: int) returns (b: int) let b = a; tel"
	for _, x := range [...]struct{ program, at, err string }{
		{head + "let y = 07; tel", "07", "1"},
		{head + "let y = x", "", "2"},
		{"", "", "2"},
		{"node", "", "2"},
		{"\n\n node f(", "", "2"},
		{head + "let y = 9223372036854775808; tel", "922", "3"},
		{strings.Repeat(" ", 4000) + plus, "", "3"},
		{head + "let y = z; tel", "z;", "5"},
		{head + "let y = x; y = 1; tel", "y = 1", "6"},
		{head + "let y = x + true; tel", "true", "7"},
		{head + "let y = x when c; tel", "when", "8"},
		{head + "let y = 0 -> pre pre x; tel", "pre x", "9"},
		{head + "let y = x + y; tel", "f(x", "10"},
		{head + "let y = x / 0; tel", "0;", "11"},
		{head + "let y = g(x, x); tel" + g, "g(x", "12"},
		{head + "var u: future int; let u = async g(x); y = await u; tel" + g, "f(x", "13"},
		{head + "\nlet y = \n x \n + true;\n tel", "true", "7"},
	} {
		at := strings.Index(x.program, x.at)
		if x.at == "" {
			at = len(x.program)
		}
		if len(x.program) > 4000 {
			at = 4000
		}
		want := "error " + x.err + " at " + strconv.Itoa(at)
		tells(t, x.program, want)
		tells(t, job(x.program, "5 true"), want)
		tells(t, job(x.program, "no row"), want)
		tells(t, scripted(x.program, "0 1 2", "5 true"), want)
		tells(t, scripted(x.program, "no script", "no row"), want)
	}
	tells(t, "--- rows\n"+plus, "error 2 at 0")
	tells(t, "--- script\n0\n--- rows\n5", "error 2 at 0")
	tells(t, plus+" --- rows\nnode", "error 2 at "+strconv.Itoa(len(plus)+len(" --- rows\nnode"))) // that is a remark
}

// TestRowFaults: of rows the first that is wrong, counted behind the line that begins them.
func TestRowFaults(t *testing.T) {
	for _, x := range [...]struct {
		program, want string
		rows          []string
	}{
		{plus, "error 1 row 0", []string{"x"}},
		{plus, "error 1 row 0", []string{"07"}},
		{plus, "error 1 row 0", []string{" 7"}},
		{plus, "error 1 row 1", []string{"7", "\r"}},
		{plus, "error 1 row 2", []string{"", "7", "true", "x"}},
		{plus, "error 3 row 1", []string{"7", "9223372036854775808"}},
		{plus, "error 12 row 0", []string{"7 8"}},
		{plus, "error 12 row 0", []string{"7 "}},
		{plus, "error 1 row 1", []string{"5", "--- rows", "6"}},
		{plus, "error 1 row 1", []string{"5", "--- script", "0"}},
		{both, "error 12 row 3", []string{"", "1 true", "", "2"}},
		{both, "error 1 row 0", []string{"true 1"}},
		{both, "error 1 row 0", []string{"1 1"}},
		{count, "error 1 row 1", []string{".", "1"}},
		{count, "error 1 row 0", []string{". ."}},
		{deaf, "error 1 row 0", []string{"."}},
	} {
		tells(t, job(x.program, x.rows...), x.want)
		tells(t, scripted(x.program, "", x.rows...), x.want)
		tells(t, scripted(x.program, "no script", x.rows...), x.want)
	}
}
