package types_test

import (
	"strings"
	"testing"

	"girandole/api"
)

// parts: a program in parts. Of each the texts that have a fault, in the order in which these are told, and
// behind them one that has none. A mark stands where the fault is: "|" for ErrType, "#" ErrMany, "$" ErrZero, "@" ErrBig.
var parts = [...][]string{
	{"node f(|u: future int, ", "node f(u: int, "},
	{"|v: future bool, ", "v: bool, "},
	{"a: int, c: bool) returns (y: int, |w: future int, ", "a: int, c: bool) returns (y: int, w: int, "},
	{"|x: future bool) var k: int when c; ", "x: bool) var k: int when c; "},
	{"|l: future int when a; ", "|l: future int when c; ", "|l: int when a; ", "|l: int when p; ", "|l: int when q; ", "l: int when c; "},
	{"|m: bool when l; ", "m: int when c; "},
	{"p: future int; q: future bool; let p = async ints(|true); ", "p: future int; q: future bool; let |p = async bools(true); ", "p: future int; q: future bool; let p = async ints(1); "},
	{"(y, w) = async pair(1 + |true); ", "(y, w) = async pair(|true); ", "(y, w) = async #pair(1); ", "(|y, w) = bad(1); ", "(y, |w) = half(1); ", "(y, w) = pair(1); "},
	{"x = |1 and 1 = true; ", "x = true and (1 |+ 1); ", "x = true and 1 = |true; ", "|x = 1 + 1; ", "x = true and 1 = 1; "},
	{"k = |c / c; ", "k = a / |c; ", "k = a / $0; ", "|k = a / 1 = 1; ", "k = a / 1; "},
	{"|l = true; ", "l = 1; "},
	{"m = |await a after (1, 1, 1, 1, true, 1, 1, 1, 1); ", "m = @await p after (1, 1, 1, 1, true, 1, 1, 1, 1); ", "m = await p after (1, |true, true); ", "m = await p after (1, 2, |true); ", "m = await p; "},
	{"|q = bools(c); tel ", "|q = async ints(1); tel ", "q = async bools(c); tel "},
	{"node pair(a: int) returns (y: int, z: int) var |r: int when s; s: int; ", "node pair(a: int) returns (y: int, z: int) var r: int; s: int; "},
	{"let |r = r = r; s = 1; y = 1; z = 1; tel ", "let r = r; s = 1; y = 1; z = 1; tel "},
	{"node g(u: future int) returns (|y: future int) ", "node g(u: future int) returns (y: int) "},
	{"let y = waits(|1); tel ", "let |y = waits(u); tel ", "let y = if waits(u) then 1 else 2; tel "},
}

const ends = "node half(a: int) returns (y: int, z: bool) let y = a; z = true; tel node bad(a: int) returns (y: bool, z: bool) let y = true; z = true; tel " + others

// TestFirstIsTold: whatever else is wrong, the first fault is told; when it is mended, the next one.
func TestFirstIsTold(t *testing.T) {
	const marks = "|#$@"
	errs := []api.Errno{api.ErrType, api.ErrMany, api.ErrZero, api.ErrBig}
	unmarked := strings.NewReplacer("|", "", "#", "", "$", "", "@", "")
	sound := ""
	for i, part := range parts {
		behind := ""
		for _, later := range parts[i+1:] {
			behind += later[0]
		}
		last := len(part) - 1
		for _, s := range part[:last] {
			at := strings.IndexAny(s, marks)
			refused(t, sound+s[:at]+"|"+unmarked.Replace(s[at:]+behind)+ends, errs[strings.IndexByte(marks, s[at])])
		}
		sound += part[last]
	}
	taken(t, sound+ends)
}
