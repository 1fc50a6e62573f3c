package parse_test

import (
	"strings"
	"testing"

	"girandole/api"
	"girandole/tree"
)

// tower: an expression's text, with so much around it on its left, and on its right, so many times.
func tower(left, inner, right string, times int) string {
	return strings.Repeat(left, times) + inner + strings.Repeat(right, times)
}

// towers: each way in which levels grow one by one, from how many on, and where such an expression has its place.
var towers = []struct {
	left, inner, right string
	levels             int
	place              func(text string) int
}{
	{"not ", "x", "", 1, outermost},
	{"pre ", "x", "", 1, outermost},
	{"- ", "x", "", 1, outermost},
	{"- ", "5", "", 0, outermost}, // the last "-" is the number's
	{"not ", "await u after (1)", "", 2, outermost},
	{"", "x", " when c", 1, rightmost("when")},
	{"", "x", " + x", 1, rightmost("+")},
	{"", "x", " and x", 1, rightmost("and")},
	{"x -> ", "y", "", 1, leftmost("->")},
	{"1 fby ", "y", "", 1, leftmost("fby")},
	{"f(", "x", ")", 1, outermost},
	{"f(1, ", "g()", ", 2)", 1, outermost},
	{"if a then b else ", "x", "", 1, outermost},
	{"if ", "x", " then a else b", 1, outermost},
	{"merge c (x) (", "y", ")", 1, outermost},
	{"(x = ", "y", ")", 1, func(string) int { return 3 }},
}

func outermost(string) int { return 0 }

func rightmost(word string) func(string) int {
	return func(text string) int { return strings.LastIndex(text, word) }
}

func leftmost(word string) func(string) int {
	return func(text string) int { return strings.Index(text, word) }
}

func TestLevelsAtTheirLimit(t *testing.T) {
	for _, w := range towers {
		full := tower(w.left, w.inner, w.right, api.MaxDeep-w.levels)
		if e := exprOf(t, full); tree.Deep(e) != api.MaxDeep || e.At != w.place(full) {
			t.Errorf("Expr(%q) has %d levels, at %d", full, tree.Deep(e), e.At)
		}
		nodesOf(t, inNode(full+"; tel"))
		for _, over := range []int{1, 2, 40} {
			more := tower(w.left, w.inner, w.right, api.MaxDeep-w.levels+over)
			exprRefused(t, more, w.place(more), api.ErrBig)
			programRefused(t, inNode(more+"; tel"), eqAt+w.place(more), api.ErrBig)
		}
	}
	for _, w := range []string{"x", "-x", "pre 5", "f(x, y)"} {
		programRefused(t, inNode("async f("+tower("not ", w, "", 50)+"); tel"), eqAt+len("async "), api.ErrBig)
	}
	nodesOf(t, inNode("async f("+tower("not ", "x", "", 38)+"); tel"))
	programRefused(t, inNode("async f("+tower("not ", "x", "", 39)+"); tel"), eqAt+len("async "), api.ErrBig)
	exprRefused(t, tower("not ", "x", "", 998), 0, api.ErrBig)
}

func TestTooManyLevelsAreToldAheadOfWhatStandsBehind(t *testing.T) {
	deep := tower("not ", "x", "", 40)
	for _, behind := range []string{" y", " fby y", " 5", ")", " 9223372036854775808", " then", " ; tel"} {
		exprRefused(t, deep+behind, 0, api.ErrBig)
	}
	for _, behind := range []string{"", " y", " fby y", ")", ", y", ": int", "; y", "; y = 9223372036854775808", "; y = " + deep, "; tel tel"} {
		programRefused(t, inNode(deep+behind), eqAt, api.ErrBig)
	}
	programRefused(t, inNode("async f("+deep+") + 1"), eqAt+len("async "), api.ErrBig)
	programRefused(t, inNode("x y; z = "+deep), eqAt+2, api.ErrForm)
}

func TestWhatStandsInsideIsToldAheadOfTooManyLevels(t *testing.T) {
	deep := tower("not ", "x", "", 40)
	n := len(deep)
	exprRefused(t, deep+" and", n+4, api.ErrEnd)
	exprRefused(t, deep+" and )", n+5, api.ErrForm)
	exprRefused(t, "("+deep, n+1, api.ErrEnd)
	exprRefused(t, "("+deep+" y)", n+2, api.ErrForm)
	exprRefused(t, "("+deep+" fby y)", n+2, api.ErrForm)
	exprRefused(t, deep+" -> 9223372036854775808", n+4, api.ErrBig)
	exprRefused(t, "f("+deep+"; "+deep+")", n+2, api.ErrForm)
	programRefused(t, inNode("async f("+deep+" y)"), eqAt+len("async f(")+n+1, api.ErrForm)
	programRefused(t, inNode(deep+" ->"), eqAt+n+3, api.ErrEnd)
}
