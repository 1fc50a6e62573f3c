package parse_test

import (
	"strings"
	"testing"

	"girandole/api"
	"girandole/lex"
)

func TestFaultsOfWordsComeFirst(t *testing.T) {
	long := strings.Repeat("n", 31)
	for text, f := range map[string]lex.Fault{
		"?": {At: 0, Err: api.ErrForm}, "x y 07": {At: 4, Err: api.ErrForm}, "x fby y + " + long: {At: 10, Err: api.ErrBig},
		"9223372036854775808 9223372036854775809": {At: 20, Err: api.ErrBig}, strings.Repeat("not ", 50) + "x ?": {At: 202, Err: api.ErrForm},
		strings.Repeat("x ", 2001): {At: 4000, Err: api.ErrBig},
	} {
		exprRefused(t, text, f.At, f.Err)
		programRefused(t, text, f.At, f.Err)
	}
}

func TestEndsTooSoon(t *testing.T) {
	for _, text := range []string{"", " ", "-- x", "\n\t\n"} {
		exprRefused(t, text, len(text), api.ErrEnd)
		programRefused(t, text, len(text), api.ErrEnd)
	}
	for _, text := range []string{
		"x +", "x or", "x and", "x =", "x mod", "not", "pre", "-", "- -", "- 5 when", "x ->", "1 fby", "x when", "x when not", "(", "(x", "(1 fby x",
		"if", "if a", "if a then", "if a then b", "if a then b else", "merge", "merge c", "merge c (", "merge c (x", "merge c (x)", "merge c (x) (",
		"merge c (x) (y", "f(", "f(x", "f(x,", "await", "await u after", "await u after (", "await u after (-", "await u after (1", "await u after (true,",
	} {
		exprRefused(t, text, len(text), api.ErrEnd)
		exprRefused(t, text+" -- x\n ", len(text)+7, api.ErrEnd)
		programRefused(t, inNode(text), eqAt+len(text), api.ErrEnd)
	}
}

// TestEndInsideANode cuts a program of one node off behind each of its tokens.
func TestEndInsideANode(t *testing.T) {
	node := whole[:strings.Index(whole, "node g")]
	l, _ := lex.All(node)
	for _, k := range l[:len(l)-2] {
		at := k.At + len(k.Text)
		programRefused(t, node[:at], at, api.ErrEnd)
		programRefused(t, whole[len(node):]+node[:at]+" ", len(whole)+at-len(node)+1, api.ErrEnd)
	}
	nodesOf(t, node)
}

func TestWrongTokensInExpressions(t *testing.T) {
	for text, at := range map[string]int{
		")": 0, "+ x": 0, "* x": 0, "fby x": 0, "-> x": 0, "when c": 0, "then": 0, "else": 0, "after": 0, "int": 0, "tel": 0, "async f()": 0,
		"x y": 2, "x 5": 2, "5 x": 2, "x not y": 2, "x)": 1, "x;": 1, "x,": 1, "x true": 2, "x if": 2, "x <> y <= z": 7, "x = y = z": 6,
		"1 + if a then b else c": 4, "1 + not x": 4, "x -> if a then b else c": 5, "1 fby if a then b else c": 6, "x or if": 5,
		"not if": 4, "pre not x": 4, "- not x": 2, "x = not y": 4, "pre if": 4, "not x -> y fby z": 11,
		"(x;": 2, "()": 1, "(x y)": 3, "(x, y)": 2, "if then": 3, "if a b": 5, "if a else": 5, "if a then b then c": 12, "if a then b else else": 17,
		"merge (x) (y)": 6, "merge 5 (x) (y)": 6, "merge c x": 8, "merge c (x) y": 12, "merge c (x, y)": 10, "merge c () (y)": 9, "merge c (x) (y) (z)": 16,
		"f(x,)": 4, "f(,x)": 2, "f(x y)": 4, "f(x;": 3, "f()()": 3, "(f)()": 3, "5()": 1,
		"x when": 6, "x when 5": 7, "x when true": 7, "x when (c)": 7, "x when not not c": 11, "x when not 5": 11, "x when c c": 9, "-5 when 5": 8,
		"await": 5, "await 5": 6, "await (u)": 6, "await u()": 7, "await u (1)": 8, "await u after": 13, "await u after 1": 14, "await u after ()": 15,
		"await u after (x)": 15, "await u after (-x)": 16, "await u after (- -1)": 17, "await u after (-true)": 16, "await u after (1,)": 17,
		"await u after (1 + 1)": 17, "await u after ((1))": 15, "await u after (1 2)": 17, "await u after (-5 when c)": 18, "await u after (1) after (1)": 18,
	} {
		err := api.ErrForm
		if at == len(text) {
			err = api.ErrEnd
		}
		exprRefused(t, text, at, err)
		if at < len(text) && text != "x;" && text != "async f()" {
			programRefused(t, inNode(text), eqAt+at, err)
		}
	}
}

func TestWrongTokensInPrograms(t *testing.T) {
	const head, open = "node f() returns () ", "node f() returns () let "
	for text, at := range map[string]int{
		"f": 0, "let": 0, "x = 5;": 0, "(": 0, "node 5": 5, "node node": 5, "node f returns": 7, "node (": 5, "node f(,": 7, "node f(5": 7,
		"node f(a)": 8, "node f(a: future)": 16, "node f(a: x)": 10, "node f(a: future future": 17, "node f(a int)": 9, "node f(a: int;": 13,
		"node f(a: int when c)": 14, "node f(a: int,)": 14, "node f(a: int b: int)": 14, "node f(a, b: int)": 8, "node f(a: int int)": 14,
		"node f() let": 9, "node f() returns y": 17, "node f() returns let": 17, "node f() returns (int)": 18, "node f() returns (y: int when c)": 25,
		head + "x": 20, head + "x = 5;": 20, head + "tel": 20, head + "node": 20, head + ";": 20,
		head + "var let": 24, head + "var x let": 26, head + "var x: int let": 31, head + "var x: int,": 30, head + "var x: int; 5": 32,
		head + "var x: int; var": 32, head + "var x: int; tel": 32, head + "var x: int when;": 35, head + "var x: int when not;": 39,
		head + "var x: int when not not": 40, head + "var x: int when true": 36, head + "var x: int when c when": 38, head + "var x, y: int;": 25,
		open + "5": 24, open + "let": 24, open + ";": 24, open + "var": 24, open + "x;": 25, open + "x: int": 25, open + "x = ;": 28, open + "x, y = 5": 25,
		open + "x == 5": 27, open + "x = 5 tel": 30, open + "x = 5, y": 29, open + "x = 5;;": 30, open + "x = y = z = 5": 34, open + "f(x);": 25,
		open + "() = f();": 25, open + "(x) = f();": 26, open + "(x, ) = f();": 28, open + "(x, y = f();": 30, open + "(x y) = f();": 27,
		open + "(x, 5) = f();": 28, open + "(x, (y)) = f();": 28, open + "(x, y) f();": 31, open + "((x, y)) = f();": 25,
		open + "x = async 5;": 34, open + "x = async f;": 35, open + "x = async (f());": 34, open + "x = async f() + 1;": 38, open + "x = async f() when c;": 38,
		open + "x = async async f();": 34, open + "x = async await u;": 34, open + "x = 1 + async f();": 32, open + "x = (async f());": 29, open + "x = async f(async g());": 36,
		open + "tel x": 28, open + "tel tel": 28, open + "tel;": 27, open + "tel let": 28, open + "tel node 5": 33, open + "tel " + open + "; tel": 52,
	} {
		programRefused(t, text, at, api.ErrForm)
	}
	exprRefused(t, "node f() returns () let tel", 0, api.ErrForm)
	programRefused(t, "x", 0, api.ErrForm)
}

func TestBracketsDoNotCountAsLevels(t *testing.T) {
	const pairs = 1900
	toldAs(t, strings.Repeat("(", pairs)+"x"+strings.Repeat(")", pairs), "Var@1900 x")
	exprRefused(t, strings.Repeat("(", 4000), 4000, api.ErrEnd)
	exprRefused(t, strings.Repeat("(", pairs)+"x"+strings.Repeat(")", pairs+1), 2*pairs+1, api.ErrForm)
	nodesOf(t, inNode(strings.Repeat("(", pairs)+"x"+strings.Repeat(")", pairs)+"; tel"))
}
