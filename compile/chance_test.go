package compile_test

import (
	"math/rand"
	"slices"
	"strings"
	"testing"

	"girandole/api"
	"girandole/lex"
	"girandole/parse"
	"girandole/tree"
)

// wholes: programs with all that one may have, of which others are made by chance.
var wholes = [...]string{`
node f(x: int, c: bool) returns (y: int, z: bool) var k: int when c; l: int when not c; e: bool; u: future int; v: future int; b: future bool;
let u = async sum(x); v = async more(u, y); b = async over(x, v, 3);
k = sum(x when c) - 1; l = (0 -> pre (x when not c)) * -2; e = await b after (true, false) xor c;
y = merge c (k) (l) + await u after (0); z = not e and (x < await v after (1, -2) -> pre e or true);
tel
node sum(a: int) returns (b: int) let b = a + (0 -> pre b); tel
node more(w: future int, a: int) returns (b: int) let b = await w after (5) * 2 + half(a); tel
node over(a: int, w: future int, d: int) returns (e: bool) let e = (a > d) = (await w after (7) <> 0); tel
node half(a: int) returns (b: int) let b = if a > 0 then a / 2 else 1 fby a mod 3; tel`, `
node f(x: int, c: bool) returns (y: int) var m: int; n: bool; u: future int; d: bool when c; g: int when d;
let (m, n) = two(x, c, u); u = async on(m); d = n when c; g = (2 fby g) + (m when c when d);
y = merge c (merge d (g) (-(m when c when not d))) (on(x) when not c);
tel
node two(a: int, c: bool, w: future int) returns (y: int, z: bool) let y = -(a - (4 fby await w after (0))); z = c <> (false fby c); tel
node on(a: int) returns (b: int) var v: future int; let v = async id(a); b = await v after (3); tel
node id(a: int) returns (b: int) let b = a; tel`, `
node f() returns (y: int, p: bool) var u: future int; v: future int; w: future bool; i: int;
let u = async a(v, i); v = async a(u, 2); w = async b(w, u);
i = 0 -> pre i + 1; y = await u after (1) + await v after (4); p = if i >= 3 then await w after (false) else i <= 1;
tel
node a(w: future int, i: int) returns (o: int) let o = i - await w after (2, -3); tel
node b(w: future bool, v: future int) returns (o: bool) let o = not (await w after (true)) or c(v) = 0; tel
node c(v: future int) returns (o: int) let o = 5 fby await v; tel`}

// alike: words that may stand for each other, mostly.
var alike = [...]string{"x y k l m i a b", "c e n z p d", "u v w", "sum half on id", "0 1 2 3 true false", "+ - *", "/ mod", "and or xor", "= <> < <= > >=", "-> and +", "int bool", "when not"}

// instead: what may stand where a word stands; for a name that isn't given, what may stand for its value.
func instead(r *rand.Rand, word string, given bool) []string {
	if r.Intn(80) == 0 {
		all := append(lex.Words(), lex.Signs()...)
		return [][]string{nil, {word, word}, {all[r.Intn(len(all))]}}[r.Intn(3)]
	}
	for _, same := range alike {
		if l := strings.Fields(same); slices.Contains(l, word) && (given || r.Intn(3) > 0) {
			return []string{l[r.Intn(len(l))]}
		}
	}
	if strings.Contains(" x y k l m a b c e n z p d 1 2 true ", " "+word+" ") {
		e := []string{"(0 -> pre W)", "(true -> pre W)", "(true fby W)", "(1 fby W)", "(pre W)", "(0 -> pre pre W)", "(- W)", "(not W)", "(W when c)", "(W when not c)", "merge c (W when c) (W when not c)",
			"sum(W)", "on(W)", "id(W)", "(if c then W else W)", "(W + x)", "(W - 1)", "(W / 0)", "(W mod W)", "await u", "(await u after (1, 2))", "(W and c)"}
		return strings.Fields(strings.ReplaceAll(e[r.Intn(len(e))], "W", word))
	}
	if word == "after" && r.Intn(3) == 0 { // no delay
		return []string{[]string{"-", "+", "*", "="}[r.Intn(4)]}
	}
	if word == "," && r.Intn(3) == 0 { // one more
		return []string{",", "1", ","}
	}
	return []string{word}
}

// spoiled: one of the whole programs, with some words replaced by chance.
func spoiled(r *rand.Rand) string {
	tokens, _ := lex.All(wholes[r.Intn(len(wholes))])
	var words []string
	for _, k := range tokens[:len(tokens)-1] {
		words = append(words, k.Text)
	}
	for left := r.Intn(4); left > 0; {
		i := 1 + r.Intn(len(words)-2)
		given := words[i+1] == ":" || words[i+1] == "=" || strings.Contains(" when not merge await node ", " "+words[i-1]+" ")
		if other := instead(r, words[i], given); !slices.Equal(other, words[i:i+1]) {
			words = slices.Replace(words, i, i+1, other...)
			left--
		}
	}
	return strings.Join(words, " ")
}

// rowsBy: what comes in by chance, a truth at each port of truths; sometimes something is wanting, or more.
func rowsBy(r *rand.Rand, first tree.Node) [][]int64 {
	var l [][]int64
	for range r.Intn(12) {
		var row []int64
		for _, d := range first.Ins {
			n := int64(r.Intn(50) - 20)
			if d.Type.Bool {
				n = int64(r.Intn(2))
			}
			row = append(row, n)
		}
		switch r.Intn(12) {
		case 0:
			row = row[:r.Intn(len(row)+1)]
		case 1:
			row = append(row, 77)
		}
		l = append(l, row)
	}
	return l
}

// TestWholes: what the programs are made of is taken.
func TestWholes(t *testing.T) {
	for i, text := range wholes {
		taken(t, text, []int{4, 4, 4}[i])
	}
}

// TestByChance: what is told is the first fault, layer by layer; whatever is taken says what it means, and comes
// to its end; the canonical text has a fault of one kind, or says the same.
func TestByChance(t *testing.T) {
	r := rand.New(rand.NewSource(1))
	met := map[api.Errno]int{}
	for range 8000 {
		text := spoiled(r)
		l, p, f := compiled(t, text)
		met[f.Err]++
		var rows, said [][]int64
		if f.Err == api.OK {
			rows = rowsBy(r, l[0])
			said = says(t, l, p, rows)
		}
		if l, g := parse.Program(text); g == (lex.Fault{}) {
			again(t, l, f, rows, said)
		}
	}
	for _, err := range []api.Errno{api.OK, api.ErrForm, api.ErrName, api.ErrTwice, api.ErrType, api.ErrClock, api.ErrInit, api.ErrCycle, api.ErrZero, api.ErrMany, api.ErrDelay} {
		if met[err] < 8 {
			t.Errorf("just %d programs have the fault %d", met[err], err)
		}
	}
}
