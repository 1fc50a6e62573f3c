package split_test

import (
	"math/rand"
	"slices"
	"strings"
	"testing"

	"girandole/api"
	"girandole/lex"
	"girandole/split"
)

const whole = `
node f(a: bool, c: bool) returns (b: bool, z: bool)
var u: future bool; v: future bool; w: future bool; k: bool when c; o: bool;
let
v = async p(c, u); u = async i(a or (true fby z)); w = async q(o, v, w);
k = i(a when c); o = t(a) xor await w after (true, false);
b = merge c (k) (i(a when not c)) = await u after (false); z = p(o, v) and await v after (true);
tel
node t(a: bool) returns (b: bool) var u: future bool; v: future bool; w: future bool;
let u = async s(a); v = async s(not s(a)); w = async m(await u after (true)); b = await w after (false); tel
node m(a: bool) returns (b: bool) var u: future bool; v: future bool; let b = h(u, u, a) and s(a); v = async i(b); u = async i(i(a)); tel
node s(a: bool) returns (b: bool) var u: future bool; v: future bool;
let v = async p(not a, u); u = async i(a); b = await v after (true) or p(a, u); tel
node q(a: bool, u: future bool, v: future bool) returns (b: bool) let b = p(a, u) xor r(a, v); tel
node r(a: bool, u: future bool) returns (b: bool) var v: future bool; w: future bool;
let v = async p(a, u); w = async h(v, v, b); b = p(a, v) <> await v after (false, true); tel
node p(a: bool, u: future bool) returns (b: bool) let b = a or await u after (true); tel
node h(u: future bool, v: future bool, a: bool) returns (b: bool) let b = a -> await v after (true) = (true fby await u after (false)); tel
node i(a: bool) returns (b: bool) let b = a xor (false fby b); tel
node j(a: bool) returns (b: bool) let b = true -> not pre a; tel`

// spoiled: the whole program with some tokens replaced by chance; all is a truth, so that it may still be sound.
func spoiled(r *rand.Rand) string {
	l, _ := lex.All(whole)
	var words []string
	for _, k := range l[:len(l)-1] {
		words = append(words, k.Text)
	}
	for left := 1 + r.Intn(6); left > 0; {
		i := r.Intn(len(words))
		if other := instead(r, words[i]); !slices.Equal(other, words[i:i+1]) {
			words = slices.Replace(words, i, i+1, other...)
			left--
		}
	}
	return strings.Join(words, " ")
}

// instead: what may stand where a word stands.
func instead(r *rand.Rand, word string) []string {
	among := func(l ...string) string { return l[r.Intn(len(l))] }
	switch word {
	case "i", "j", "s", "t", "m":
		return []string{among("i", "j", "s", "t", "m")}
	case "p", "r":
		return []string{among("p", "r")}
	case "u", "v", "w":
		return []string{among("u", "v", "w")}
	case "true", "false":
		return strings.Fields(among("true", "false", "true , false", "a"))
	case "a", "b", "c", "z", "k", "o":
		name := among("a", "b", "b", "c")
		e := among(name, name, name, "(W xor N)", "(W when c)", "(true -> pre W)", "(true fby N)", "i(W)", "s(N)", "t(W)", "p(N, u)", "r(N, u)",
			"(W xor await v after (true))", "(await u after (false, true, true) or N)", "merge c (t(W when c)) (j(W when not c))", "merge c (p(W when c, u)) (true)")
		return strings.Fields(strings.NewReplacer("W", word, "N", name).Replace(e))
	}
	return []string{word}
}

// rowsBy: what comes in by chance, nine times.
func rowsBy(r *rand.Rand) [][]int64 {
	var l [][]int64
	for range 9 {
		l = append(l, []int64{int64(r.Intn(2)), int64(r.Intn(2))})
	}
	return l
}

// TestByChance holds what Split answers against what the tree tells of workers, and what is written by these
// against what the program says.
func TestByChance(t *testing.T) {
	planOf(t, whole)
	r := rand.New(rand.NewSource(1))
	met := map[api.Errno]int{}
	same := 0
	for range 9000 {
		text := spoiled(r)
		l, f := read(text)
		if f != (lex.Fault{}) {
			continue
		}
		c, want := crowdOf(l)
		p, got := split.Split(l)
		if got != want || (p == nil) != (want != lex.Fault{}) {
			t.Fatalf("Split(%q) = %v, %+v, want %+v", text, p, got, want)
		}
		met[got.Err]++
		if p == nil {
			continue
		}
		if why := wrong(p, l[0]); why != "" {
			t.Fatalf("Split(%q) %s", text, why)
		}
		if !slices.Equal(crewOf(p), c.workers) || !slices.Equal(edgesOf(p), c.edges) {
			t.Fatalf("Split(%q) has the workers %v, the edges %q, want %v, %q", text, crewOf(p), edgesOf(p), c.workers, c.edges)
		}
		if saysSame(t, r, text, p, rowsBy(r)) {
			same++
		}
	}
	if met[api.OK] < 500 || met[api.ErrClock] < 30 || met[api.ErrCycle] < 40 || met[api.ErrLimits] < 20 || same < 500 {
		t.Errorf("errors were met as often as %v alone, and %d said the same", met, same)
	}
}
