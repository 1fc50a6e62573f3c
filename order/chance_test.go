package order_test

import (
	"math/rand"
	"slices"
	"strings"
	"testing"

	"girandole/api"
	"girandole/flat"
	"girandole/lex"
)

const whole = `
node f(a: bool, c: bool, d: bool) returns (y: bool, z: bool)
var k: bool when c; l: bool when not c; m: bool when k; n: bool when not k; e: bool when c; o: bool; p: bool; u: future bool; v: future bool;
let
v = async w(a xor z, u); u = async i(y);
(k, e) = h(a when c, true fby k); l = d when not c; m = g(true, d when c when k); n = i(true);
y = merge c (merge k (m) (i(n))) (g(l, true)); (z, o) = h(w(d, u), g(y, p));
p = a -> pre z xor await v after (true);
tel
node g(c: bool, d: bool) returns (y: bool) var k: bool when c; let k = d when c; y = merge c (k) (i(true)); tel
node i(c: bool) returns (y: bool) let y = c <> (false fby c); tel
node j(c: bool) returns (y: bool) let y = true fby not c; tel
node w(c: bool, u: future bool) returns (y: bool) let y = c = await u after (false); tel
node h(c: bool, d: bool) returns (y: bool, z: bool) let z = c; y = d; tel
node s(c: bool, d: bool) returns (y: bool, z: bool) var e: bool; let (e, y) = h(d, i(c) or e); z = j(c); tel
node r(c: bool, d: bool) returns (y: bool, z: bool) let z = j(y); y = d; tel`

// spoiled: the whole program with some tokens replaced by chance; all is a truth, so that it may still be sound.
func spoiled(r *rand.Rand) string {
	l, _ := lex.All(whole)
	var words []string
	for _, k := range l[:len(l)-1] {
		words = append(words, k.Text)
	}
	for left := r.Intn(7); left > 0; {
		i := r.Intn(len(words))
		if other := instead(r, words[i]); !slices.Equal(other, words[i:i+1]) {
			words = slices.Replace(words, i, i+1, other...)
			left--
		}
	}
	return strings.Join(words, " ")
}

// instead: what may stand where a word stands.
func instead(r *rand.Rand, word string) []string {
	among := func(l ...string) string { return l[r.Intn(len(l))] }
	switch word {
	case "h", "s", "r":
		return []string{among("h", "s", "r")}
	case "i", "j":
		return []string{among("i", "j")}
	case "a", "c", "d", "y", "z", "k", "l", "m", "n", "e", "o", "p":
		name := among("a", "c", "d", "y", "z", "k", "o", "p")
		e := among(name, name, name, "(W when N)", "(W when not N)", "(true -> pre W)", "(true fby N)", "(true fby (W xor N))", "g(W, N)", "i(W)", "j(N)",
			"w(N, u)", "(if W then N else not W)", "merge N (W when N) (true)", "merge N (i(W when N)) (j(W when not N))", "merge N (true) (j(true))")
		return strings.Fields(strings.NewReplacer("W", word, "N", name).Replace(e))
	}
	return []string{word}
}

func TestByChance(t *testing.T) {
	programOf(t, whole)
	r := rand.New(rand.NewSource(1))
	met := map[api.Errno]int{}
	for range 6000 {
		text := spoiled(r)
		l, f := read(text)
		if f != (lex.Fault{}) {
			continue
		}
		for _, n := range l {
			u, f := flat.Flatten(l, n.Name)
			if f != (lex.Fault{}) {
				continue
			}
			want := lex.Fault{}
			if hangsOf(l, n).ring() {
				want = lex.Fault{At: n.At, Err: api.ErrCycle}
			}
			if _, got := sorted(t, u); got != want {
				t.Fatalf("Sort of %q in %q: %+v, want %+v", n.Name, text, got, want)
			}
			met[want.Err]++
		}
	}
	if met[api.OK] < 1000 || met[api.ErrCycle] < 300 {
		t.Errorf("orders and rings were met as often as %v alone", met)
	}
}
