package inits_test

import (
	"math/rand"
	"slices"
	"strings"
	"testing"

	"girandole/api"
	"girandole/clocks"
	"girandole/inits"
	"girandole/lex"
	"girandole/names"
	"girandole/parse"
	"girandole/tree"
	"girandole/types"
)

// spot is a place in a program: node, equation, and from there on by which kids one comes to it.
type spot struct {
	path []int
	e    tree.Expr
}

// spots: all expressions of a program.
func spots(l []tree.Node) []spot {
	var all []spot
	var below func(path []int, e tree.Expr)
	below = func(path []int, e tree.Expr) {
		all = append(all, spot{path, e})
		for i, k := range e.Kids {
			below(slices.Concat(path, []int{i}), k)
		}
	}
	for i, n := range l {
		for j, q := range n.Eqs {
			below([]int{i, j}, q.E)
		}
	}
	return all
}

func at(all []spot, path []int) tree.Expr {
	i := slices.IndexFunc(all, func(s spot) bool { return slices.Equal(s.path, path) })
	return all[i].e
}

// isAhead: is one told ahead of another one? Those below come first.
func isAhead(a, b []int) bool {
	for i := range min(len(a), len(b)) {
		if a[i] != b[i] {
			return a[i] < b[i]
		}
	}
	return len(a) > len(b)
}

// must: must an expression be there at the first instant?
func must(all []spot, s spot) bool {
	if len(s.path) == 2 {
		return true
	}
	last := len(s.path) - 1
	switch above := at(all, s.path[:last]); above.Kind {
	case tree.Arrow:
		return s.path[last] == 0
	case tree.Fby:
		return s.path[last] == 1
	case tree.Pre, tree.Merge, tree.Call:
		return true
	}
	return false
}

// late: does one come, from an expression, to a Pre by such as aren't there in any case?
func late(all []spot, s spot) bool {
	return slices.ContainsFunc(all, func(below spot) bool {
		if below.e.Kind != tree.Pre || len(below.path) < len(s.path) || !slices.Equal(below.path[:len(s.path)], s.path) {
			return false
		}
		for i := len(s.path); i < len(below.path); i++ {
			switch at(all, below.path[:i]).Kind {
			case tree.Arrow, tree.Fby, tree.Merge, tree.Call, tree.Await:
				return false
			}
		}
		return true
	})
}

func firstOf(all []spot) lex.Fault {
	var wrong []spot
	for _, s := range all {
		if must(all, s) && late(all, s) {
			wrong = append(wrong, s)
		}
	}
	if len(wrong) == 0 {
		return lex.Fault{}
	}
	first := slices.MinFunc(wrong, func(a, b spot) int {
		if isAhead(a.path, b.path) {
			return -1
		}
		return 1
	})
	return lex.Fault{At: first.e.At, Err: api.ErrInit}
}

const whole = `
node f(a: bool, c: bool, d: bool) returns (y: bool, z: bool)
var k: bool when c; l: bool when not c; p: bool when d; u: future bool;
let
k = true -> (a when c) and pre k; l = not (a -> pre z) when not c; p = true fby ((p = (a when d)) and (false -> pre p));
u = async b(true -> pre a, c xor z);
(y, z) = h(merge c (k) (w(l, u)), await u after (true), if c then merge d (p) (false) else true -> w(d -> pre d, u));
tel
node b(c: bool, d: bool) returns (y: bool) let y = true -> c and not pre d; tel
node w(c: bool, u: future bool) returns (y: bool) let y = c = await u; tel
node h(a: bool, c: bool, d: bool) returns (y: bool, z: bool) let (y, z) = g(c or (true -> pre a), d -> pre c); tel
node g(c: bool, d: bool) returns (y: bool, z: bool) let y = c; z = true -> (if pre d then c else pre (c -> d)); tel`

// spoiled: the whole program with some tokens replaced by chance.
func spoiled(r *rand.Rand) string {
	l, _ := lex.All(whole)
	var words []string
	for _, k := range l[:len(l)-1] {
		words = append(words, k.Text)
	}
	for range r.Intn(6) {
		i := r.Intn(len(words))
		words = slices.Replace(words, i, i+1, instead(r, words[i])...)
	}
	return strings.Join(words, " ")
}

// instead: what may stand where a word stands.
func instead(r *rand.Rand, word string) []string {
	switch word {
	case "pre", "not":
		return [][]string{{}, {"pre"}, {"not"}, {"pre", "pre"}}[r.Intn(4)]
	case "->", "and", "xor", "or":
		return [][]string{{"and"}, {"->"}, {"or"}}[r.Intn(3)]
	case "true", "false":
		return [][]string{{"pre", word}, {"(", word, "fby", word, ")"}, {"not", "pre", word}}[r.Intn(3)]
	case "a", "c", "d", "y", "z", "k", "l", "p":
		return [][]string{{"pre", word}, {"(", "pre", word, ")"}, {"not", word}, {"(", "true", "->", "pre", word, ")"}, {"(", word, "and", "pre", word, ")"}, {"b", "(", word, ",", "pre", word, ")"}}[r.Intn(6)]
	}
	return []string{word}
}

func TestByChance(t *testing.T) {
	taken(t, whole)
	r := rand.New(rand.NewSource(1))
	met := map[api.Errno]int{}
	for range 3000 {
		text := spoiled(r)
		l, f := parse.Program(text)
		if f != (lex.Fault{}) || names.Check(l) != (lex.Fault{}) || types.Check(l) != (lex.Fault{}) || clocks.Check(l) != (lex.Fault{}) {
			continue
		}
		all := spots(l)
		got, want := inits.Check(l), firstOf(all)
		if got != want {
			t.Fatalf("Check(%q) = %+v, want %+v", text, got, want)
		}
		for _, s := range all {
			if got, want := inits.Late(l, s.e), late(all, s); got != want {
				t.Fatalf("Late(%q) = %t, want %t", tree.Text(s.e), got, want)
			}
		}
		met[got.Err]++
	}
	if met[api.OK] < 100 || met[api.ErrInit] < 100 {
		t.Errorf("errors were met as often as %v alone", met)
	}
}
