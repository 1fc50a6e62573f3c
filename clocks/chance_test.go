package clocks_test

import (
	"math/rand"
	"slices"
	"strings"
	"testing"

	"girandole/api"
	"girandole/clocks"
	"girandole/lex"
	"girandole/names"
	"girandole/parse"
	"girandole/tree"
	"girandole/types"
)

// ranked is a fault, and where it stands among all that a program may have.
type ranked struct {
	rank []int
	f    lex.Fault
}

// faults gathers all faults of a program, each with its rank, and doesn't stop at the first. Clocks are texts here:
// "/c/!d" is that of what is there while c is true and d is false.
type faults struct {
	l      []ranked
	nodes  []tree.Node
	clocks map[string]string // of the node that is looked at
}

func (s *faults) add(is bool, at int, err api.Errno, rank []int, more ...int) {
	if is {
		s.l = append(s.l, ranked{slices.Concat(rank, more), lex.Fault{At: at, Err: err}})
	}
}

func (s *faults) first() lex.Fault {
	if len(s.l) == 0 {
		return lex.Fault{}
	}
	return slices.MinFunc(s.l, func(a, b ranked) int { return slices.Compare(a.rank, b.rank) }).f
}

func guard(name string, off bool) string {
	if off {
		return "/!" + name
	}
	return "/" + name
}

// clocksOf: those of all names that have one, found from the outer ones in.
func clocksOf(n tree.Node) map[string]string {
	m := map[string]string{}
	for range tree.All(n) {
		for _, d := range tree.All(n) {
			if c, ok := m[d.Clock]; ok {
				m[d.Name] = c + guard(d.Clock, d.Off)
			} else if d.Clock == "" {
				m[d.Name] = ""
			}
		}
	}
	return m
}

func (s *faults) ofProgram() {
	for i, n := range s.nodes {
		s.clocks = clocksOf(n)
		for j, d := range n.Vars {
			_, ok := s.clocks[d.Name]
			s.add(!ok, d.At, api.ErrCycle, []int{i, 0, j})
		}
		for j, q := range n.Eqs {
			on := s.clocks[q.Left[0].Name]
			for k, left := range q.Left {
				s.add(s.clocks[left.Name] != on, left.At, api.ErrClock, []int{i, 1, j, 0, k})
			}
			s.ofExpr([]int{i, 1, j, 1}, q.E, on)
		}
	}
}

func (s *faults) ofExpr(rank []int, e tree.Expr, on string) {
	kids := slices.Repeat([]string{on}, len(e.Kids))
	switch e.Kind {
	case tree.Var:
		s.add(s.clocks[e.Name] != on, e.At, api.ErrClock, rank)
	case tree.Await:
		s.add(on != "", e.At, api.ErrClock, rank)
	case tree.When:
		kids[0] = s.clocks[e.Name]
		s.add(on != kids[0]+guard(e.Name, e.Off), e.At, api.ErrClock, rank)
	case tree.Merge:
		s.add(on != s.clocks[e.Name], e.At, api.ErrClock, rank)
		kids = []string{on + "/" + e.Name, on + "/!" + e.Name}
	case tree.Call:
		n, _ := tree.Find(s.nodes, e.Name)
		for i, d := range n.Ins {
			if d.Type.Future {
				kids[i] = s.clocks[e.Kids[i].Name]
			}
		}
	}
	for i, k := range e.Kids {
		s.ofExpr(slices.Concat(rank, []int{i}), k, kids[i])
	}
}

const whole = `
node f(a: bool, c: bool, d: bool) returns (y: bool, z: bool)
var k: bool when c; l: bool when not c; m: bool when k; n: bool when not k; p: bool when d; u: future bool; v: future bool;
let
k = a when c xor k; l = not (a or z) when not c; m = b(a when c, p2(k)) when k; n = k when not k -> pre n; p = true fby p = (a when d);
u = async b(a, c); v = async w(a, u);
(y, z) = h(merge c (merge k (m) (n)) (w(l, u)), await u after (true), if c then merge d (p) (false) else w(d, v));
tel
node b(c: bool, d: bool) returns (y: bool) let y = c and d; tel
node p2(c: bool) returns (y: bool) var k: bool when c; let y = merge c (not k) (pre c when not c); k = c when c; tel
node w(c: bool, u: future bool) returns (y: bool) let y = c = await u; tel
node h(a: bool, c: bool, d: bool) returns (y: bool, z: bool) var k: bool when a; m: bool when a; let (k, m) = g(c when a, d when a); y = merge a (k) (c when not a); z = merge a (m = k) (d when not a); tel
node g(c: bool, d: bool) returns (y: bool, z: bool) let y = c; z = d; tel`

// spoiled: the whole program with some tokens replaced by chance; all is a truth, so that types may still fit.
func spoiled(r *rand.Rand) string {
	l, _ := lex.All(whole)
	var words []string
	for _, k := range l[:len(l)-1] {
		words = append(words, k.Text)
	}
	for range r.Intn(6) {
		if i := r.Intn(len(words)); r.Intn(3) > 0 {
			words = slices.Replace(words, i, i+1, instead(r, words[i])...)
		} else {
			turn(r, words)
		}
	}
	return strings.Join(words, " ")
}

// turn puts another name of its own behind a "when" of the first node: in a declaration, at times round to itself.
func turn(r *rand.Rand, words []string) {
	from := r.Intn(slices.Index(words, "tel"))
	if ahead := slices.Index(words[from/3:], "when"); ahead >= 0 {
		words[from/3+ahead+1] = strings.Fields("k l m n p")[r.Intn(5)]
	}
}

// instead: what may stand where a word stands.
func instead(r *rand.Rand, word string) []string {
	name := strings.Fields("a c d y z k l m n p")
	other := name[r.Intn(len(name))]
	switch {
	case word == "not":
		return nil
	case word == "when":
		return [][]string{{"when", "not"}, {"when", other, "when"}}[r.Intn(2)]
	case word == "and" || word == "xor":
		return []string{"->"}
	case !slices.Contains(name, word):
		return []string{word}
	}
	return [][]string{{other}, {other}, {other}, {"when", other}, {word, "when", other}, {word, "when", "not", other}, {"(", "pre", word, ")"}, {"p2", "(", other, ")"}, {"await", "u"}}[r.Intn(9)]
}

func TestByChance(t *testing.T) {
	taken(t, whole)
	r := rand.New(rand.NewSource(1))
	met := map[api.Errno]int{}
	for range 5000 {
		text := spoiled(r)
		l, f := parse.Program(text)
		if f != (lex.Fault{}) || names.Check(l) != (lex.Fault{}) || types.Check(l) != (lex.Fault{}) {
			continue
		}
		s := faults{nodes: l}
		s.ofProgram()
		got, want := clocks.Check(l), s.first()
		if got != want {
			t.Fatalf("Check(%q) = %+v, want %+v", text, got, want)
		}
		met[got.Err]++
	}
	for _, err := range []api.Errno{api.OK, api.ErrClock, api.ErrCycle} {
		if met[err] < 50 {
			t.Errorf("error %d was met %d times alone", err, met[err])
		}
	}
}
