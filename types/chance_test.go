package types_test

import (
	"math/rand"
	"slices"
	"strings"
	"testing"

	"girandole/api"
	"girandole/lex"
	"girandole/names"
	"girandole/parse"
	"girandole/tree"
	"girandole/types"
)

// ranked is a fault, and where it stands among all that a program may have.
type ranked struct {
	rank []int
	f    lex.Fault
}

// faults gathers all faults of a program, each with its rank, and doesn't stop at the first.
type faults struct {
	l   []ranked
	all []tree.Node
	n   tree.Node // the one that is looked at
}

func (s *faults) add(is bool, at int, err api.Errno, rank []int, more ...int) {
	if is {
		s.l = append(s.l, ranked{slices.Concat(rank, more), lex.Fault{At: at, Err: err}})
	}
}

func (s *faults) first() lex.Fault {
	if len(s.l) == 0 {
		return lex.Fault{}
	}
	return slices.MinFunc(s.l, func(a, b ranked) int { return slices.Compare(a.rank, b.rank) }).f
}

func (s *faults) ofProgram() {
	for i, n := range s.all {
		s.n = n
		for j, d := range n.Ins {
			s.add(i == 0 && d.Type.Future, d.At, api.ErrType, []int{i, 0, j})
		}
		for j, d := range n.Outs {
			s.add(d.Type.Future, d.At, api.ErrType, []int{i, 1, j})
		}
		for j, d := range n.Vars {
			s.add(d.Clock != "" && (d.Type.Future || s.declared(d.Clock) != "bool"), d.At, api.ErrType, []int{i, 2, j})
		}
		for j, q := range n.Eqs {
			s.ofEq([]int{i, 3, j}, q)
		}
	}
}

func (s *faults) ofEq(rank []int, q tree.Eq) {
	s.ofExpr(slices.Concat(rank, []int{0}), q.E, false)
	called, isCall := tree.Find(s.all, q.E.Name)
	isCall = isCall && q.E.Kind == tree.Call
	s.add(q.Async && len(called.Outs) != 1, q.E.At, api.ErrMany, rank, 1)
	for j, left := range q.Left {
		thing := s.is(q.E)
		if isCall {
			thing = tree.TypeText(called.Outs[j].Type)
		}
		if q.Async {
			thing = "future " + strings.TrimPrefix(thing, "future ")
		}
		s.add(s.declared(left.Name) != thing, left.At, api.ErrType, rank, 2, j)
	}
}

func (s *faults) declared(name string) string {
	d, _ := tree.Named(s.n, name)
	return tree.TypeText(d.Type)
}

// is: what an expression is, by what stands nearest that says it.
func (s *faults) is(e tree.Expr) string {
	switch e.Kind {
	case tree.Var:
		return s.declared(e.Name)
	case tree.Await:
		return strings.TrimPrefix(s.declared(e.Name), "future ")
	case tree.Call:
		n, _ := tree.Find(s.all, e.Name)
		return tree.TypeText(n.Outs[0].Type)
	case tree.If:
		return s.is(e.Kids[1])
	case tree.Arrow, tree.Fby, tree.Pre, tree.When, tree.Merge:
		return s.is(e.Kids[0])
	case tree.Bool, tree.Not:
		return "bool"
	case tree.Binary:
		if !strings.Contains("+ - * / mod", e.Name) {
			return "bool"
		}
	}
	return "int"
}

// wants: what the kids of an expression must be.
func (s *faults) wants(e tree.Expr) []string {
	switch e.Kind {
	case tree.Neg:
		return []string{"int"}
	case tree.Not:
		return []string{"bool"}
	case tree.If:
		return []string{"bool", s.is(e.Kids[1]), s.is(e.Kids[1])}
	case tree.Await:
		return slices.Repeat([]string{s.is(e)}, len(e.Kids))
	case tree.Call:
		n, _ := tree.Find(s.all, e.Name)
		var l []string
		for _, d := range n.Ins {
			l = append(l, tree.TypeText(d.Type))
		}
		return l
	case tree.Binary:
		switch e.Name {
		case "and", "or", "xor":
			return []string{"bool", "bool"}
		case "=", "<>":
		default:
			return []string{"int", "int"}
		}
	}
	if len(e.Kids) == 0 {
		return nil
	}
	return slices.Repeat([]string{s.is(e.Kids[0])}, len(e.Kids))
}

func (s *faults) ofExpr(rank []int, e tree.Expr, handed bool) {
	ofFuture := strings.HasPrefix(s.declared(e.Name), "future ")
	switch e.Kind {
	case tree.Var:
		s.add(!handed && ofFuture, e.At, api.ErrType, rank, 0)
	case tree.When, tree.Merge:
		s.add(s.declared(e.Name) != "bool", e.At, api.ErrType, rank, 0)
	case tree.Await:
		s.add(!ofFuture, e.At, api.ErrType, rank, 0)
		s.add(len(e.Kids) > 8, e.At, api.ErrBig, rank, 1)
	case tree.Binary:
		if by := e.Kids[1]; e.Name == "/" || e.Name == "mod" {
			s.add(by.Kind != tree.Int || by.N == 0, by.At, api.ErrZero, rank, 3)
		}
	}
	wants := s.wants(e)
	for j, k := range e.Kids {
		s.ofExpr(slices.Concat(rank, []int{2, j, 0}), k, e.Kind == tree.Call)
		wrong := s.is(k) != wants[j] || e.Kind == tree.Call && strings.HasPrefix(wants[j], "future ") && k.Kind != tree.Var
		s.add(wrong, k.At, api.ErrType, rank, 2, j, 1)
	}
}

const sound = `
node f(a: int, c: bool) returns (y: int, z: bool) var v: int when c; w: bool when not c; u: future int; x: future bool;
let v = g(a when c) / 3; (y, z) = h(a, c, u); w = (k(x, 1) when not c) = 4; u = async g(if c then y mod 2 else a); x = async l(u, x, z);
tel
node h(a: int, c: bool, u: future int) returns (y: int, z: bool)
let y = merge c (-a + g(1)) (2 fby await u after (1, -2)); z = not c and (a < y -> pre c xor true) or m(c <> z);
tel
node g(a: int) returns (y: int) let y = a * 2 - 1; tel
node k(x: future bool, a: int) returns (y: int) var w: future int; let y = if await x after (true, false, true, true, true, true, true, true) then a else 1; w = async g(a + 1); tel
node l(u: future int, x: future bool, c: bool) returns (z: bool) let z = await u >= 7 and await x = c; tel
node m(c: bool) returns (z: bool) let z = c; tel`

// spoiled: the sound program with some tokens replaced, put in or left out, by chance, so that its names may still mean something.
func spoiled(r *rand.Rand) string {
	l, _ := lex.All(sound)
	var words []string
	for _, k := range l[:len(l)-1] {
		words = append(words, k.Text)
	}
	for range r.Intn(6) {
		i := r.Intn(len(words))
		words = slices.Replace(words, i, i+1, instead(r, words[i])...)
	}
	return strings.Join(words, " ")
}

// instead: what may stand where a word stands.
func instead(r *rand.Rand, word string) []string {
	for _, same := range []string{"a c v w y z u x", "g m", "0 1 2 true false", "+ - * / mod and or xor = <> < >=", "-> and +", "not -"} {
		if l := strings.Fields(same); slices.Contains(l, word) && r.Intn(3) > 0 {
			return []string{l[r.Intn(len(l))]}
		}
	}
	switch word {
	case "int", "bool":
		return [][]string{{"int"}, {"bool"}, {"future", word}}[r.Intn(3)]
	case "future", "async":
		return nil
	case "h":
		return []string{"async", "h"}
	case "a", "c", "y", "z", "1":
		return [][]string{{"-", word}, {"not", word}, {"pre", word}, {"(", word, "/", "0", ")"}, {"g", "(", word, ")"}, {"await", "u"}, {"m", "(", word, ")"}}[r.Intn(7)]
	case "true", "2":
		return []string{word, ",", "1"}
	}
	return []string{word}
}

func TestByChance(t *testing.T) {
	taken(t, sound)
	r := rand.New(rand.NewSource(1))
	met := map[api.Errno]int{}
	for range 8000 {
		text := spoiled(r)
		l, f := parse.Program(text)
		if f != (lex.Fault{}) || names.Check(l) != (lex.Fault{}) {
			continue
		}
		s := faults{all: l}
		s.ofProgram()
		got, want := types.Check(l), s.first()
		if got != want {
			t.Fatalf("Check(%q) = %+v, want %+v", text, got, want)
		}
		met[got.Err]++
	}
	for _, err := range []api.Errno{api.OK, api.ErrType, api.ErrMany, api.ErrBig, api.ErrZero} {
		if met[err] < 10 {
			t.Errorf("error %d was met %d times alone", err, met[err])
		}
	}
}
