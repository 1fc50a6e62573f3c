package parse_test

import (
	"math/rand"
	"slices"
	"strings"
	"testing"

	"girandole/api"
	"girandole/lex"
	"girandole/parse"
	"girandole/tree"
)

// bnf is the chapter's grammar without [ ] and { }: a rule a line, its ways parted by |, "." where nothing stands. Here "fby" has what may stand ahead of it.
const bnf = `program: node | node program
node: "node" NAME decls "returns" decls vars "let" eqs "tel"
decls: "(" ")" | "(" decl+ ")"
decl+: decl | decl "," decl+
decl: NAME ":" future type
future: . | "future"
type: "int" | "bool"
vars: . | "var" var+
var+: var | var var+
var: decl ";" | decl clock ";"
clock: "when" NAME | "when" "not" NAME
eqs: . | eq eqs
eq: left "=" "async" call ";" | left "=" expr ";"
left: NAME | "(" NAME "," name+ ")"
name+: NAME | NAME "," name+
call: NAME "(" ")" | NAME "(" expr+ ")"
expr+: expr | expr "," expr+
expr: "if" expr "then" expr "else" expr | arrow
arrow: or | or "->" arrow | const "fby" arrow
const: literal | "(" const ")"
or: and | or "or" and | or "xor" and
and: not | and "and" not
not: "not" not | sum | sum "=" sum | sum "<>" sum | sum "<" sum | sum "<=" sum | sum ">" sum | sum ">=" sum
sum: term | sum "+" term | sum "-" term
term: unary | term "*" unary | term "/" unary | term "mod" unary
unary: "pre" unary | "-" unary | when
when: primary | when clock
primary: NUMBER | "true" | "false" | call | NAME | "merge" NAME "(" expr ")" "(" expr ")" | "await" NAME | "await" NAME "after" "(" literal+ ")" | "(" expr ")"
literal+: literal | literal "," literal+
literal: NUMBER | "-" NUMBER | "true" | "false"`

type rules map[string][][]string

func grammar() rules {
	g := rules{}
	for line := range strings.SplitSeq(bnf, "\n") {
		name, ways, _ := strings.Cut(line, ": ")
		for way := range strings.SplitSeq(ways, " | ") {
			g[name] = append(g[name], strings.Fields(strings.TrimSuffix(way, ".")))
		}
	}
	return g
}

// item: a rule's way, how much of it stands already, and since which token.
type item struct {
	rule            string
	way, dot, since int
}

// behind: the parts of an item's way that are still to stand.
func (g rules) behind(i item) []string {
	return g[i.rule][i.way][i.dot:]
}

// close adds all that may begin, or is at its end, behind the tokens before (after Earley).
func (g rules) close(sets [][]item, now []item) []item {
	k := len(sets)
	add := func(i item) {
		if !slices.Contains(now, i) {
			now = append(now, i)
		}
	}
	for at := 0; at < len(now); at++ {
		i := now[at]
		if rest := g.behind(i); len(rest) > 0 {
			for way := range g[rest[0]] {
				add(item{rest[0], way, 0, k})
				if len(g[rest[0]][way]) == 0 { // it may be nothing
					add(item{i.rule, i.way, i.dot + 1, i.since})
				}
			}
			continue
		}
		from := now
		if i.since < k {
			from = sets[i.since]
		}
		for _, j := range from {
			if rest := g.behind(j); len(rest) > 0 && rest[0] == i.rule {
				add(item{j.rule, j.way, j.dot + 1, j.since})
			}
		}
	}
	return now
}

// terminal: what a token is in the grammar.
func terminal(k lex.Token) string {
	switch k.Kind {
	case lex.Name:
		return "NAME"
	case lex.Number:
		return "NUMBER"
	}
	return `"` + k.Text + `"`
}

// first: the fault of the first token that no text with this beginning has there.
func (g rules) first(start string, tokens []lex.Token) lex.Fault {
	var now []item
	for way := range g[start] {
		now = append(now, item{start, way, 0, 0})
	}
	var sets [][]item
	for _, k := range tokens {
		now = g.close(sets, now)
		sets = append(sets, now)
		var next []item
		for _, i := range now {
			rest := g.behind(i)
			if len(rest) == 0 && i.rule == start && i.since == 0 && k.Kind == lex.End {
				return lex.Fault{}
			}
			if len(rest) > 0 && rest[0] == terminal(k) {
				next = append(next, item{i.rule, i.way, i.dot + 1, i.since})
			}
		}
		if len(next) == 0 && k.Kind == lex.End {
			return lex.Fault{At: k.At, Err: api.ErrEnd}
		} else if len(next) == 0 {
			return lex.Fault{At: k.At, Err: api.ErrForm}
		}
		now = next
	}
	panic("tokens without their end")
}

// againstGrammar: a text is taken, or refused, as the grammar has it.
func (g rules) againstGrammar(t *testing.T, text string) {
	t.Helper()
	tokens, f := lex.All(text)
	if f != (lex.Fault{}) {
		t.Fatalf("%q is not of tokens", text)
	}
	want := g.first("program", tokens)
	if l, f := parse.Program(text); f != want || (len(l) == 0) != (want != lex.Fault{}) {
		t.Errorf("Program(%q) = %d nodes, %+v; want %+v", text, len(l), f, want)
	}
	want = g.first("expr", tokens)
	if e, f := parse.Expr(text); f != want || (e.Kind == 0) != (want != lex.Fault{}) {
		t.Errorf("Expr(%q) = %s, %+v; want %+v", text, tree.Text(e), f, want)
	}
}

// samples have each line of the grammar between them.
func samples() []string {
	return []string{
		whole,
		"if not a or b xor c and d then x -> y else 1 fby z",
		"f(g(), -5 when c, merge c (x when c) (0 when not c)) <= await u after (-1, true) - await v",
		"(pre -x * 2 / 3 mod (4)) = (-(5) fby x) + 1",
		"-1 fby (true) fby ((-2)) fby x <> y",
		"node g(a: future bool) returns () let (a, b) = async g(a > b, c >= -1 < d); tel node",
	}
}

func TestEachTokenAgainstTheGrammar(t *testing.T) {
	g := grammar()
	others := slices.Concat(lex.Words(), lex.Signs(), []string{"x", "5"})
	for _, text := range samples() {
		g.againstGrammar(t, text)
		tokens, _ := lex.All(text)
		for i, k := range tokens[:len(tokens)-1] {
			ahead, behind := text[:k.At], text[k.At+len(k.Text):]
			g.againstGrammar(t, ahead+behind)
			for _, other := range others {
				g.againstGrammar(t, ahead+" "+other+" "+behind)
				if i%3 == 0 {
					g.againstGrammar(t, ahead+" "+other+" "+text[k.At:])
				}
			}
		}
	}
}

func TestTextsByChanceAgainstTheGrammar(t *testing.T) {
	g, chance := grammar(), rand.New(rand.NewSource(3))
	var words []string
	for _, text := range samples() {
		tokens, _ := lex.All(text)
		for _, k := range tokens[:len(tokens)-1] {
			words = append(words, k.Text)
		}
	}
	for range 20000 {
		var l []string
		for range 1 + chance.Intn(12) {
			at := chance.Intn(len(words))
			l = append(l, words[at:min(at+1+chance.Intn(4), len(words))]...)
		}
		g.againstGrammar(t, strings.Join(l, " "))
	}
}
