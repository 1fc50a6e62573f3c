package parse

import (
	"girandole/api"
	"girandole/lex"
	"girandole/tree"
)

func (p *parser) program() []tree.Node {
	l := []tree.Node{p.node()}
	for p.stands("node") {
		l = append(l, p.node())
	}
	return l
}

func (p *parser) node() tree.Node {
	p.need("node")
	name := p.needKind(lex.Name)
	n := tree.Node{Name: name.Text, At: name.At}
	n.Ins = listed(p, p.decl)
	p.need("returns")
	n.Outs = listed(p, p.decl)
	if _, ok := p.take("var"); ok {
		n.Vars = p.vars()
	}
	p.need("let")
	for !p.stands("tel") {
		n.Eqs = append(n.Eqs, p.eq())
	}
	p.need("tel")
	return n
}

func (p *parser) decl() tree.Decl {
	name := p.needKind(lex.Name)
	p.need(":")
	_, future := p.take("future")
	kind := p.need("int", "bool")
	return tree.Decl{Name: name.Text, At: name.At, Type: tree.Type{Bool: kind.Text == "bool", Future: future}}
}

func (p *parser) vars() []tree.Decl {
	l := []tree.Decl{p.clocked()}
	for p.now().Kind == lex.Name {
		l = append(l, p.clocked())
	}
	return l
}

// clocked: a declaration that may be on a clock, and what ends it.
func (p *parser) clocked() tree.Decl {
	d := p.decl()
	if _, ok := p.take("when"); ok {
		d.Clock, d.Off = p.clock()
	}
	p.need(";")
	return d
}

// clock: what stands behind "when".
func (p *parser) clock() (string, bool) {
	_, off := p.take("not")
	return p.needKind(lex.Name).Text, off
}

func (p *parser) eq() tree.Eq {
	q := tree.Eq{Left: p.lefts()}
	p.need("=")
	_, q.Async = p.take("async")
	if q.Async {
		q.E = p.shallow(p.call)
	} else {
		q.E = p.shallow(p.expr)
	}
	p.need(";")
	return q
}

func (p *parser) lefts() []tree.Left {
	if p.now().Kind == lex.Name {
		return []tree.Left{p.left()}
	}
	p.need("(")
	first := p.left()
	p.need(",") // one name alone stands without brackets
	return append([]tree.Left{first}, rest(p, p.left)...)
}

func (p *parser) left() tree.Left {
	name := p.needKind(lex.Name)
	return tree.Left{Name: name.Text, At: name.At}
}

// shallow: an expression, read so, that must not have too many levels.
func (p *parser) shallow(whole func() tree.Expr) tree.Expr {
	e := whole()
	if tree.Deep(e) > api.MaxDeep {
		panic(lex.Fault{At: e.At, Err: api.ErrBig})
	}
	return e
}

// listed: in brackets as many as there are, with "," between.
func listed[T any](p *parser, one func() T) []T {
	p.need("(")
	if _, ok := p.take(")"); ok {
		return nil
	}
	return rest(p, one)
}

// rest: one and more, with "," between, up to the bracket's end.
func rest[T any](p *parser, one func() T) []T {
	l := []T{one()}
	for {
		if _, ok := p.take(","); !ok {
			break
		}
		l = append(l, one())
	}
	p.need(")")
	return l
}
