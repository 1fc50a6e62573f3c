package parse

import (
	"math"

	"girandole/api"
	"girandole/lex"
	"girandole/tree"
)

func (p *parser) expr() tree.Expr {
	t, ok := p.take("if")
	if !ok {
		return p.arrow()
	}
	cond := p.expr()
	p.need("then")
	yes := p.expr()
	p.need("else")
	return made(tree.If, t, cond, yes, p.expr())
}

func (p *parser) arrow() tree.Expr {
	x := p.or()
	if t, ok := p.take("->"); ok {
		return made(tree.Arrow, t, x, p.arrow())
	}
	if !tree.Const(x) { // then "fby" can't stand here, and nobody reads on over it
		return x
	}
	if t, ok := p.take("fby"); ok {
		return made(tree.Fby, t, x, p.arrow())
	}
	return x
}

func (p *parser) or() tree.Expr {
	return p.row(p.and, "or", "xor")
}

func (p *parser) and() tree.Expr {
	return p.row(p.not, "and")
}

func (p *parser) not() tree.Expr {
	if t, ok := p.take("not"); ok {
		return made(tree.Not, t, p.not())
	}
	x := p.sum()
	if t, ok := p.take("=", "<>", "<", "<=", ">", ">="); ok {
		return binary(t, x, p.sum())
	}
	return x
}

func (p *parser) sum() tree.Expr {
	return p.row(p.term, "+", "-")
}

func (p *parser) term() tree.Expr {
	return p.row(p.unary, "*", "/", "mod")
}

// row: kids with these signs between, which bind to the left.
func (p *parser) row(kid func() tree.Expr, signs ...string) tree.Expr {
	x := kid()
	for {
		t, ok := p.take(signs...)
		if !ok {
			return x
		}
		x = binary(t, x, kid())
	}
}

func (p *parser) unary() tree.Expr {
	if t, ok := p.take("pre"); ok {
		return made(tree.Pre, t, p.unary())
	}
	if p.below() {
		return p.number()
	}
	if t, ok := p.take("-"); ok {
		return made(tree.Neg, t, p.unary())
	}
	return p.when()
}

// below: do "-" and a number stand here that are one Int? Where "when" stands behind, it takes the number alone.
func (p *parser) below() bool {
	return p.stands("-") && p.tokens[p.at+1].Kind == lex.Number && p.tokens[p.at+2].Text != "when"
}

func (p *parser) when() tree.Expr {
	x := p.primary()
	for {
		t, ok := p.take("when")
		if !ok {
			return x
		}
		x = made(tree.When, t, x)
		x.Name, x.Off = p.clock()
	}
}

func (p *parser) primary() tree.Expr {
	switch p.now().Kind {
	case lex.Number:
		return p.number()
	case lex.Name:
		return p.nameOrCall()
	}
	switch t, _ := p.take("true", "false", "merge", "await"); t.Text {
	case "true", "false":
		return truth(t)
	case "merge":
		return p.merge(t)
	case "await":
		return p.await(t)
	}
	return p.inBrackets()
}

func (p *parser) nameOrCall() tree.Expr {
	if p.tokens[p.at+1].Text == "(" {
		return p.call()
	}
	t := p.needKind(lex.Name)
	return tree.Expr{Kind: tree.Var, At: t.At, Name: t.Text}
}

func (p *parser) call() tree.Expr {
	t := p.needKind(lex.Name)
	return tree.Expr{Kind: tree.Call, At: t.At, Name: t.Text, Kids: listed(p, p.expr)}
}

func (p *parser) merge(t lex.Token) tree.Expr {
	name := p.needKind(lex.Name)
	x := p.inBrackets()
	e := made(tree.Merge, t, x, p.inBrackets())
	e.Name = name.Text
	return e
}

func (p *parser) await(t lex.Token) tree.Expr {
	e := tree.Expr{Kind: tree.Await, At: t.At, Name: p.needKind(lex.Name).Text}
	if _, ok := p.take("after"); ok {
		p.need("(")
		e.Kids = rest(p, p.literal)
	}
	return e
}

func (p *parser) inBrackets() tree.Expr {
	p.need("(")
	x := p.expr()
	p.need(")")
	return x
}

func (p *parser) literal() tree.Expr {
	if t, ok := p.take("true", "false"); ok {
		return truth(t)
	}
	return p.number()
}

// number: an Int; 2^63 is one only with "-" ahead.
func (p *parser) number() tree.Expr {
	minus, below := p.take("-")
	t := p.needKind(lex.Number)
	if below {
		return tree.Expr{Kind: tree.Int, At: minus.At, N: -int64(t.N)}
	}
	if t.N > math.MaxInt64 {
		panic(lex.Fault{At: t.At, Err: api.ErrBig})
	}
	return tree.Expr{Kind: tree.Int, At: t.At, N: int64(t.N)}
}

func truth(t lex.Token) tree.Expr {
	e := made(tree.Bool, t)
	if t.Text == "true" {
		e.N = 1
	}
	return e
}

// made: an expression of a kind, which is placed at a token, with these kids.
func made(kind int, t lex.Token, kids ...tree.Expr) tree.Expr {
	return tree.Expr{Kind: kind, At: t.At, Kids: kids}
}

func binary(t lex.Token, x, y tree.Expr) tree.Expr {
	e := made(tree.Binary, t, x, y)
	e.Name = t.Text
	return e
}
