package parse

import (
	"slices"

	"girandole/api"
	"girandole/lex"
)

// cursor stands at a token of a text. It never goes beyond the end, which is no word, no name and no number.
type cursor struct {
	tokens []lex.Token
	at     int
}

func (c *cursor) now() lex.Token {
	return c.tokens[c.at]
}

// stands: does one of these words, or signs, stand here?
func (c *cursor) stands(words ...string) bool {
	return slices.Contains(words, c.now().Text)
}

// take goes past one of these words, if it stands here.
func (c *cursor) take(words ...string) (lex.Token, bool) {
	if !c.stands(words...) {
		return lex.Token{}, false
	}
	return c.step(), true
}

// need goes past one of these words, which must stand here.
func (c *cursor) need(words ...string) lex.Token {
	if !c.stands(words...) {
		c.refuse()
	}
	return c.step()
}

// needKind goes past a token of that kind, which must stand here.
func (c *cursor) needKind(kind int) lex.Token {
	if c.now().Kind != kind {
		c.refuse()
	}
	return c.step()
}

// end: nothing may stand here any more.
func (c *cursor) end() {
	if c.now().Kind != lex.End {
		c.refuse()
	}
}

func (c *cursor) step() lex.Token {
	t := c.now()
	c.at++
	return t
}

// refuse says that what stands here can't.
func (c *cursor) refuse() {
	t := c.now()
	if t.Kind == lex.End {
		panic(lex.Fault{At: t.At, Err: api.ErrEnd})
	}
	panic(lex.Fault{At: t.At, Err: api.ErrForm})
}
