// Package lex is layer 1: see shared/doc/01-lex.md.
package lex

import (
	"slices"
	"strconv"
	"strings"

	"girandole/api"
)

// The kinds of tokens.
const (
	Name   = iota + 1
	Number // without a sign
	Word   // one that is kept
	Sign
	End // of the text
)

// MaxName is how many bytes a name has at most.
const MaxName = 30

// maxNumber is 2^63: behind a "-" it is still a number of 64 bits.
const maxNumber = 1 << 63

// Token is a word: its kind, where it begins, what it is, its number.
type Token struct {
	Kind, At int
	Text     string
	N        uint64
}

// Fault says what can't stand where.
type Fault struct {
	At  int
	Err api.Errno
}

// Words: those that are kept.
func Words() []string {
	return []string{
		"node", "returns", "var", "let", "tel", "int", "bool", "future", "when", "not", "and", "or", "xor",
		"if", "then", "else", "pre", "fby", "merge", "async", "await", "after", "true", "false", "mod",
	}
}

// Signs: all, those of two bytes first.
func Signs() []string {
	return []string{"<>", "<=", ">=", "->", "(", ")", ",", ";", ":", "=", "<", ">", "+", "-", "*", "/"}
}

// All: of a text, the end among them.
func All(text string) ([]Token, Fault) {
	if len(text) > api.MaxText {
		return nil, Fault{At: api.MaxText, Err: api.ErrBig}
	}
	var l []Token
	for at := skip(text, 0); at < len(text); {
		t, err := next(text, at)
		if err != api.OK {
			return nil, Fault{At: at, Err: err}
		}
		l = append(l, t)
		at = skip(text, at+len(t.Text))
	}
	return append(l, Token{Kind: End, At: len(text)}), Fault{}
}

// skip: from a place on, the first one that is of no blank and no remark.
func skip(text string, at int) int {
	for {
		at = behind(text, at, func(b byte) bool { return b == ' ' || b == '\t' || b == '\n' })
		if !strings.HasPrefix(text[at:], "--") {
			return at
		}
		at = behind(text, at, func(b byte) bool { return b != '\n' })
	}
}

// next: the token that begins at a place, or why none does.
func next(text string, at int) (Token, api.Errno) {
	switch b := text[at]; {
	case letter(b):
		return nameOrWord(text, at)
	case digit(b):
		return number(text, at)
	}
	return sign(text, at)
}

func nameOrWord(text string, at int) (Token, api.Errno) {
	s := text[at:behind(text, at, func(b byte) bool { return letter(b) || digit(b) })]
	switch {
	case slices.Contains(Words(), s):
		return Token{Kind: Word, At: at, Text: s}, api.OK
	case len(s) > MaxName:
		return Token{}, api.ErrBig
	}
	return Token{Kind: Name, At: at, Text: s}, api.OK
}

func number(text string, at int) (Token, api.Errno) {
	s := text[at:behind(text, at, digit)]
	if len(s) > 1 && s[0] == '0' {
		return Token{}, api.ErrForm
	}
	n, err := strconv.ParseUint(s, 10, 64)
	if err != nil || n > maxNumber {
		return Token{}, api.ErrBig
	}
	return Token{Kind: Number, At: at, Text: s, N: n}, api.OK
}

func sign(text string, at int) (Token, api.Errno) {
	for _, s := range Signs() { // the longer ones come first, so the longest is met
		if strings.HasPrefix(text[at:], s) {
			return Token{Kind: Sign, At: at, Text: s}, api.OK
		}
	}
	return Token{}, api.ErrForm
}

// behind: the place behind as many bytes, from a place on, as are told to belong.
func behind(text string, at int, is func(b byte) bool) int {
	for at < len(text) && is(text[at]) {
		at++
	}
	return at
}

func letter(b byte) bool {
	return 'A' <= b && b <= 'Z' || 'a' <= b && b <= 'z' || b == '_'
}

func digit(b byte) bool {
	return '0' <= b && b <= '9'
}
