package lex_test

import (
	"math/big"
	"math/rand"
	"regexp"
	"slices"
	"strings"
	"testing"

	"girandole/api"
	"girandole/lex"
)

const (
	wordsInOrder = "node returns var let tel int bool future when not and or xor if then else pre fby merge async await after true false mod"
	signsInOrder = "<> <= >= -> ( ) , ; : = < > + - * /"
)

// tell: the only token of a text, beside its end.
func tell(t *testing.T, text string) lex.Token {
	t.Helper()
	l, f := lex.All(text)
	if f != (lex.Fault{}) || len(l) != 2 || l[1] != (lex.Token{Kind: lex.End, At: len(text)}) {
		t.Fatalf("All(%q) = %+v, %+v; want one token and the end", text, l, f)
	}
	return l[0]
}

// refused: a text's fault, and nothing beside it.
func refused(t *testing.T, text string, want lex.Fault) {
	t.Helper()
	if l, f := lex.All(text); f != want || len(l) != 0 {
		t.Errorf("All(%q) = %+v, %+v; want no token, %+v", text, l, f, want)
	}
}

func TestNumbersOfKinds(t *testing.T) {
	got := []int{lex.Name, lex.Number, lex.Word, lex.Sign, lex.End, lex.MaxName}
	if want := []int{1, 2, 3, 4, 5, 30}; !slices.Equal(got, want) {
		t.Errorf("Name, Number, Word, Sign, End, MaxName = %v, want %v", got, want)
	}
}

func TestListsStandInOrderAndAreNew(t *testing.T) {
	for name, c := range map[string]struct {
		list func() []string
		want string
	}{"Words": {lex.Words, wordsInOrder}, "Signs": {lex.Signs, signsInOrder}} {
		l := c.list()
		if got := strings.Join(l, " "); got != c.want {
			t.Errorf("%s() = %s, want %s", name, got, c.want)
		}
		l[0] = "scribbled"
		if got := strings.Join(c.list(), " "); got != c.want {
			t.Errorf("%s() after its answer was written into = %s, want %s", name, got, c.want)
		}
	}
	if tell(t, "node").Kind != lex.Word || tell(t, "<>").Kind != lex.Sign {
		t.Error("All hangs on what was written into the lists")
	}
}

func TestEachWordAndSign(t *testing.T) {
	for _, s := range strings.Fields(wordsInOrder) {
		if got, want := tell(t, s), (lex.Token{Kind: lex.Word, Text: s}); got != want {
			t.Errorf("All(%q) = %+v, want %+v", s, got, want)
		}
		for _, name := range []string{s + "_", "_" + s, s + "0", s[:1] + "z" + s[1:], strings.ToUpper(s)} {
			if got, want := tell(t, name), (lex.Token{Kind: lex.Name, Text: name}); got != want {
				t.Errorf("All(%q) = %+v, want %+v", name, got, want)
			}
		}
	}
	for _, s := range strings.Fields(signsInOrder) {
		if got, want := tell(t, s), (lex.Token{Kind: lex.Sign, Text: s}); got != want {
			t.Errorf("All(%q) = %+v, want %+v", s, got, want)
		}
	}
}

func TestTokensOneBehindTheOther(t *testing.T) {
	for text, want := range map[string]string{
		"":                          "",
		"x1->5":                     "x1 -> 5",
		"1x":                        "1 x",
		"12ab34":                    "12 ab34",
		"0x10":                      "0 x10",
		"x-1":                       "x - 1",
		"x->-1":                     "x -> - 1",
		"<=>":                       "<= >",
		"<>=":                       "<> =",
		">==":                       ">= =",
		"=>":                        "= >",
		"<<>":                       "< <>",
		"<->":                       "< ->",
		"- -":                       "- -",
		"-":                         "-",
		"+-*/":                      "+ - * /",
		"ifx then":                  "ifx then",
		"_":                         "_",
		"AZaz_09":                   "AZaz_09",
		"merge c(x)(0);":            "merge c ( x ) ( 0 ) ;",
		"--":                        "",
		"---":                       "",
		"-- x\ny":                   "y",
		"x--y":                      "x",
		"x-->y\n->z":                "x -> z",
		"<--\n>":                    "< >",
		"x -- \xff ? 07\n-- \n y":   "x y",
		"x\n-- a remark at the end": "x",
		"\t \n":                     "",
		"a\tb\nc d":                 "a b c d",
	} {
		l, f := lex.All(text)
		if f != (lex.Fault{}) || len(l) == 0 {
			t.Errorf("All(%q) = %+v, %+v; want no fault", text, l, f)
			continue
		}
		var texts []string
		for _, k := range l[:len(l)-1] {
			texts = append(texts, k.Text)
			if text[k.At:k.At+len(k.Text)] != k.Text {
				t.Errorf("All(%q): %+v doesn't stand at its place", text, k)
			}
		}
		if got := strings.Join(texts, " "); got != want {
			t.Errorf("All(%q): %s, want %s", text, got, want)
		}
		if end := l[len(l)-1]; end != (lex.Token{Kind: lex.End, At: len(text)}) {
			t.Errorf("All(%q): its end is %+v", text, end)
		}
	}
}

func TestEachByteAlone(t *testing.T) {
	for b := range 256 {
		s := string([]byte{byte(b)})
		kind := 0
		switch {
		case regexp.MustCompile(`^[A-Za-z_]$`).MatchString(s):
			kind = lex.Name
		case strings.Contains("0123456789", s):
			kind = lex.Number
		case strings.Contains(signsInOrder, s) && s != " ":
			kind = lex.Sign
		case b == 9 || b == 10 || b == ' ':
			kind = lex.End
		}
		if kind == 0 {
			refused(t, s, lex.Fault{At: 0, Err: api.ErrForm})
			refused(t, "x"+s+"07", lex.Fault{At: 1, Err: api.ErrForm})
		} else if l, f := lex.All(s); f != (lex.Fault{}) || l[0].Kind != kind {
			t.Errorf("All(%q) = %+v, %+v; want a first token of kind %d", s, l, f, kind)
		}
	}
}

func TestNamesAtTheirLimit(t *testing.T) {
	long := strings.Repeat("a", 29) + "9"
	if got := tell(t, long); got != (lex.Token{Kind: lex.Name, Text: long}) {
		t.Errorf("a name of 30 bytes: %+v", got)
	}
	refused(t, long+"b", lex.Fault{At: 0, Err: api.ErrBig})
	refused(t, "; "+long+"9", lex.Fault{At: 2, Err: api.ErrBig})
	refused(t, strings.Repeat("_", 4000), lex.Fault{At: 0, Err: api.ErrBig})
}

func TestNumbersAtTheirLimits(t *testing.T) {
	for s, n := range map[string]uint64{
		"0": 0, "1": 1, "9": 9, "10": 10, "100": 100, "4294967296": 1 << 32,
		"9223372036854775807": 1<<63 - 1, "9223372036854775808": 1 << 63,
	} {
		if got, want := tell(t, s), (lex.Token{Kind: lex.Number, Text: s, N: n}); got != want {
			t.Errorf("All(%q) = %+v, want %+v", s, got, want)
		}
	}
	for _, s := range []string{
		"9223372036854775809", "9999999999999999999", "10000000000000000000", "18446744073709551615",
		"18446744073709551616", "18446744073709551617", strings.Repeat("9", 4000),
	} {
		refused(t, s, lex.Fault{At: 0, Err: api.ErrBig})
	}
	for _, s := range []string{"00", "01", "07", "000", "09223372036854775809", "0" + strings.Repeat("9", 100)} {
		refused(t, s, lex.Fault{At: 0, Err: api.ErrForm})
	}
	if l, f := lex.All("0 0"); f != (lex.Fault{}) || len(l) != 3 {
		t.Errorf("All(\"0 0\") = %+v, %+v", l, f)
	}
}

func TestTextAtItsLimit(t *testing.T) {
	for _, full := range []string{strings.Repeat(" ", 4000), strings.Repeat("--xx ", 800), strings.Repeat(" ", 3999) + "x", strings.Repeat("+", 4000)} {
		if l, f := lex.All(full); f != (lex.Fault{}) || l[len(l)-1].At != 4000 {
			t.Errorf("a text of 4000 bytes: %+v", f)
		}
	}
	if l, _ := lex.All(strings.Repeat("+", 4000)); len(l) != 4001 {
		t.Errorf("4000 signs: %d tokens", len(l))
	}
	for _, more := range []string{strings.Repeat(" ", 4001), "?" + strings.Repeat(" ", 4000), strings.Repeat("9", 9000)} {
		refused(t, more, lex.Fault{At: 4000, Err: api.ErrBig})
	}
	refused(t, strings.Repeat(" ", 3999)+"?", lex.Fault{At: 3999, Err: api.ErrForm})
}

func TestFirstFaultIsTold(t *testing.T) {
	name := strings.Repeat("n", 31)
	refused(t, name+" 07 ?", lex.Fault{At: 0, Err: api.ErrBig})
	refused(t, "x 07 "+name, lex.Fault{At: 2, Err: api.ErrForm})
	refused(t, "x ? 07", lex.Fault{At: 2, Err: api.ErrForm})
	refused(t, "-- ?\n ?", lex.Fault{At: 6, Err: api.ErrForm})
	refused(t, "x\r\ny", lex.Fault{At: 1, Err: api.ErrForm})
	refused(t, "1.5", lex.Fault{At: 1, Err: api.ErrForm})
	refused(t, "x é", lex.Fault{At: 2, Err: api.ErrForm})
}

// expected: the same by patterns, to hold All against.
func expected(text string) ([]lex.Token, lex.Fault) {
	between := regexp.MustCompile(`^(?:[ \t\n]|--[^\n]*)*`)
	token := regexp.MustCompile(`^(?:([A-Za-z_][A-Za-z_0-9]*)|([0-9]+)|(<>|<=|>=|->|[(),;:=<>+*/-]))`)
	var l []lex.Token
	at := len(between.FindString(text))
	for at < len(text) {
		m := token.FindStringSubmatch(text[at:])
		if m == nil {
			return nil, lex.Fault{At: at, Err: api.ErrForm}
		}
		k := lex.Token{Kind: lex.Sign, At: at, Text: m[0]}
		switch {
		case m[1] != "" && slices.Contains(strings.Fields(wordsInOrder), m[1]):
			k.Kind = lex.Word
		case len(m[1]) > 30:
			return nil, lex.Fault{At: at, Err: api.ErrBig}
		case m[1] != "":
			k.Kind = lex.Name
		case m[2] != "":
			n, _ := new(big.Int).SetString(m[2], 10)
			if m[2] != n.String() {
				return nil, lex.Fault{At: at, Err: api.ErrForm}
			}
			if n.Cmp(new(big.Int).Lsh(big.NewInt(1), 63)) > 0 {
				return nil, lex.Fault{At: at, Err: api.ErrBig}
			}
			k.Kind, k.N = lex.Number, n.Uint64()
		}
		l = append(l, k)
		at += len(m[0])
		at += len(between.FindString(text[at:]))
	}
	return append(l, lex.Token{Kind: lex.End, At: len(text)}), lex.Fault{}
}

// hold: All's answer of a text against the expected one.
func hold(t *testing.T, text string) {
	t.Helper()
	l, f := lex.All(text)
	want, g := expected(text)
	if f != g || !slices.Equal(l, want) {
		t.Fatalf("All(%q) = %+v, %+v; want %+v, %+v", text, l, f, want, g)
	}
}

func TestManyTexts(t *testing.T) {
	r := rand.New(rand.NewSource(1))
	parts := append(strings.Fields(wordsInOrder+" "+signsInOrder),
		" ", " ", "\n", "\t", "--", "-", ">", "=", "0", "0", "7", "10", "92233720368547758", "x", "_a", "abcdefghij", "?", "\xff", "\r", "\x00")
	for range 20000 {
		var b strings.Builder
		for range r.Intn(12) {
			b.WriteString(parts[r.Intn(len(parts))])
		}
		hold(t, b.String())
	}
}

func TestAllShortTexts(t *testing.T) {
	const bytes = "a0 \n-<>=?7"
	for _, a := range bytes {
		for _, b := range bytes {
			for _, c := range bytes {
				for _, d := range bytes {
					hold(t, string([]rune{a, b, c, d}))
				}
			}
		}
	}
}
