package compile_test

import (
	"math/rand"
	"strings"
	"testing"

	"girandole/api"
	"girandole/compile"
	"girandole/lex"
)

// TestCutShort: each whole program up to each of its bytes, or from each on, is refused.
func TestCutShort(t *testing.T) {
	for _, whole := range wholes {
		for i := range len(whole) {
			if l, p, f := compiled(t, whole[:i]); f.Err == api.OK || l != nil || p != nil {
				t.Fatalf("%q is taken", whole[:i])
			}
			if i > 0 && !strings.HasPrefix(whole[i:], "node") { // behind the first byte 10
				compiled(t, whole[i:])
			}
		}
	}
}

// TestAnyBytes: texts of any bytes, of few ones, of many of one kind, far above the greatest length, too.
func TestAnyBytes(t *testing.T) {
	r := rand.New(rand.NewSource(2))
	for range 3000 {
		b := make([]byte, r.Intn(200))
		few := "nodeftlrusv(),:;=<>-+*/ \n019_A\x00\xff"
		for i := range b {
			if b[i] = byte(r.Intn(256)); r.Intn(20) > 0 {
				b[i] = few[r.Intn(len(few))]
			}
		}
		compiled(t, string(b))
	}
	for b := range 256 {
		one := string([]byte{byte(b)})
		compiled(t, one)
		for _, n := range []int{api.MaxText - 50, api.MaxText, api.MaxText + 1, 100000} {
			compiled(t, strings.Repeat(one, n))
		}
		for _, n := range []int{1, 100, 3800, api.MaxText} {
			compiled(t, "node f(x: int) returns (y: int) let y = "+strings.Repeat(one, n)+"x; tel")
		}
	}
}

// TestAnyWords: rows of tokens, behind what begins a node.
func TestAnyWords(t *testing.T) {
	r := rand.New(rand.NewSource(3))
	words := append(append(lex.Words(), lex.Signs()...), "x", "y", "f", "0", "1", "9223372036854775808")
	starts := []string{"", "node f(x: int) returns (y: int) ", "node f(x: int) returns (y: int) let y = ", "node f(x: int, c: bool) returns (y: int) var u: future int; let u = async "}
	for range 5000 {
		l := []string{starts[r.Intn(len(starts))]}
		for range r.Intn(12) {
			l = append(l, words[r.Intn(len(words))])
		}
		if r.Intn(2) == 0 {
			l = append(l, "; tel")
		}
		compiled(t, strings.Join(l, " "))
	}
}

// TestLongRows: one kind of thing as often as a text has room for.
func TestLongRows(t *testing.T) {
	const head, tail = "node f(x: int, c: bool) returns (y: int) let y = ", "x; tel"
	for _, many := range []string{"(", "-", "- ", "not ", "pre ", "x + ", "x -> ", "1 fby ", "if c then x else ", "merge c (x) (", "f(", "x when c when ", "await u after (", "- (", "(("} {
		compiled(t, head+strings.Repeat(many, (api.MaxText-len(head)-len(tail))/len(many))+tail)
	}
	for _, many := range []string{"y = x; ", "node g() returns () let tel ", "x: int; ", "-- y\n"} {
		text := head + "x; " + strings.Repeat(many, 300)
		compiled(t, text+"tel")
		compiled(t, "node f(x: int) returns (y: int) var "+strings.Repeat(many, 300)+" let y = x; tel")
	}
}

// TestSameAgain: what is answered hangs on the text alone.
func TestSameAgain(t *testing.T) {
	for _, text := range append(wholes[:], "node", "node f(x: int) returns (y: int) let y = z; tel") {
		_, _, f := compiled(t, text)
		for range 20 {
			if _, _, g := compile.Compile(text); g != f {
				t.Fatalf("%q: %+v, and then %+v", text, f, g)
			}
			compiled(t, text)
		}
	}
}
