package tool_test

import (
	"math/rand"
	"strconv"
	"strings"
	"testing"
)

// TestCutShort: jobs up to each of their bytes, and from each on.
func TestCutShort(t *testing.T) {
	for _, text := range []string{job(both, "1 true", "", "2 false"), scripted(both, "0 1 "+picks(0, 9)+"\n"+picks(1, 9), "1 true", "2 false"), scripted(count, picks(0, 20), ".", ".")} {
		for i := range len(text) + 1 {
			held(t, text[:i])
			held(t, text[i:])
		}
	}
}

// TestAnyBytes: texts of any bytes, of few ones, behind what begins a part, too.
func TestAnyBytes(t *testing.T) {
	r := rand.New(rand.NewSource(1))
	const few = "0123456789 \n\t\r-+.truefalse\x00\xff\xc2\x85\xa0"
	starts := [...]string{"", "--- rows\n", "--- script\n", plus, plus + "\n--- rows\n", plus + "\n--- script\n", plus + "\n--- script\n0 0 0\n--- rows\n", both + "\n--- rows\n1 true\n", deaf + "\n--- script\n"}
	for range 5000 {
		b := make([]byte, r.Intn(60))
		for i := range b {
			if b[i] = byte(r.Intn(256)); r.Intn(20) > 0 {
				b[i] = few[r.Intn(len(few))]
			}
		}
		held(t, starts[r.Intn(len(starts))]+string(b))
	}
	for b := range 256 {
		for c := 1; c < 256; c += 3 { // 0x85 and 0xa0 among these
			two := string([]byte{byte(b), byte(c)})
			held(t, plus+"\n--- script\n1"+two+"2")
			held(t, two)
			held(t, plus+"\n--- rows\n1"+two+"2")
		}
	}
}

// TestLong: texts far above what a job may have, of one kind of thing.
func TestLong(t *testing.T) {
	for _, many := range []string{"a", "\n", " ", "\x00", "\xff", "--- rows\n", "--- script\n", "0 ", "1\n", ".\n", "7\n", "(", "node f() returns () let tel "} {
		long := strings.Repeat(many, 200000/len(many))
		for _, start := range []string{"", plus + "\n--- rows\n", plus + "\n--- script\n", plus + "\n--- script\n--- rows\n", count + "\n--- rows\n", "node f(x: int) returns (y: int) let y = "} {
			held(t, start+long)
		}
	}
}

// wide: a program of so many workers, each behind the one ahead, one instant later; each adds 1.
func wide(workers int) string {
	vars, eqs, last := "", "", "x"
	for i := range workers - 1 {
		u := "u" + strconv.Itoa(i)
		vars += u + ": future int; "
		eqs += u + " = async g(" + last + "); "
		last = "await " + u + " after (0)"
	}
	return "node f(x: int) returns (y: int) var " + vars + "let " + eqs + "y = " + last + "; tel node g(a: int) returns (b: int) let b = a + 1; tel"
}

// TestWide: as many workers and rows as there may be come to their end, by themselves and by a script.
func TestWide(t *testing.T) {
	const workers = 30
	text := wide(workers)
	var rows []string
	want := "y:"
	for i := range 200 {
		rows = append(rows, strconv.Itoa(7*i+100))
		n := i // so many workers ago there was the value ahead
		if i >= workers-1 {
			n = workers - 1 + 7*(i-workers+1) + 100
		}
		want += " " + strconv.Itoa(n)
	}
	tells(t, job(text, rows...), want)
	tells(t, job(wide(workers+1), "1"), "error 14 at 5")
	round := ""
	for w := range workers {
		round += strconv.Itoa(w) + " "
	}
	steps := 0
	for _, n := range stepsOf(t, text) {
		steps += 200 * n
	}
	tells(t, scripted(text, strings.Repeat(round, steps), rows...), want, "picks "+strconv.Itoa(steps), "done true")
}
