package tool_test

import (
	"strconv"
	"strings"
	"testing"

	"girandole/compile"
	"girandole/tool"
)

// stepsOf: how many steps workers take at each instant, each of them, the first one's ahead.
func stepsOf(t *testing.T, program string) []int {
	t.Helper()
	_, p, _ := compile.Compile(program)
	var l []int
	for _, w := range p.Workers {
		l = append(l, len(w.Ins))
	}
	return l
}

// TestScriptFaults: words that are no worker's number, alone, and ahead of others, or behind them.
func TestScriptFaults(t *testing.T) {
	words := strings.Fields("x 100 101 999 1000 -1 -0 - + +5 00 01 007 099 000 1. 1.0 .5 1,2 1;2 0x1 1_0 1e1 0b1 0o1 '1' . true --- -- rows")
	words = append(words, "99999999999999999999", "18446744073709551616", strings.Repeat("9", 1000), strings.Repeat("0", 1000),
		"\x00", "1\x00", "\x001", "\x08", "\x0e", "1\x1f2", "\x7f", "\x85", "1\x852", "1\xa02", "\xff", "\u0085", "1\u00852", "1\u00a02", "\u00a0", "1\u20282", "\u3000", "1\u30002", "\u0661", "\uff11", "--- script")
	for _, word := range words {
		for _, script := range []string{word, word + " 0", "0 " + word, "0\n" + word + "\n1", "\t" + word + "\r"} {
			tells(t, scripted(plus, script, "5"), "error 1 script 0")
			tells(t, scripted(plus, script), "error 1 script 0")
			tells(t, plus+"\n--- script\n"+script, "error 1 script 0")
		}
	}
	tells(t, scripted(plus, "--- script\n0", "5"), "error 1 script 0")
	tells(t, scripted(plus, "0\n--- rows \n5", "6"), "error 1 script 0")
}

// TestScripts: numbers with any blanks between; of a worker that isn't there nothing comes.
func TestScripts(t *testing.T) {
	steps := stepsOf(t, plus)[0]
	zeros := strings.Fields(picks(0, steps))
	for _, between := range []string{" ", "\t", "\n", "\v", "\f", "\r", "\r\n", "   ", " \t\n\v\f\r ", "\n\n\n"} {
		script := strings.Join(zeros, between)
		for _, s := range []string{script, between + script, script + between, between + script + between} {
			tells(t, scripted(plus, s, "5"), "y: 6", "picks "+strconv.Itoa(steps), "done true")
		}
	}
	tells(t, scripted(plus, "1 2 9 10 19 98 99 "+picks(0, steps)+"1 99", "5"), "y: 6", "picks "+strconv.Itoa(steps), "done true")
	tells(t, plus+"\n--- script\n0 1 99", "y:", "picks 0", "done true")
	all := ""
	for n := range 100 {
		all += strconv.Itoa(n) + " "
	}
	tells(t, scripted(plus, strings.Repeat(all, steps), "5"), "y: 6", "picks "+strconv.Itoa(steps), "done true")
	if got := tool.Run(scripted(plus, strings.Repeat(all, steps-1), "5")); !strings.HasSuffix(got, "\npicks "+strconv.Itoa(steps-1)+"\ndone false\n") {
		t.Errorf("one pick less: %q", got)
	}
}

// TestPicks: how many were true, and whether all is done: with as many as there must be, with less, with more.
func TestPicks(t *testing.T) {
	steps := stepsOf(t, plus)[0]
	last := 0
	for n := range 3*steps + 10 {
		words, done := strconv.Itoa(min(n, 3*steps)), strconv.FormatBool(n >= 3*steps)
		got := tool.Run(scripted(plus, picks(0, n), "5", "6", "7"))
		port, behind, _ := strings.Cut(got, "\n")
		if behind != "picks "+words+"\ndone "+done+"\n" {
			t.Errorf("behind %d picks: %q, want %s, %s", n, got, words, done)
		}
		said := strings.Count(port, " ") // at some instant's step one more is written
		if port != []string{"y:", "y: 6", "y: 6 7", "y: 6 7 8"}[said] || said < last || said < min(n/steps, 3) || said > n/steps+1 {
			t.Errorf("behind %d picks, and %d that were written: %q", n, last, got)
		}
		last = said
	}
}

// TestAlone: a worker that is picked alone comes as far as its edges let it.
func TestAlone(t *testing.T) {
	rows := []string{"1 true", "2 false", "3 true"}
	tells(t, scripted(both, "", rows...), "y:", "z:", "picks 0", "done false")
	tells(t, scripted(both, picks(2, 500), rows...), "y:", "z:", "picks 0", "done false")
	tells(t, scripted(both, picks(1, 500), rows...), "y:", "z:", "picks 0", "done false")
	alone := tool.Run(scripted(both, picks(0, 500), rows...)) // one value that is ahead, and room for two
	if !strings.HasPrefix(alone, "y: 0\nz: false\npicks ") || !strings.HasSuffix(alone, "\ndone false\n") {
		t.Errorf("alone: %q", alone)
	}
	steps := stepsOf(t, both)
	sum := strconv.Itoa(3 * (steps[0] + steps[1]))
	tells(t, scripted(both, strings.Repeat(picks(0, 500)+picks(1, 500), 4), rows...), "y: 0 1 3", "z: false true false", "picks "+sum, "done true")
	tells(t, scripted(both, strings.Repeat(picks(1, 500)+picks(0, 500), 5), rows...), "y: 0 1 3", "z: false true false", "picks "+sum, "done true")
	tells(t, scripted(both, strings.Repeat("0 1 ", 500), rows...), "y: 0 1 3", "z: false true false", "picks "+sum, "done true")
}

// TestNoPorts: from a program without Outs picks come, and whether it is done.
func TestNoPorts(t *testing.T) {
	steps := strconv.Itoa(2 * stepsOf(t, deaf)[0])
	tells(t, scripted(deaf, picks(0, 100), "5", "6"), "picks "+steps, "done true")
	tells(t, scripted(deaf, "", "5", "6"), "picks 0", "done false")
	tells(t, scripted(deaf, "0"), "picks 0", "done true")
}
