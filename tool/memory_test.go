package tool_test

import (
	"strconv"
	"strings"
	"sync"
	"testing"

	"girandole/tool"
)

// TestSameAgain: an answer hangs on the text alone, whatever was asked ahead of it.
func TestSameAgain(t *testing.T) {
	for range 20 {
		tells(t, job(plus, "5", "6"), "y: 6 7")
		tells(t, job(plus, "5", "x"), "error 1 row 1")
		tells(t, scripted(plus, "0 x", "5"), "error 1 script 0")
		tells(t, scripted(both, "1 1 1", "5 true"), "y:", "z:", "picks 0", "done false")
		tells(t, "node", "error 2 at 4")
		tells(t, job(both, "1 true", "2 false", "3 true"), "y: 0 1 3", "z: false true false")
		if got, want := tool.Parts("a\n--- script\n1\n--- rows\n5"), (tool.Job{Program: "a", Script: "1", Rows: "5", Scripted: true}); got != want {
			t.Errorf("Parts: %+v", got)
		}
	}
}

// TestAtOnce: jobs that run at the same time don't touch each other.
func TestAtOnce(t *testing.T) {
	rows := []string{"1 true", "2 false", "3 true", "4 true"}
	steps := 0
	for _, n := range stepsOf(t, both) {
		steps += len(rows) * n
	}
	var all sync.WaitGroup
	for range 50 {
		all.Go(func() {
			tells(t, job(both, rows...), "y: 0 1 3 6", "z: false true false false")
			tells(t, scripted(both, strings.Repeat("0 1 ", steps), rows...), "y: 0 1 3 6", "z: false true false false", "picks "+strconv.Itoa(steps), "done true")
		})
	}
	all.Wait()
}
