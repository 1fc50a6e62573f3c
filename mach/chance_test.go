package mach_test

import (
	"math/rand"
	"testing"

	"girandole/api"
	"girandole/code"
	"girandole/mach"
	"girandole/tree"
)

// rowsBy: what comes in by chance, a truth at each port; sometimes something is wanting, or more.
func rowsBy(r *rand.Rand, first tree.Node, most int) [][]int64 {
	var l [][]int64
	for range r.Intn(most) {
		var row []int64
		for _, d := range first.Ins {
			n := int64(r.Intn(50) - 20)
			if d.Type.Bool {
				n = int64(r.Intn(2))
			}
			row = append(row, n)
		}
		switch r.Intn(12) {
		case 0:
			row = row[:r.Intn(len(row))]
		case 1:
			row = append(row, 77)
		}
		l = append(l, row)
	}
	return l
}

// picker tells who is picked next; any number may be told.
type picker func(workers int) int

// pickers: by chance; in turn, from either end; one for a while, and then another one.
func pickers(r *rand.Rand) []picker {
	turn, one, left := 0, 0, 0
	return []picker{
		func(workers int) int { return r.Intn(workers+2) - 1 },
		func(workers int) int { turn++; return turn % workers },
		func(workers int) int { turn++; return workers - 1 - turn%workers },
		func(workers int) int {
			if left == 0 {
				one, left = r.Intn(workers), r.Intn(60)
			} else {
				left--
			}
			return one
		},
	}
}

// goes lets a machine go on to its end, and holds it, now and then, against what is right.
func goes(t *testing.T, r *rand.Rand, p *code.Program, rows, says [][]int64, next picker) {
	t.Helper()
	m, s := mach.New(p, rows...), shadowOf(p, len(rows))
	right(t, m, s, says)
	for picks := 0; !s.done(); picks++ {
		both(t, m, s, next(p.Len()))
		if r.Intn(20) == 0 {
			right(t, m, s, says)
		}
		if picks > 1000*(1+s.most()) {
			t.Fatalf("behind %d picks there are just %d steps", picks, m.Steps())
		}
	}
	right(t, m, s, says)
}

// rounds: picked round and round, in any order, all is done behind as many rounds as there may be steps.
func rounds(t *testing.T, r *rand.Rand, p *code.Program, rows, says [][]int64) {
	t.Helper()
	m, s := mach.New(p, rows...), shadowOf(p, len(rows))
	for n := 0; !m.Done(); n++ {
		if n >= s.most() {
			t.Fatalf("behind %d rounds it isn't done", n)
		}
		want := 0
		script := r.Perm(p.Len())
		for _, w := range script {
			if s.pick(w) {
				want++
			}
		}
		if got := m.Run(script...); got != want || got == 0 {
			t.Fatalf("in the round %d Run(%v) answers %d, want %d", n, script, got, want)
		}
	}
	right(t, m, s, says)
}

// TestByChance: whatever the script, what was written is the first of what the program says by its tree, some
// worker can go on, there is room for what waits, and there is an end.
func TestByChance(t *testing.T) {
	r := rand.New(rand.NewSource(1))
	whole, many := 0, 0
	for range 1500 {
		text := (&maker{Rand: r}).program()
		l, p, f := codeOf(text)
		switch f.Err {
		case api.OK:
		case api.ErrDelay, api.ErrLimits, api.ErrBig:
			continue
		default:
			t.Fatalf("%q: %+v", text, f)
		}
		whole++
		if p.Len() > 3 {
			many++
		}
		rows := rowsBy(r, l[0], 14)
		says := sense(l, rows)
		for _, next := range pickers(r) {
			goes(t, r, p, rows, says, next)
		}
		rounds(t, r, p, rows, says)
	}
	if whole < 600 || many < 300 {
		t.Errorf("just %d programs are whole, and %d of these have more than three workers", whole, many)
	}
}
