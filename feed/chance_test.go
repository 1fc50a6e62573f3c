package feed_test

import (
	"math"
	"math/big"
	"math/rand"
	"regexp"
	"slices"
	"strings"
	"testing"

	"girandole/api"
	"girandole/feed"
)

var number = regexp.MustCompile(`^(0|-?[1-9][0-9]*)$`)

// wordWrong: what is wrong with a word, by the chapter.
func wordWrong(truth bool, word string) api.Errno {
	switch {
	case truth && word != "true" && word != "false", !truth && !number.MatchString(word):
		return api.ErrForm
	case truth:
		return api.OK
	}
	if n, _ := new(big.Int).SetString(word, 10); !n.IsInt64() {
		return api.ErrBig
	}
	return api.OK
}

// lineWrong: what is wrong with a line that isn't empty.
func lineWrong(kinds, line string) api.Errno {
	words := strings.Split(line, " ")
	if kinds == "" {
		words = nil
		if line != "." {
			return api.ErrForm
		}
	}
	for i, word := range words {
		if i >= len(kinds) {
			return api.ErrMany
		}
		if err := wordWrong(kinds[i] == 'b', word); err != api.OK {
			return err
		}
	}
	if len(words) < len(kinds) {
		return api.ErrMany
	}
	return api.OK
}

// looked: what Parse answers of any text, that must be as the chapter has it; rows told again are the lines.
func looked(t *testing.T, kinds, text string) api.Errno {
	t.Helper()
	var lines []string
	for at, line := range strings.Split(text, "\n") {
		if line == "" {
			continue
		}
		err := lineWrong(kinds, line)
		if len(lines) == 200 {
			err = api.ErrLimits
		}
		if err != api.OK {
			refused(t, kinds, text, at, err)
			return err
		}
		lines = append(lines, line)
	}
	rows, at, err := feed.Parse(nodeOf(kinds), text)
	var back []string
	for _, row := range rows {
		if len(row) != len(kinds) {
			t.Fatalf("Parse of %.200q for %q: a row %v", text, kinds, row)
		}
		back = append(back, feed.Row(decls(kinds), row...))
	}
	if !slices.Equal(back, lines) || at != -1 || err != api.OK {
		t.Fatalf("Parse of %.200q for %q: %v, told again %q, %d, %d", text, kinds, rows, back, at, err)
	}
	return api.OK
}

// kindsBy: what comes in by chance.
func kindsBy(r *rand.Rand) string {
	b := make([]byte, r.Intn(5))
	for i := range b {
		b[i] = "ib"[r.Intn(2)]
	}
	return string(b)
}

// valueBy: a value by chance, of few bits or of many, a truth for a bool.
func valueBy(r *rand.Rand, truth bool) int64 {
	if truth {
		return int64(r.Intn(2))
	}
	if r.Intn(20) == 0 {
		return []int64{math.MinInt64, math.MaxInt64, math.MinInt64 + 1, -1, 0}[r.Intn(5)]
	}
	return int64(r.Uint64()) >> r.Intn(64)
}

// rowBy: a row of values by chance.
func rowBy(r *rand.Rand, kinds string) []int64 {
	var row []int64
	for i := range kinds {
		row = append(row, valueBy(r, kinds[i] == 'b'))
	}
	return row
}

// TestThereAndBack: rows as lines, with empty ones between, are read as those rows.
func TestThereAndBack(t *testing.T) {
	r := rand.New(rand.NewSource(1))
	for range 3000 {
		kinds := kindsBy(r)
		var rows [][]int64
		text := strings.Repeat("\n", r.Intn(2))
		for range r.Intn(12) {
			row := rowBy(r, kinds)
			text += feed.Row(decls(kinds), row...) + strings.Repeat("\n", 1+r.Intn(8)/6)
			rows = append(rows, row)
		}
		if r.Intn(2) == 0 {
			text = strings.TrimSuffix(text, "\n")
		}
		taken(t, kinds, text, rows...)
		looked(t, kinds, text)
	}
}

// TestPortBack: what went out at a port is read again, word by word, as lines, or as one row.
func TestPortBack(t *testing.T) {
	r := rand.New(rand.NewSource(2))
	for range 2000 {
		kind := "ib"[r.Intn(2):][:1]
		kinds := strings.Repeat(kind, r.Intn(100))
		values := rowBy(r, kinds)
		text := feed.Port(decls(kind)[0], values...)
		var column [][]int64
		for _, v := range values {
			column = append(column, []int64{v})
		}
		taken(t, kind, strings.ReplaceAll(text, " ", "\n"), column...)
		if kinds != "" {
			taken(t, kinds, text, values)
		}
		if kinds != "" && feed.Row(decls(kinds), values...) != text {
			t.Errorf("Port of %q, %v: %q", kind, values, text)
		}
	}
}

// spoiledLine: a row by chance, some words of which became others.
func spoiledLine(r *rand.Rand, kinds string) string {
	words := strings.Split(feed.Row(decls(kinds), rowBy(r, kinds)...), " ")
	others := [...]string{"", "0", "-0", "07", "-", "5", "-12", "true", "false", ".", "9223372036854775807", "9223372036854775808", "-9223372036854775808", "-9223372036854775809", "1x", "+1", "tru", "\t"}
	for r.Intn(4) == 0 {
		i := r.Intn(len(words) + 1)
		switch other := others[r.Intn(len(others))]; {
		case i == len(words) || r.Intn(4) == 0:
			words = slices.Insert(words, i, other)
		case r.Intn(4) == 0 && len(words) > 1:
			words = slices.Delete(words, i, i+1)
		default:
			words[i] = other
		}
	}
	return strings.Join(words, " ")
}

// TestSpoiled: rows of which some are wrong.
func TestSpoiled(t *testing.T) {
	r := rand.New(rand.NewSource(3))
	met := map[api.Errno]int{}
	for range 20000 {
		kinds := kindsBy(r)
		var lines []string
		most := 6
		if r.Intn(100) == 0 {
			most = 400
		}
		for range r.Intn(most) {
			line := ""
			if r.Intn(8) > 0 {
				line = feed.Row(decls(kinds), rowBy(r, kinds)...)
			}
			if r.Intn(most) == 0 {
				line = spoiledLine(r, kinds)
			}
			lines = append(lines, line)
		}
		met[looked(t, kinds, strings.Join(lines, "\n"))]++
	}
	for _, err := range []api.Errno{api.OK, api.ErrForm, api.ErrBig, api.ErrMany, api.ErrLimits} {
		if met[err] < 20 {
			t.Errorf("just %d texts have the error %d", met[err], err)
		}
	}
}

// TestAnyText: each byte alone, each pair, and texts of any bytes, or of few ones.
func TestAnyText(t *testing.T) {
	all := []string{"", "i", "b", "ib", "ii", "bib"}
	for a := range 256 {
		for _, kinds := range all {
			looked(t, kinds, string([]byte{byte(a)}))
			looked(t, kinds, strings.Repeat(string([]byte{byte(a)}), 5000))
		}
		for b := range 256 {
			looked(t, all[(a+b)%len(all)], string([]byte{byte(a), byte(b)}))
			looked(t, "i", string([]byte{byte(a), byte(b)}))
		}
	}
	r := rand.New(rand.NewSource(4))
	few := []string{"0", "1", "9", "-", " ", "\n", ".", "true", "false", "x"}
	for range 30000 {
		var b strings.Builder
		for range r.Intn(14) {
			if r.Intn(30) == 0 {
				b.WriteByte(byte(r.Intn(256)))
			}
			b.WriteString(few[r.Intn(len(few))])
		}
		looked(t, kindsBy(r), b.String())
	}
}
