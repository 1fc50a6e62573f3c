package tool_test

import (
	"math/rand"
	"strings"
	"testing"

	"girandole/tool"
)

// TestParts: which line ends what.
func TestParts(t *testing.T) {
	type job = tool.Job
	for text, want := range map[string]job{
		"":                                   {},
		"a":                                  {Program: "a"},
		"a\n":                                {Program: "a\n"},
		"\na\n\nb\n\n":                       {Program: "\na\n\nb\n\n"},
		"--- rows":                           {},
		"--- rows\n":                         {},
		"\n--- rows\n\n":                     {Rows: "\n"},
		"\n\n--- rows\n\n\n":                 {Program: "\n", Rows: "\n\n"},
		"a\n--- rows":                        {Program: "a"},
		"a\n--- rows\n5":                     {Program: "a", Rows: "5"},
		"a\nb\n--- rows\n5\n6\n":             {Program: "a\nb", Rows: "5\n6\n"},
		"--- rows\n5":                        {Rows: "5"},
		"--- script":                         {Scripted: true},
		"--- script\n":                       {Scripted: true},
		"a\n--- script":                      {Program: "a", Scripted: true},
		"a\n--- script\n1\n2\n":              {Program: "a", Script: "1\n2\n", Scripted: true},
		"a\n--- script\n--- rows\n5":         {Program: "a", Rows: "5", Scripted: true},
		"a\n--- script\n\n--- rows":          {Program: "a", Scripted: true},
		"a\n--- script\n1\n2\n\n--- rows\n5": {Program: "a", Script: "1\n2\n", Rows: "5", Scripted: true},
		"--- script\n1\n--- rows\n5":         {Script: "1", Rows: "5", Scripted: true},
		// Behind a script's line the next one of rows ends it; behind that nothing ends anything.
		"a\n--- script\n1\n--- script\n2\n--- rows\n5":             {Program: "a", Script: "1\n--- script\n2", Rows: "5", Scripted: true},
		"a\n--- rows\n5\n--- script\n1":                            {Program: "a", Rows: "5\n--- script\n1"},
		"a\n--- rows\n5\n--- rows\n6":                              {Program: "a", Rows: "5\n--- rows\n6"},
		"a\n--- rows\n--- script\n--- rows":                        {Program: "a", Rows: "--- script\n--- rows"},
		"a\n--- script\n1\n--- rows\n5\n--- rows\n--- script\n6\n": {Program: "a", Script: "1", Rows: "5\n--- rows\n--- script\n6\n", Scripted: true},
		// What is almost such a line is none.
		"a\n --- rows\n5":                     {Program: "a\n --- rows\n5"},
		"a\n--- rows \n5":                     {Program: "a\n--- rows \n5"},
		"a\r\n--- rows\r\n5":                  {Program: "a\r\n--- rows\r\n5"},
		"a --- rows\n5":                       {Program: "a --- rows\n5"},
		"a\n---  rows":                        {Program: "a\n---  rows"},
		"a\n---rows":                          {Program: "a\n---rows"},
		"a\n-- rows":                          {Program: "a\n-- rows"},
		"a\n---- rows":                        {Program: "a\n---- rows"},
		"a\n--- row":                          {Program: "a\n--- row"},
		"a\n--- Rows":                         {Program: "a\n--- Rows"},
		"a\n--- scripts\n1":                   {Program: "a\n--- scripts\n1"},
		"a\n--- \n---\n":                      {Program: "a\n--- \n---\n"},
		"a\r--- rows\v--- rows\u2028--- rows": {Program: "a\r--- rows\v--- rows\u2028--- rows"},
		"a\x00\xff\n--- script\n\xfe\n--- rows\n\x00": {Program: "a\x00\xff", Script: "\xfe", Rows: "\x00", Scripted: true},
	} {
		if got := tool.Parts(text); got != want {
			t.Errorf("Parts(%q): %+v, want %+v", text, got, want)
		}
	}
}

// TestLines: what parts begin with, as it is told.
func TestLines(t *testing.T) {
	if tool.Rows != "--- rows" || tool.Script != "--- script" {
		t.Errorf("Rows %q, Script %q", tool.Rows, tool.Script)
	}
}

// partsOf: the parts of a text, line by line.
func partsOf(text string) tool.Job {
	var parts [3][]string
	part, found := 0, tool.Job{}
	for _, line := range strings.Split(text, "\n") {
		switch {
		case part == 0 && line == "--- script":
			part, found.Scripted = 1, true
		case part < 2 && line == "--- rows":
			part = 2
		default:
			parts[part] = append(parts[part], line)
		}
	}
	found.Program = strings.Join(parts[0], "\n")
	found.Script = strings.Join(parts[1], "\n")
	found.Rows = strings.Join(parts[2], "\n")
	return found
}

// TestPartsByChance: of lines in any order.
func TestPartsByChance(t *testing.T) {
	r := rand.New(rand.NewSource(1))
	lines := [...]string{"--- rows", "--- script", "--- rows", "--- script", "", "a", "5 6", "--- row", " --- rows", "--- script\r", "\xff"}
	for range 20000 {
		var l []string
		for range r.Intn(10) {
			l = append(l, lines[r.Intn(len(lines))])
		}
		text := strings.Join(l, "\n")
		if got, want := tool.Parts(text), partsOf(text); got != want {
			t.Fatalf("Parts(%q): %+v, want %+v", text, got, want)
		}
	}
}

// TestPartsBack: parts that are put behind each other again are the same parts.
func TestPartsBack(t *testing.T) {
	r := rand.New(rand.NewSource(2))
	lines := [...]string{"a", "", "5 6", "---", "-- rows", "\r"}
	part := func() string {
		l := []string{lines[r.Intn(len(lines))]}
		for range r.Intn(4) {
			l = append(l, lines[r.Intn(len(lines))])
		}
		return strings.Join(l, "\n")
	}
	for range 5000 {
		want := tool.Job{Program: part(), Rows: part()}
		text := job(want.Program, want.Rows)
		if r.Intn(2) == 0 {
			want.Script, want.Scripted = part(), true
			text = scripted(want.Program, want.Script, want.Rows)
		}
		if got := tool.Parts(text); got != want {
			t.Fatalf("Parts(%q): %+v, want %+v", text, got, want)
		}
	}
}
