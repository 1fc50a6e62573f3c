package tool_test

import (
	"math/rand"
	"regexp"
	"strconv"
	"strings"
	"testing"

	"girandole/api"
	"girandole/code"
	"girandole/compile"
	"girandole/feed"
	"girandole/mach"
	"girandole/tool"
	"girandole/tree"
)

// programs of which jobs are made by chance.
var programs = [...]string{plus, both, count, deaf, `
node f(x: int, c: bool) returns (y: int, z: bool) var k: int when c; l: int when not c; e: bool; u: future int; v: future int; b: future bool;
let u = async sum(x); v = async more(u, y); b = async over(x, v, 3);
k = sum(x when c) - 1; l = (0 -> pre (x when not c)) * -2; e = await b after (true, false) xor c;
y = merge c (k) (l) + await u after (0); z = not e and (x < await v after (1, -2) -> pre e or true);
tel
node sum(a: int) returns (b: int) let b = a + (0 -> pre b); tel

node more(w: future int, a: int) returns (b: int) let b = await w after (5) * 2 + half(a); tel
node over(a: int, w: future int, d: int) returns (e: bool) let e = (a > d) = (await w after (7) <> 0); tel
node half(a: int) returns (b: int) let b = if a > 0 then a / 2 else 1 fby a mod 3; tel`, `
node f() returns (y: int, p: bool) var u: future int; v: future int; w: future bool; i: int;
let u = async a(v, i); v = async a(u, 2); w = async b(w, u);
-- the next line is a remark, too
--- row
i = 0 -> pre i + 1; y = await u after (1) + await v after (4); p = if i >= 3 then await w after (false) else i <= 1;
tel
node a(w: future int, i: int) returns (o: int) let o = i - await w after (2, -3); tel
node b(w: future bool, v: future int) returns (o: bool) let o = not (await w after (true)) or c(v) = 0; tel
node c(v: future int) returns (o: int) let o = 5 fby await v; tel`}

// number is a word of a script, as the chapter says it.
var number = regexp.MustCompile(`^([0-9]|[1-9][0-9])$`)

// scriptOf: the numbers of a script; false: it is none.
func scriptOf(text string) ([]int, bool) {
	var l []int
	for _, word := range regexp.MustCompile("[ \t\n\v\f\r]+").Split(text, -1) {
		if word == "" {
			continue
		}
		if !number.MatchString(word) {
			return nil, false
		}
		n, _ := strconv.Atoi(word)
		l = append(l, n)
	}
	return l, true
}

// rounds picks each worker, round and round, up to the end; it answers the script.
func rounds(t *testing.T, r *rand.Rand, p *code.Program, rows [][]int64) []int {
	t.Helper()
	var script []int
	for m := mach.New(p, rows...); !m.Done(); {
		round := r.Perm(p.Len())
		if m.Run(round...) == 0 {
			t.Fatalf("of %v nobody goes on any more", rows)
		}
		script = append(script, round...)
	}
	return script
}

// lineOf: a port's line, of what a machine wrote.
func lineOf(d tree.Decl, values []int64) string {
	line := d.Name + ":"
	for _, v := range values {
		switch {
		case !d.Type.Bool:
			line += " " + strconv.Itoa(int(v))
		case v == 1:
			line += " true"
		default:
			line += " false"
		}
	}
	return line + "\n"
}

// ran: what a job tells, by the chapter, worked out by a machine alone, and which error it is.
func ran(t *testing.T, text string) (string, api.Errno) {
	t.Helper()
	j := partsOf(text)
	l, p, f := compile.Compile(j.Program)
	if f.Err != api.OK {
		return "error " + strconv.Itoa(int(f.Err)) + " at " + strconv.Itoa(f.At) + "\n", f.Err
	}
	rows, at, err := feed.Parse(l[0], j.Rows)
	if err != api.OK {
		return "error " + strconv.Itoa(int(err)) + " row " + strconv.Itoa(at) + "\n", err
	}
	script, ok := scriptOf(j.Script)
	if !ok && j.Scripted {
		return "error 1 script 0\n", api.ErrForm
	}
	if !j.Scripted {
		script = rounds(t, rand.New(rand.NewSource(1)), p, rows)
	}
	m, picks, want := mach.New(p, rows...), 0, ""
	for _, w := range script {
		if m.Pick(w) {
			picks++
		}
	}
	for port, d := range l[0].Outs {
		want += lineOf(d, m.Out(port))
	}
	if j.Scripted {
		want += "picks " + strconv.Itoa(picks) + "\ndone " + map[bool]string{true: "true", false: "false"}[m.Done()] + "\n"
	}
	return want, api.OK
}

// held: what Run answers of any text, that must be as the chapter has it.
func held(t *testing.T, text string) api.Errno {
	t.Helper()
	want, err := ran(t, text)
	if got := tool.Run(text); got != want {
		t.Fatalf("Run(%.2000q): %.400q, want %.400q", text, got, want)
	}
	return err
}

// rowsBy: lines of rows by chance.
func rowsBy(r *rand.Rand, n tree.Node) []string {
	var l []string
	for range r.Intn(14) {
		var row []int64
		for range n.Ins {
			row = append(row, int64(r.Intn(50)-20)*int64(r.Intn(2)))
		}
		if l = append(l, feed.Row(n.Ins, row...)); r.Intn(8) == 0 {
			l = append(l, "")
		}
	}
	return l
}

// words: numbers of a script as a text, with blanks by chance between.
func words(r *rand.Rand, script []int) string {
	blanks := [...]string{" ", " ", " ", "\n", "\t", "\r\n", "\v\f", "  "}
	var b strings.Builder
	for _, n := range script {
		b.WriteString(strconv.Itoa(n) + blanks[r.Intn(len(blanks))])
	}
	return b.String()
}

// TestLongEnough: a job with a script that is long enough tells what the same job tells without it, and that all is
// done, behind as many steps as all workers take; with one that isn't the first of it.
func TestLongEnough(t *testing.T) {
	r := rand.New(rand.NewSource(1))
	for range 400 {
		program := programs[r.Intn(len(programs))]
		l, p, _ := compile.Compile(program)
		if len(l[0].Ins) == 0 && r.Intn(3) > 0 || len(l[0].Outs) == 0 && r.Intn(3) > 0 {
			continue
		}
		lines := rowsBy(r, l[0])
		without := tool.Run(job(program, lines...))
		rows, _, _ := feed.Parse(l[0], strings.Join(lines, "\n"))
		steps := 0
		for _, n := range stepsOf(t, program) {
			steps += n * len(rows)
		}
		script := rounds(t, r, p, rows)
		for range 3 {
			tells(t, scripted(program, words(r, script), lines...), strings.Split(without+"picks "+strconv.Itoa(steps)+"\ndone true", "\n")...)
			script = append(script, r.Intn(p.Len()), r.Intn(100))
		}
		short := tool.Run(scripted(program, words(r, script[:r.Intn(len(script))]), lines...))
		for i, line := range strings.Split(strings.TrimSuffix(without, "\n"), "\n") {
			if got := strings.Split(short, "\n")[i]; without != "" && !strings.HasPrefix(line+" ", got+" ") {
				t.Fatalf("of %q with a short script: %q, want the first of %q", program, got, line)
			}
		}
	}
}

// spoilt: a text in which something is replaced by chance.
func spoilt(r *rand.Rand, text string) string {
	pieces := [...]string{"", "x", "0", "7", "00", "100", "-1", " ", "\n", "\t", "\r", "--- rows", "\n--- rows\n", "\n--- script\n", "\n--- script\n0 1 0 1\n", "true", ".", "y", "+", ";", "\xff", "\u00a0", "9223372036854775808"}
	from := r.Intn(len(text) + 1)
	to := min(len(text), from+r.Intn(3))
	return text[:from] + pieces[r.Intn(len(pieces))] + text[to:]
}

// TestByChance: whatever a job's parts are, what is told is the first fault, or what a machine has written.
func TestByChance(t *testing.T) {
	r := rand.New(rand.NewSource(2))
	met, alone, under := map[api.Errno]int{}, 0, 0
	for range 6000 {
		program := programs[r.Intn(len(programs))]
		l, p, _ := compile.Compile(program)
		lines := rowsBy(r, l[0])
		if r.Intn(3) == 0 && len(lines) > 0 {
			i := r.Intn(len(lines))
			lines[i] = spoilt(r, lines[i])
		}
		text := job(program, lines...)
		if r.Intn(3) > 0 {
			var script []int
			for range r.Intn(300) {
				script = append(script, r.Intn(p.Len()+1))
			}
			text = scripted(program, words(r, script), lines...)
		}
		if r.Intn(3) == 0 {
			text = spoilt(r, text)
		}
		err := held(t, text)
		met[err]++
		if err == api.OK && partsOf(text).Scripted {
			under++
		} else if err == api.OK {
			alone++
		}
	}
	for _, err := range []api.Errno{api.ErrForm, api.ErrBig, api.ErrName, api.ErrMany} {
		if met[err] < 8 {
			t.Errorf("just %d jobs have the error %d", met[err], err)
		}
	}
	if alone < 500 || under < 1000 {
		t.Errorf("just %d jobs without a script, and %d with one, have no error", alone, under)
	}
}
