package split_test

import (
	"slices"
	"strconv"
	"strings"
	"testing"

	"girandole/api"
)

// equation: what gives y in a node of a kind: nothing is wrong; Sort tells of it; it is as another node; Flatten
// tells of it; both do.
func equation(kind string) string {
	return map[string]string{
		"fine":    "y = x;",
		"hangs":   "y = x + y;",
		"calls":   "y = below(x, c);",
		"big":     "y = many(x, c) - many(x, c);",
		"clocked": "y = merge c (starts(x when c, true)) (0);",
		"both":    "y = y + many(x, c) - many(x, c);",
	}[kind]
}

// nodeText: a node by its name, its kind, and the nodes that run by its async equations. The mark "|" may stand
// ahead of a name.
func nodeText(spec string) string {
	l := strings.Fields(spec)
	vars, eqs := "", equation(l[1])
	for i, name := range l[2:] {
		u := "u" + strconv.Itoa(i)
		vars += u + ": future int; "
		eqs += " " + u + " = async " + name + "(x, c);"
	}
	if vars != "" {
		vars = "var " + vars
	}
	return "node " + l[0] + "(x: int, c: bool) returns (y: int) " + vars + "let " + eqs + " tel\n"
}

// programText: nodes, and behind them such as others call.
func programText(specs ...string) string {
	var text string
	for _, s := range specs {
		text += nodeText(s)
	}
	return text + nodeText("leaf fine") +
		"node many(x: int, c: bool) returns (y: int) let y = " + strings.Repeat("some(x, c) + ", 19) + "some(x, c); tel\n" +
		"node some(x: int, c: bool) returns (y: int) let y = " + strings.Repeat("x - ", 19) + "x; tel\n"
}

// faults: programs, each with the mark where its fault is told.
var faults = [...]struct {
	err   api.Errno
	nodes []string
}{
	{api.ErrCycle, []string{"|f hangs"}},
	{api.ErrLimits, []string{"|f big"}},
	{api.ErrClock, []string{"f clocked", "starts fine |leaf"}},
	{api.ErrCycle, []string{"|f calls", "below hangs"}},
	{api.ErrCycle, []string{"f fine a", "|a hangs"}},
	{api.ErrLimits, []string{"f fine a", "|a big"}},
	{api.ErrClock, []string{"f fine a", "a clocked", "starts fine |leaf"}},
	{api.ErrCycle, []string{"f fine a", "below hangs", "|a calls"}},
	{api.ErrCycle, []string{"f calls", "|a hangs", "below fine a"}},
	{api.ErrCycle, []string{"f fine a", "a fine b", "b calls", "below fine d", "|d hangs"}},
	// node by node, as they stand, not as one comes to them
	{api.ErrCycle, []string{"f fine a b", "|b hangs", "a hangs"}},
	{api.ErrCycle, []string{"f fine b a", "|b hangs", "a hangs"}},
	{api.ErrCycle, []string{"f fine a b", "|b hangs", "a big"}},
	{api.ErrLimits, []string{"f fine a b", "|b big", "a hangs"}},
	{api.ErrCycle, []string{"|f hangs a b", "a big", "b hangs"}},
	{api.ErrCycle, []string{"f fine a", "|e hangs", "d hangs", "b fine e", "a fine b d"}},
	{api.ErrClock, []string{"f fine a b", "b clocked", "a big", "starts hangs |leaf"}},
	{api.ErrCycle, []string{"f fine a b", "|a hangs", "b clocked", "starts fine leaf"}},
	// what Flatten tells of a node comes ahead of what Sort tells of it, not of what is told of one ahead
	{api.ErrLimits, []string{"|f both"}},
	{api.ErrLimits, []string{"f fine a b", "|a both", "b both"}},
	// of one that hangs on itself others run; of one that can't be laid out none do, but by others
	{api.ErrCycle, []string{"f fine a", "|b hangs", "a hangs b"}},
	{api.ErrLimits, []string{"f fine a", "|b big", "a hangs b"}},
	{api.ErrLimits, []string{"f fine a", "b hangs", "|a big b"}},
	{api.ErrLimits, []string{"f fine a", "b hangs", "|a both b"}},
	{api.ErrClock, []string{"f fine a", "b hangs", "a clocked b", "starts fine |leaf"}},
	{api.ErrLimits, []string{"f fine a", "d hangs", "b fine d", "|a big b"}},
	{api.ErrCycle, []string{"f fine a b", "|b hangs", "a big b"}},
	{api.ErrCycle, []string{"f fine a d", "|b hangs", "a big b", "d fine b"}},
	{api.ErrCycle, []string{"f fine d a", "|b hangs", "a big b", "d hangs b"}},
}

func TestFaults(t *testing.T) {
	for _, x := range faults {
		refused(t, programText(x.nodes...), x.err)
	}
}

// TestNotRun: of nodes that don't run nothing is told.
func TestNotRun(t *testing.T) {
	for _, nodes := range [][]string{
		{"f fine", "a hangs", "b big", "starts fine leaf", "d clocked"},
		{"f fine a", "b hangs", "a fine", "d fine b"},
		{"f calls", "below fine", "a hangs below"},
	} {
		planOf(t, programText(nodes...))
	}
}

// TestMost: up to 30 workers there are, whatever they hang on; one more is too much.
func TestMost(t *testing.T) {
	a := func(times int) string { return strings.Repeat(" leaf", times) }
	for _, x := range []struct {
		nodes []string
		want  int
	}{
		{[]string{"|f fine" + a(29)}, 30},
		{[]string{"|f fine" + a(30)}, 31},
		{[]string{"|f fine a", "a fine" + a(28)}, 30},
		{[]string{"|f fine a", "a fine" + a(29)}, 31},
		{[]string{"|f fine a a", "a fine" + a(13)}, 29},
		{[]string{"|f fine a a leaf", "a fine" + a(13)}, 30},
		{[]string{"|f fine a a leaf leaf", "a fine" + a(13)}, 31},
		{[]string{"|f fine a a", "a fine" + a(14)}, 31},
		{[]string{"|f calls" + a(9), "below fine" + a(20)}, 30},
		{[]string{"|f calls" + a(10), "below fine" + a(20)}, 31},
		{[]string{"|f fine a a", "a fine b b", "b fine d d", "d fine leaf"}, 23},
		{[]string{"|f fine a a", "a fine b b", "b fine d d", "d fine leaf leaf"}, 31},
		{[]string{"|f fine b", "a fine leaf", "b calls" + a(26), "below fine a"}, 30},
		{[]string{"|f fine b", "a fine leaf leaf", "b calls" + a(26), "below fine a"}, 31},
	} {
		text := programText(x.nodes...)
		if x.want > api.MaxWorker {
			refused(t, text, api.ErrLimits)
		} else if p := planOf(t, strings.Replace(text, "|", "", 1)); p.Len() != x.want {
			t.Errorf("of %q there are %d workers, want %d", text, p.Len(), x.want)
		}
	}
}

// TestMostLast: that there are too many workers is told behind all faults of nodes, of how many workers whatever.
func TestMostLast(t *testing.T) {
	a := func(times int) string { return strings.Repeat(" leaf", times) }
	refused(t, programText("f fine"+a(40)+" a", "|a hangs"), api.ErrCycle)
	refused(t, programText("f fine"+a(40)+" b", "|a big", "b fine"+a(35)+" a"), api.ErrLimits)
	refused(t, programText("f calls"+a(40), "below fine"+a(35)+" b", "b clocked", "starts fine |leaf"), api.ErrClock)
	refused(t, programText("|f fine"+a(40), "a hangs"), api.ErrLimits)
}

// TestTooMany: there may be so many that nobody can count them.
func TestTooMany(t *testing.T) {
	const names = "abcdeghijklmnopq"
	var middle []string
	for i := range names[1:] {
		middle = append(middle, names[i:i+1]+" fine"+strings.Repeat(" "+names[i+1:i+2], 3))
	}
	refused(t, programText(slices.Concat([]string{"|f fine a"}, middle, []string{"q fine leaf"})...), api.ErrLimits)
	refused(t, programText(slices.Concat([]string{"f fine a"}, middle, []string{"|q hangs leaf"})...), api.ErrCycle)
}
