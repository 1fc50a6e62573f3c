package parse_test

import (
	"strings"
	"testing"

	"girandole/api"
)

func TestEachKindOfExpressionAndItsPlace(t *testing.T) {
	for text, want := range map[string]string{
		"x":                             "Var@0 x",
		" \n-- a remark\n x ":           "Var@15 x",
		"((x))":                         "Var@2 x",
		"0":                             "Int@0 0",
		"17":                            "Int@0 17",
		"-17":                           "Int@0 -17",
		" - -- a remark\n 17":           "Int@1 -17",
		"-0":                            "Int@0 0",
		"(-1)":                          "Int@1 -1",
		"true":                          "Bool@0 1",
		"( false)":                      "Bool@2 0",
		"-x":                            "Neg@0 [Var@1 x]",
		"-(1)":                          "Neg@0 [Int@2 1]",
		"- -1":                          "Neg@0 [Int@2 -1]",
		"(-(-x))":                       "Neg@1 [Neg@3 [Var@4 x]]",
		"not x":                         "Not@0 [Var@4 x]",
		"not(not(x))":                   "Not@0 [Not@4 [Var@8 x]]",
		"pre x":                         "Pre@0 [Var@4 x]",
		" pre(x)":                       "Pre@1 [Var@5 x]",
		"x + 1":                         "Binary@2 + [Var@0 x] [Int@4 1]",
		"(x)mod(y)":                     "Binary@3 mod [Var@1 x] [Var@7 y]",
		"(x = y)":                       "Binary@3 = [Var@1 x] [Var@5 y]",
		"x or y":                        "Binary@2 or [Var@0 x] [Var@5 y]",
		"x -> y":                        "Arrow@2 [Var@0 x] [Var@5 y]",
		"(x)->(y)":                      "Arrow@3 [Var@1 x] [Var@6 y]",
		"1 fby x":                       "Fby@2 [Int@0 1] [Var@6 x]",
		"-1 fby x":                      "Fby@3 [Int@0 -1] [Var@7 x]",
		"true fby x":                    "Fby@5 [Bool@0 1] [Var@9 x]",
		"(false)fby x":                  "Fby@7 [Bool@1 0] [Var@11 x]",
		"x when c":                      "When@2 c [Var@0 x]",
		"x when not c":                  "When@2 not c [Var@0 x]",
		"(x)when c when not d":          "When@10 not d [When@3 c [Var@1 x]]",
		"if a then b else c":            "If@0 [Var@3 a] [Var@10 b] [Var@17 c]",
		"(if(a)then(b)else(c))":         "If@1 [Var@4 a] [Var@11 b] [Var@18 c]",
		"merge c (x) (y)":               "Merge@0 c [Var@9 x] [Var@13 y]",
		"merge c(x when c)(0 -> y)":     "Merge@0 c [When@10 c [Var@8 x]] [Arrow@20 [Int@18 0] [Var@23 y]]",
		"f()":                           "Call@0 f",
		"(f ( ))":                       "Call@1 f",
		"f(x)":                          "Call@0 f [Var@2 x]",
		"f(x, g(), if a then b else c)": "Call@0 f [Var@2 x] [Call@5 g] [If@10 [Var@13 a] [Var@20 b] [Var@27 c]]",
		"await u":                       "Await@0 u",
		"(await u)":                     "Await@1 u",
		"await u after (1)":             "Await@0 u [Int@15 1]",
		"await u after(-1,true, false)": "Await@0 u [Int@14 -1] [Bool@17 1] [Bool@23 0]",
	} {
		toldAs(t, text, want)
	}
}

// level: how closely a sign binds, by the rows of the grammar.
func level(sign string) int {
	for i, row := range []string{" or xor ", " and ", " = <> < <= > >= ", " + - ", " * / mod "} {
		if strings.Contains(row, " "+sign+" ") {
			return i
		}
	}
	return -1
}

func TestRowsOfSignsBindToTheLeft(t *testing.T) {
	signs := strings.Fields("or xor and = <> < <= > >= + - * / mod")
	for _, first := range signs {
		toldAs(t, "x "+first+" y", strings.NewReplacer("SIGN", first, "BEHIND", string(rune('0'+len(first)+3))).Replace("Binary@2 SIGN [Var@0 x] [Var@BEHIND y]"))
		for _, second := range signs {
			text := "x " + first + " y " + second + " z"
			switch {
			case level(first) == 2 && level(second) == 2:
				exprRefused(t, text, len("x "+first+" y "), api.ErrForm)
			case level(first) >= level(second):
				readAs(t, text, "(x "+first+" y) "+second+" z")
			default:
				readAs(t, text, "x "+first+" (y "+second+" z)")
			}
		}
	}
	readAs(t, "a - b - c - d", "((a - b) - c) - d")
	readAs(t, "a or b xor c or d", "((a or b) xor c) or d")
	readAs(t, "a and b and c and d", "((a and b) and c) and d")
	readAs(t, "a / b * c mod d", "((a / b) * c) mod d")
}

func TestArrowsBindToTheRight(t *testing.T) {
	for text, bracketed := range map[string]string{
		"a -> b -> c":           "a -> (b -> c)",
		"1 fby 2 fby c":         "1 fby (2 fby c)",
		"a -> 1 fby c":          "a -> (1 fby c)",
		"1 fby b -> c":          "1 fby (b -> c)",
		"a or b -> c or d":      "(a or b) -> (c or d)",
		"not a -> not b":        "(not a) -> (not b)",
		"1 fby a + b":           "1 fby (a + b)",
		"a -> b -> c -> 4":      "a -> (b -> (c -> 4))",
		"a -> -1 fby true -> c": "a -> (-1 fby (true -> c))",
	} {
		readAs(t, text, bracketed)
	}
}

func TestHowCloselyOthersBind(t *testing.T) {
	for text, bracketed := range map[string]string{
		"not a and b":                           "(not a) and b",
		"not a = b":                             "not (a = b)",
		"not not a < b + c":                     "not (not (a < (b + c)))",
		"a and not b or c":                      "(a and (not b)) or c",
		"pre a + b":                             "(pre a) + b",
		"pre pre a when c":                      "pre (pre (a when c))",
		"-a * b":                                "(-a) * b",
		"a * -b":                                "a * (-b)",
		"a - -b":                                "a - (-b)",
		"a-1":                                   "a - (1)",
		"a - 1 when c":                          "a - (1 when c)",
		"-pre a":                                "-(pre a)",
		"pre -a":                                "pre (-a)",
		"-a when c":                             "-(a when c)",
		"a when c + b when not c":               "(a when c) + (b when not c)",
		"f(a) when c":                           "(f(a)) when c",
		"await u after (1) when c":              "(await u after (1)) when c",
		"merge c (a) (b) when d + 1":            "((merge c (a) (b)) when d) + 1",
		"await u + await v":                     "(await u) + (await v)",
		"if a then b else c -> d":               "if a then b else (c -> d)",
		"if a then if b then c else d else e":   "if a then (if b then c else d) else e",
		"if a then b else if c then d else e":   "if a then b else (if c then d else e)",
		"if if a then b else c then d else e":   "if (if a then b else c) then d else e",
		"if a -> b then 1 fby c else d or e":    "if (a -> b) then (1 fby c) else (d or e)",
		"merge c (if a then b else d) (a -> b)": "merge c ((if a then b else d)) ((a -> b))",
	} {
		readAs(t, text, bracketed)
	}
}

func TestMinusAndANumber(t *testing.T) {
	for text, want := range map[string]string{
		"-5":                 "Int@0 -5",
		"pre -5":             "Pre@0 [Int@4 -5]",
		"-5 when c":          "Neg@0 [When@3 c [Int@1 5]]",
		"-5 when c when d":   "Neg@0 [When@10 d [When@3 c [Int@1 5]]]",
		"-5 when not c":      "Neg@0 [When@3 not c [Int@1 5]]",
		"(-5) when c":        "When@5 c [Int@1 -5]",
		"-(5) when c":        "Neg@0 [When@5 c [Int@2 5]]",
		"- -5":               "Neg@0 [Int@2 -5]",
		"- -5 when c":        "Neg@0 [Neg@2 [When@5 c [Int@3 5]]]",
		"x - 5":              "Binary@2 - [Var@0 x] [Int@4 5]",
		"x - -5":             "Binary@2 - [Var@0 x] [Int@4 -5]",
		"x * -5 when c":      "Binary@2 * [Var@0 x] [Neg@4 [When@7 c [Int@5 5]]]",
		"-5 * x when c":      "Binary@3 * [Int@0 -5] [When@7 c [Var@5 x]]",
		"f(-5) when c":       "When@6 c [Call@0 f [Int@2 -5]]",
		"- - -- -\n -x":      "Neg@0 [Neg@2 [Neg@10 [Var@11 x]]]",
		"-5 -> x":            "Arrow@3 [Int@0 -5] [Var@6 x]",
		"-await u after (5)": "Neg@0 [Await@1 u [Int@16 5]]",
	} {
		toldAs(t, text, want)
	}
}

func TestNumbersAtTheirLimits(t *testing.T) {
	const most, more = "9223372036854775807", "9223372036854775808"
	for text, want := range map[string]string{
		most:                            "Int@0 " + most,
		"-" + most:                      "Int@0 -" + most,
		"-" + more:                      "Int@0 -" + more,
		"- -" + more:                    "Neg@0 [Int@2 -" + more + "]",
		"(-" + more + ") when c":        "When@23 c [Int@1 -" + more + "]",
		"-" + most + " when c":          "Neg@0 [When@21 c [Int@1 " + most + "]]",
		"await u after (-" + more + ")": "Await@0 u [Int@15 -" + more + "]",
		"x - " + most:                   "Binary@2 - [Var@0 x] [Int@4 " + most + "]",
		"-" + more + " fby x":           "Fby@21 [Int@0 -" + more + "] [Var@25 x]",
	} {
		toldAs(t, text, want)
	}
	for text, at := range map[string]int{
		more: 0, "(" + more + ")": 1, "-(" + more + ")": 2, "x - " + more: 4, "-" + more + " when c": 1,
		"- -" + more + " when c": 3, "x-" + more + " when c": 2, "pre " + more: 4, "f(" + more + ")": 2,
		"await u after (1, " + more + ")": 18, more + " y": 0, more + " +": 0, more + " when 5": 0, "-" + more + " when 5": 1,
	} {
		exprRefused(t, text, at, api.ErrBig)
	}
	exprRefused(t, "x "+more, 2, api.ErrForm)
	exprRefused(t, "x y + "+more, 2, api.ErrForm)
	exprRefused(t, "await u after (-"+more+" when c)", 36, api.ErrForm)
	programRefused(t, inNode(more+" y"), eqAt, api.ErrBig)
	programRefused(t, "node "+more, 5, api.ErrForm)
}

func TestFbyStandsBehindNumbersAndTruthsAlone(t *testing.T) {
	for _, x := range []string{"1", "-1", "true", "false", "(1)", "((-1))", "(true)", "x -> 1"} {
		exprOf(t, x+" fby y")
		exprOf(t, "f("+x+" fby y)")
	}
	for _, x := range []string{
		"x", "(x)", "1 + 1", "x + 1", "-x", "-(1)", "- -1", "not true", "pre 1", "1 when c", "-1 when c", "(1 fby x)",
		"(1 -> x)", "1 -> x", "1 fby x", "f(1)", "await u", "merge c (1) (1)", "if a then b else c", "(if a then 1 else 1)", "1 = 1", "true and true",
	} {
		exprRefused(t, x+" fby y", len(x)+1, api.ErrForm)
		exprRefused(t, "("+x+" fby 1", len(x)+2, api.ErrForm)
		programRefused(t, inNode(x+" fby y"), eqAt+len(x)+1, api.ErrForm)
	}
}
