package tree

import (
	"strconv"
	"strings"
)

// How closely an expression binds: the higher, the closer.
const (
	bindIf = iota
	bindArrow
	bindOr
	bindAnd
	bindNot
	bindCompare
	bindSum
	bindTerm
	bindUnary
	bindWhen
	bindClosest
)

// Text: an expression's canonical text.
func Text(e Expr) string {
	switch e.Kind {
	case Int:
		return strconv.FormatInt(e.N, 10)
	case Bool:
		return strconv.FormatBool(e.N != 0)
	case Var:
		return e.Name
	case Neg:
		return negText(e)
	case Not:
		return "not " + kidText(e, 0, bindNot)
	case Binary:
		return binaryText(e)
	case If:
		return "if " + kidText(e, 0, bindIf) + " then " + kidText(e, 1, bindIf) + " else " + kidText(e, 2, bindIf)
	case Arrow:
		return kidText(e, 0, bindOr) + " -> " + kidText(e, 1, bindArrow)
	case Fby:
		return kidText(e, 0, bindIf) + " fby " + kidText(e, 1, bindArrow)
	case Pre:
		return "pre " + kidText(e, 0, bindUnary)
	case When:
		return kidText(e, 0, bindWhen) + whenText(e.Name, e.Off)
	case Merge:
		return "merge " + e.Name + " (" + kidText(e, 0, bindIf) + ") (" + kidText(e, 1, bindIf) + ")"
	case Call:
		return e.Name + "(" + kidTexts(e) + ")"
	case Await:
		return awaitText(e)
	}
	return ""
}

// TypeText: a type's.
func TypeText(t Type) string {
	s := "int"
	if t.Bool {
		s = "bool"
	}
	if t.Future {
		return "future " + s
	}
	return s
}

// Print: of nodes, their canonical text.
func Print(l ...Node) string {
	var b strings.Builder
	for _, n := range l {
		b.WriteString("node " + n.Name + "(" + declTexts(n.Ins, ", ") + ") returns (" + declTexts(n.Outs, ", ") + ")\n")
		if len(n.Vars) > 0 {
			b.WriteString("var " + declTexts(n.Vars, "; ") + ";\n")
		}
		b.WriteString("let\n")
		for _, q := range n.Eqs {
			b.WriteString("  " + eqText(q) + ";\n")
		}
		b.WriteString("tel\n")
	}
	return b.String()
}

// binds: how closely an expression does.
func binds(e Expr) int {
	switch e.Kind {
	case Int:
		if e.N < 0 {
			return bindUnary
		}
	case Neg, Pre:
		return bindUnary
	case Not:
		return bindNot
	case Binary:
		return signBinds(e.Name)
	case If:
		return bindIf
	case Arrow, Fby:
		return bindArrow
	case When:
		return bindWhen
	}
	return bindClosest
}

func signBinds(sign string) int {
	switch sign {
	case "or", "xor":
		return bindOr
	case "and":
		return bindAnd
	case "+", "-":
		return bindSum
	case "*", "/", "mod":
		return bindTerm
	}
	return bindCompare
}

// kidText: the text of a kid that must bind so closely at least; of one that is wanting, none.
func kidText(e Expr, i, least int) string {
	if i >= len(e.Kids) {
		return ""
	}
	s := Text(e.Kids[i])
	if binds(e.Kids[i]) < least {
		return "(" + s + ")"
	}
	return s
}

// kidTexts: those of all kids, which may bind as they like.
func kidTexts(e Expr) string {
	var l []string
	for i := range e.Kids {
		l = append(l, kidText(e, i, bindIf))
	}
	return strings.Join(l, ", ")
}

func negText(e Expr) string {
	s := kidText(e, 0, bindUnary)
	// Without brackets a number would be read as one below 0, and two of "-" as a remark.
	if len(e.Kids) > 0 && e.Kids[0].Kind == Int || strings.HasPrefix(s, "-") {
		return "-(" + s + ")"
	}
	return "-" + s
}

func binaryText(e Expr) string {
	own := signBinds(e.Name)
	left := own
	if own == bindCompare { // of these two don't stand in one row
		left++
	}
	return kidText(e, 0, left) + " " + e.Name + " " + kidText(e, 1, own+1)
}

func awaitText(e Expr) string {
	s := "await " + e.Name
	if len(e.Kids) > 0 {
		s += " after (" + kidTexts(e) + ")"
	}
	return s
}

// whenText: what stands behind that which is on a clock.
func whenText(name string, off bool) string {
	if off {
		return " when not " + name
	}
	return " when " + name
}

func declTexts(l []Decl, between string) string {
	var texts []string
	for _, d := range l {
		s := d.Name + ": " + TypeText(d.Type)
		if d.Clock != "" {
			s += whenText(d.Clock, d.Off)
		}
		texts = append(texts, s)
	}
	return strings.Join(texts, between)
}

func eqText(q Eq) string {
	s := leftText(q.Left) + " = "
	if q.Async {
		s += "async "
	}
	return s + Text(q.E)
}

func leftText(l []Left) string {
	var names []string
	for _, x := range l {
		names = append(names, x.Name)
	}
	s := strings.Join(names, ", ")
	if len(names) > 1 {
		return "(" + s + ")"
	}
	return s
}
