package tree_test

import "girandole/tree"

// expr: an expression of a kind, a name, and kids; variable, number, truth: those without kids.
func expr(kind int, name string, kids ...tree.Expr) tree.Expr {
	return tree.Expr{Kind: kind, Name: name, Kids: kids}
}

func variable(name string) tree.Expr {
	return tree.Expr{Kind: tree.Var, Name: name}
}

func number(n int64) tree.Expr {
	return tree.Expr{Kind: tree.Int, N: n}
}

func truth(n int64) tree.Expr {
	return tree.Expr{Kind: tree.Bool, N: n}
}

// chain: an expression of so many levels, a kid in each.
func chain(levels, kind int) tree.Expr {
	e := variable("x")
	for range levels - 1 {
		e = expr(kind, "", e)
	}
	return e
}
