package tests

import (
	"strconv"
	"strings"
	"testing"

	"loop.example/s01725/impl"
)

func prints(t *testing.T, tree impl.Tree, want string) {
	t.Helper()
	if got := string(impl.PrintC(tree)); got != want {
		t.Errorf("printed %.300q, want %.300q", got, want)
	}
}

// printsExpr checks how an expression is printed, and that it is read again.
func printsExpr(t *testing.T, e []impl.Node, want string) {
	t.Helper()
	text := "int f() {\nout(" + want + ");\n}\n"
	tree := body(impl.Stmt{Kind: impl.SOut, E: e})
	prints(t, tree, text)
	parses(t, text, tree)
}

func TestPrintEverything(t *testing.T) {
	prints(t, everyTree(), everyText)
	prints(t, impl.Tree{}, "")
	prints(t, impl.Tree{Globals: []impl.Global{{Name: "x"}, {Name: "a", Size: 5}, {Name: "b", Size: 1}}}, "int x;\nint a[5];\nint b[1];\n")
	prints(t, impl.Tree{Funcs: []impl.Func{{Name: "f", Params: []string{"a", "b", "c"}}, {Name: "main"}}}, "int f(int a, int b, int c) {\n}\nint main() {\n}\n")
}

func TestPrintStatements(t *testing.T) {
	one := nodes(num(1))
	out := impl.Stmt{Kind: impl.SOut, E: one}
	rows := []struct {
		want  string
		stmts []impl.Stmt
	}{
		{"int x = 1;\n", []impl.Stmt{{Kind: impl.SDecl, Name: "x", E: one}}},
		{"x = 1;\n", []impl.Stmt{{Kind: impl.SSet, Name: "x", E: one}}},
		{"a[1] = 2;\n", []impl.Stmt{{Kind: impl.SStore, Name: "a", E: one, F: nodes(num(2))}}},
		{"return 1;\n", []impl.Stmt{{Kind: impl.SReturn, E: one}}},
		{"out(1);\n", []impl.Stmt{out}},
		{"g(1, in());\n", []impl.Stmt{{Kind: impl.SCall, E: nodes(num(1), ask, call("g", 2))}}},
		{"if (1) {\n}\n", []impl.Stmt{{Kind: impl.SIf, E: one}}},
		{"if (1) {\nout(1);\n}\n", []impl.Stmt{{Kind: impl.SIf, E: one, Then: 1}, out}},
		{"if (1) {\n}\nout(1);\n", []impl.Stmt{{Kind: impl.SIf, E: one}, out}},
		{"if (1) {\n} else {\nout(1);\n}\n", []impl.Stmt{{Kind: impl.SIf, E: one, Else: 1}, out}},
		{"if (1) {\nout(1);\n} else {\nout(1);\nout(1);\n}\nout(1);\n", []impl.Stmt{{Kind: impl.SIf, E: one, Then: 1, Else: 2}, out, out, out, out}},
		{"while (1) {\n}\n", []impl.Stmt{{Kind: impl.SWhile, E: one}}},
		{"while (1) {\nif (1) {\n} else {\nwhile (1) {\nout(1);\n}\n}\n}\nout(1);\n", []impl.Stmt{
			{Kind: impl.SWhile, E: one, Then: 3}, {Kind: impl.SIf, E: one, Else: 2}, {Kind: impl.SWhile, E: one, Then: 1}, out, out}},
		{"if ((1 + 2) * 3) {\n}\n", []impl.Stmt{{Kind: impl.SIf, E: nodes(num(1), num(2), bin(impl.BinAdd), num(3), bin(impl.BinMul))}}},
	}
	for _, r := range rows {
		text := "int f() {\n" + r.want + "}\n"
		prints(t, body(r.stmts...), text)
		parses(t, text, body(r.stmts...))
	}
}

func TestPrintOperands(t *testing.T) {
	one, two, x := num(1), num(2), variable("x")
	plus := bin(impl.BinAdd)
	printsExpr(t, nodes(num(0)), "0")
	printsExpr(t, nodes(num(maxWord)), "2147483647")
	printsExpr(t, nodes(x), "x")
	printsExpr(t, nodes(one, index("a")), "a[1]")
	printsExpr(t, nodes(one, two, plus, index("a")), "a[1 + 2]")
	printsExpr(t, nodes(one, index("a"), index("a"), two, plus), "a[a[1]] + 2")
	printsExpr(t, nodes(ask), "in()")
	printsExpr(t, nodes(call("g", 0)), "g()")
	printsExpr(t, nodes(one, two, plus, x, two, either, call("g", 2)), "g(1 + 2, x || 2)")
	printsExpr(t, nodes(one, two, x, one, two, x, call("g", 6)), "g(1, 2, x, 1, 2, x)")
	printsExpr(t, nodes(call("g", 0), call("g", 1), call("g", 1)), "g(g(g()))")
	printsExpr(t, nodes(x, un(impl.UnNeg)), "-x")
	printsExpr(t, nodes(x, un(impl.UnNot), un(impl.UnInv), un(impl.UnNeg), un(impl.UnNeg)), "--~!x")
	printsExpr(t, nodes(one, index("a"), un(impl.UnNot)), "!a[1]")
	printsExpr(t, nodes(call("g", 0), un(impl.UnNot), ask, un(impl.UnInv), plus), "!g() + ~in()")
	printsExpr(t, nodes(x, un(impl.UnNeg), x, un(impl.UnNeg), bin(impl.BinSub)), "-x - -x")
}

// TestPrintBelow0: such numbers are printed, and read again as the negative of a number.
func TestPrintBelow0(t *testing.T) {
	for _, v := range []int64{-1, -10, -2147483647, minWord} {
		digits := strconv.FormatInt(v, 10)
		prints(t, body(impl.Stmt{Kind: impl.SOut, E: nodes(num(v))}), "int f() {\nout("+digits+");\n}\n")
		prints(t, body(impl.Stmt{Kind: impl.SOut, E: nodes(num(v), un(impl.UnNeg))}), "int f() {\nout(-"+digits+");\n}\n")
		prints(t, body(impl.Stmt{Kind: impl.SOut, E: nodes(num(v), num(v), bin(impl.BinSub), num(v), bin(impl.BinMul))}), "int f() {\nout(("+digits+" - "+digits+") * "+digits+");\n}\n")
	}
	parses(t, "int f() {\nout(-10);\n}\n", body(impl.Stmt{Kind: impl.SOut, E: nodes(num(10), un(impl.UnNeg))}))
	refused(t, "int f() {\nout(-2147483648);\n}\n", impl.SynLex, 15)
}

// TestPrintPairs: every operator as the left, the right and the only operand of every other.
func TestPrintPairs(t *testing.T) {
	one, two, three := num(1), num(2), num(3)
	group := func(s string, asked bool) string {
		if asked {
			return "(" + s + ")"
		}
		return s
	}
	for _, outer := range operators {
		for _, inner := range operators {
			left := group("1 "+inner.symbol+" 2", inner.strength < outer.strength)
			printsExpr(t, nodes(one, two, inner.node, three, outer.node), left+" "+outer.symbol+" 3")
			right := group("2 "+inner.symbol+" 3", inner.strength <= outer.strength)
			printsExpr(t, nodes(one, two, three, inner.node, outer.node), "1 "+outer.symbol+" "+right)
		}
		for i, sign := range []string{"-", "!", "~"} {
			u := un(int64(i))
			printsExpr(t, nodes(one, two, outer.node, u), sign+"(1 "+outer.symbol+" 2)")
			printsExpr(t, nodes(one, u, two, u, outer.node), sign+"1 "+outer.symbol+" "+sign+"2")
			printsExpr(t, nodes(one, two, outer.node, u, three, outer.node), sign+"(1 "+outer.symbol+" 2) "+outer.symbol+" 3")
		}
	}
}

// TestPrintLong: trees that are valid and print more than a text may have, or nest deeper.
func TestPrintLong(t *testing.T) {
	var e []impl.Node
	for range impl.NodeMax / 2 {
		e = append(e, variable(strings.Repeat("x", impl.NameMax)))
	}
	for range impl.NodeMax/2 - 1 {
		e = append(e, bin(impl.BinAdd))
	}
	tree := body(impl.Stmt{Kind: impl.SOut, E: e})
	got := string(impl.PrintC(tree))
	x := strings.Repeat("x", impl.NameMax)
	n := impl.NodeMax/2 - 2
	if want := "int f() {\nout(" + deep(x+" + (", n, x+" + "+x, ")") + ");\n}\n"; got != want {
		t.Errorf("printed %d bytes, want %d", len(got), len(want))
	}
	refused(t, got, impl.SynLong, 0)
	signs := append(nodes(num(1)), make([]impl.Node, 40)...)
	for i := range 40 {
		signs[i+1] = un(impl.UnInv)
	}
	tree = body(impl.Stmt{Kind: impl.SOut, E: signs})
	prints(t, tree, "int f() {\nout("+strings.Repeat("~", 40)+"1);\n}\n")
	refused(t, string(impl.PrintC(tree)), impl.SynNest, 14+28)
}
