package tests

import (
	"slices"
	"strings"
	"testing"

	"loop.example/s01725/impl"
)

func checkValid(t *testing.T, what string, tree impl.Tree, want bool) {
	t.Helper()
	if got := impl.ValidTree(tree); got != want {
		t.Errorf("%s: valid is %v", what, got)
	}
	if print := impl.PrintC(tree); !want && len(print) != 0 {
		t.Errorf("%s: not valid, but prints %.100q", what, print)
	}
}

func TestValidTrees(t *testing.T) {
	checkValid(t, "nothing", impl.Tree{}, true)
	checkValid(t, "everything", everyTree(), true)
	checkValid(t, "an ENum below 0", body(impl.Stmt{Kind: impl.SOut, E: nodes(num(minWord))}), true)
	checkValid(t, "two of one name", impl.Tree{Globals: []impl.Global{{Name: "x"}, {Name: "x"}}}, true)
}

func TestValidNames(t *testing.T) {
	good := []string{"a", "z", "_", "_0", "a9", "int_", "ints", "i", "inn", "outs", "elsewhere", strings.Repeat("x", impl.NameMax), strings.Repeat("_", impl.NameMax)}
	bad := []string{"", "0", "9a", "A", "aB", "a b", " a", "a ", "a-", "é", "a\n", "a\x00", "`", "{", "a/", "a:", strings.Repeat("x", impl.NameMax+1)}
	bad = append(bad, reserved...)
	for want, names := range map[bool][]string{true: good, false: bad} {
		for _, name := range names {
			for where, tree := range treesWithName(name) {
				checkValid(t, where+" "+name, tree, want)
			}
		}
	}
}

// treesWithName gives trees that are valid but for the name.
func treesWithName(name string) map[string]impl.Tree {
	one := nodes(num(1))
	return map[string]impl.Tree{
		"global":    {Globals: []impl.Global{{Name: name}}},
		"function":  {Funcs: []impl.Func{{Name: name}}},
		"parameter": {Funcs: []impl.Func{{Name: "f", Params: []string{"a", name}}}},
		"SDecl":     body(impl.Stmt{Kind: impl.SDecl, Name: name, E: one}),
		"SSet":      body(impl.Stmt{Kind: impl.SSet, Name: name, E: one}),
		"SStore":    body(impl.Stmt{Kind: impl.SStore, Name: name, E: one, F: one}),
		"EVar":      body(impl.Stmt{Kind: impl.SOut, E: nodes(variable(name))}),
		"EIndex":    body(impl.Stmt{Kind: impl.SOut, E: nodes(num(1), index(name))}),
		"ECall":     body(impl.Stmt{Kind: impl.SOut, E: nodes(call(name, 0))}),
	}
}

func TestValidSizes(t *testing.T) {
	for size, want := range map[int64]bool{0: true, 1: true, impl.ArrMax - 1: true, impl.ArrMax: true, impl.ArrMax + 1: false, -1: false, 1 << 40: false, -1 << 63: false} {
		checkValid(t, "size", impl.Tree{Globals: []impl.Global{{Name: "a", Size: size}}}, want)
	}
}

func TestValidCounts(t *testing.T) {
	counts := []struct {
		what string
		most int
		tree func(n int) impl.Tree
	}{
		{"globals", impl.GlobMax, func(n int) impl.Tree {
			return impl.Tree{Globals: slices.Repeat([]impl.Global{{Name: "g"}}, n)}
		}},
		{"functions", impl.FuncMax, func(n int) impl.Tree {
			return impl.Tree{Funcs: slices.Repeat([]impl.Func{{Name: "f"}}, n)}
		}},
		{"parameters", impl.ArgMax, func(n int) impl.Tree {
			return impl.Tree{Funcs: []impl.Func{{Name: "f", Params: slices.Repeat([]string{"a"}, n)}}}
		}},
		{"statements", impl.StmtMax, func(n int) impl.Tree {
			return body(slices.Repeat([]impl.Stmt{{Kind: impl.SOut, E: nodes(num(1))}}, n)...)
		}},
		{"arguments", impl.ArgMax, func(n int) impl.Tree {
			return body(impl.Stmt{Kind: impl.SOut, E: append(slices.Repeat(nodes(num(1)), n), call("f", int64(n)))})
		}},
		{"nodes of one statement", impl.NodeMax, func(n int) impl.Tree {
			return body(impl.Stmt{Kind: impl.SOut, E: append(nodes(num(1)), slices.Repeat(nodes(un(0)), n-1)...)})
		}},
		{"nodes of E and F", impl.NodeMax, func(n int) impl.Tree {
			half := append(nodes(num(1)), slices.Repeat(nodes(un(0)), impl.NodeMax/2-1)...)
			rest := append(nodes(num(1)), slices.Repeat(nodes(un(0)), n-impl.NodeMax/2-1)...)
			return body(impl.Stmt{Kind: impl.SStore, Name: "a", E: half, F: rest})
		}},
		{"nodes of several statements", impl.NodeMax, func(n int) impl.Tree {
			tree := body(slices.Repeat([]impl.Stmt{{Kind: impl.SOut, E: append(nodes(num(1)), slices.Repeat(nodes(un(0)), 9)...)}}, impl.NodeMax/10)...)
			last := &tree.Funcs[0].Body[7]
			last.E = append(slices.Clone(last.E), slices.Repeat(nodes(un(1)), n-impl.NodeMax)...)
			return tree
		}},
	}
	for _, c := range counts {
		checkValid(t, c.what, c.tree(c.most), true)
		checkValid(t, c.what+" and one more", c.tree(c.most+1), false)
	}
	full := counts[5].tree(impl.NodeMax).Funcs[0]
	checkValid(t, "the most nodes, twice", impl.Tree{Funcs: []impl.Func{full, full}}, true)
}

func TestValidNodes(t *testing.T) {
	one, two := num(1), num(2)
	rows := []struct {
		want bool
		e    []impl.Node
	}{
		{true, nodes(num(minWord))}, {true, nodes(num(maxWord))}, {false, nodes(num(minWord - 1))}, {false, nodes(num(maxWord + 1))}, {false, nodes(num(1 << 40))},
		{false, nodes(impl.Node{Kind: impl.ENum, Name: "x"})},
		{false, nodes(impl.Node{Kind: impl.EVar, Name: "x", Val: 1})}, {false, nodes(impl.Node{Kind: impl.EVar, Name: "x", Val: -1})},
		{false, nodes(one, impl.Node{Kind: impl.EIndex, Name: "x", Val: 1})},
		{false, nodes(call("f", -1))}, {true, nodes(call("f", 0))}, {false, nodes(call("f", 1))}, {true, nodes(one, call("f", 1))}, {false, nodes(one, call("f", 0))},
		{false, nodes(one, two, call("f", 1))}, {false, nodes(call("f", 1<<40))}, {false, nodes(call("f", -1<<63))},
		{true, nodes(ask)}, {false, nodes(impl.Node{Kind: impl.EIn, Val: 1})}, {false, nodes(impl.Node{Kind: impl.EIn, Name: "x"})}, {false, nodes(one, ask)},
		{true, nodes(one, un(0))}, {true, nodes(one, un(2))}, {false, nodes(one, un(3))}, {false, nodes(one, un(-1))}, {false, nodes(un(0))}, {false, nodes(one, impl.Node{Kind: impl.EUn, Name: "x"})},
		{true, nodes(one, two, bin(0))}, {true, nodes(one, two, bin(15))}, {false, nodes(one, two, bin(16))}, {false, nodes(one, two, bin(-1))}, {false, nodes(one, bin(0))}, {false, nodes(bin(0))}, {false, nodes(one, two, impl.Node{Kind: impl.EBin, Name: "x"})},
		{true, nodes(one, two, both)}, {false, nodes(one, both)}, {false, nodes(one, two, impl.Node{Kind: impl.EAnd, Val: 1})}, {false, nodes(one, two, impl.Node{Kind: impl.EAnd, Name: "x"})},
		{true, nodes(one, two, either)}, {false, nodes(one, either)}, {false, nodes(one, two, impl.Node{Kind: impl.EOr, Val: 1})}, {false, nodes(one, two, impl.Node{Kind: impl.EOr, Name: "x"})},
		{false, nil}, {false, nodes()}, {false, nodes(one, two)}, {false, nodes(one, two, one, bin(0))}, {false, nodes(index("a"))}, {false, nodes(one, bin(0), two)},
		{false, nodes(impl.Node{})}, {false, nodes(impl.Node{Kind: 10})}, {false, nodes(impl.Node{Kind: -1})}, {false, nodes(impl.Node{Kind: 1 << 40})}, {false, nodes(impl.Node{Kind: -1 << 63})},
		{true, nodes(one, two, bin(3), one, un(1), both)}, {false, nodes(one, un(1), both, two, bin(3))},
	}
	for _, r := range rows {
		checkValid(t, "SOut", body(impl.Stmt{Kind: impl.SOut, E: r.e}), r.want)
		checkValid(t, "SStore's E", body(impl.Stmt{Kind: impl.SStore, Name: "a", E: r.e, F: nodes(one)}), r.want)
		checkValid(t, "SStore's F", body(impl.Stmt{Kind: impl.SStore, Name: "a", E: nodes(one), F: r.e}), r.want)
		for _, kind := range []int64{impl.SIf, impl.SWhile, impl.SReturn} {
			checkValid(t, "another statement", body(impl.Stmt{Kind: kind, E: r.e}), r.want)
		}
		for _, kind := range []int64{impl.SDecl, impl.SSet} {
			checkValid(t, "a statement with a name", body(impl.Stmt{Kind: kind, Name: "x", E: r.e}), r.want)
		}
		isCall := len(r.e) > 0 && r.e[len(r.e)-1].Kind == impl.ECall
		checkValid(t, "SCall", body(impl.Stmt{Kind: impl.SCall, E: r.e}), r.want && isCall)
	}
}

// TestValidFields sets each field that a statement does not have.
func TestValidFields(t *testing.T) {
	one := nodes(num(1))
	statements := []impl.Stmt{
		{Kind: impl.SDecl, Name: "x", E: one}, {Kind: impl.SSet, Name: "x", E: one}, {Kind: impl.SStore, Name: "x", E: one, F: one},
		{Kind: impl.SIf, E: one}, {Kind: impl.SWhile, E: one}, {Kind: impl.SReturn, E: one}, {Kind: impl.SOut, E: one}, {Kind: impl.SCall, E: nodes(call("f", 0))},
	}
	filler := impl.Stmt{Kind: impl.SOut, E: one}
	for _, s := range statements {
		valid := func(what string, s impl.Stmt, want bool) {
			t.Helper()
			checkValid(t, what, body(s, filler), want)
		}
		valid("plain", s, true)
		named := s.Kind <= impl.SStore
		changed := s
		changed.Name = "x"
		valid("Name", changed, named)
		changed = s
		changed.Name = ""
		valid("no Name", changed, !named)
		changed = s
		changed.F = one
		valid("F", changed, s.Kind == impl.SStore)
		changed = s
		changed.Then = 1
		valid("Then", changed, s.Kind == impl.SIf || s.Kind == impl.SWhile)
		changed = s
		changed.Else = 1
		valid("Else", changed, s.Kind == impl.SIf)
		for _, kind := range []int64{0, 9, -1, 1 << 40, -1 << 63} {
			changed = s
			changed.Kind = kind
			valid("Kind", changed, false)
		}
	}
}

func TestValidBlocks(t *testing.T) {
	one := nodes(num(1))
	choose := func(then, other int64) impl.Stmt {
		return impl.Stmt{Kind: impl.SIf, E: one, Then: then, Else: other}
	}
	loop := func(then int64) impl.Stmt { return impl.Stmt{Kind: impl.SWhile, E: one, Then: then} }
	out := impl.Stmt{Kind: impl.SOut, E: one}
	rows := []struct {
		what  string
		want  bool
		stmts []impl.Stmt
	}{
		{"empty blocks", true, []impl.Stmt{choose(0, 0), loop(0)}},
		{"to the end", true, []impl.Stmt{choose(1, 1), out, out}},
		{"then beyond the body", false, []impl.Stmt{choose(3, 0), out, out}},
		{"else beyond the body", false, []impl.Stmt{choose(1, 2), out, out}},
		{"only else beyond", false, []impl.Stmt{choose(0, 3), out, out}},
		{"while beyond", false, []impl.Stmt{out, loop(1)}},
		{"inner to the end of then", true, []impl.Stmt{choose(2, 1), loop(1), out, out}},
		{"inner beyond then, into else", false, []impl.Stmt{choose(2, 1), loop(2), out, out}},
		{"inner beyond else", false, []impl.Stmt{choose(1, 2), out, loop(2), out, out}},
		{"inner beyond while", false, []impl.Stmt{loop(1), loop(1), out}},
		{"inner else beyond while", false, []impl.Stmt{loop(2), choose(1, 1), out, out}},
		{"then below 0", false, []impl.Stmt{choose(-1, 0), out}},
		{"else below 0", false, []impl.Stmt{choose(1, -1), out}},
		{"then below 0, made good by else", false, []impl.Stmt{choose(-1, 2), out, out}},
		{"while below 0", false, []impl.Stmt{loop(-1), out}},
		{"a sum that wraps", false, []impl.Stmt{choose(1<<62, 1<<62), out}},
		{"a sum that wraps to 0", false, []impl.Stmt{choose(-1<<63, -1<<63), out}},
		{"the largest", false, []impl.Stmt{choose(1<<63-1, 1), out}},
		{"the largest else", false, []impl.Stmt{choose(1, 1<<63-1), out}},
	}
	for _, r := range rows {
		checkValid(t, r.what, body(r.stmts...), r.want)
	}
	var nest []impl.Stmt
	for i := range int64(impl.StmtMax) {
		nest = append(nest, loop(impl.StmtMax-1-i))
	}
	checkValid(t, "the deepest nest", body(nest...), true)
	nest[impl.StmtMax-1].Then = 1
	checkValid(t, "one deeper", body(nest...), false)
}

// TestValidAnywhere puts what is not valid behind what is.
func TestValidAnywhere(t *testing.T) {
	tree := everyTree()
	tree.Globals = append(tree.Globals, impl.Global{Name: "b", Size: -1})
	checkValid(t, "the last global", tree, false)
	tree = everyTree()
	tree.Funcs = append(tree.Funcs, impl.Func{Name: "f", Body: []impl.Stmt{{}}})
	checkValid(t, "the last function", tree, false)
	for i := range everyTree().Funcs[0].Body {
		tree = everyTree()
		tree.Funcs[0].Body[i].E = nil
		checkValid(t, "a statement", tree, false)
	}
}
