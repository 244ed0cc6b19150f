package tests

import (
	"slices"
	"testing"

	"loop.example/s01725/impl"
)

// roomyTree gives the same tree with spare room behind every list.
func roomyTree(t impl.Tree) impl.Tree {
	t = cloneTree(t)
	t.Globals = roomy(t.Globals, impl.Global{Name: "spare"})
	for i := range t.Funcs {
		f := &t.Funcs[i]
		for j := range f.Body {
			f.Body[j].E = roomy(f.Body[j].E, num(99))
			f.Body[j].F = roomy(f.Body[j].F, num(99))
		}
		f.Params = roomy(f.Params, "spare")
		f.Body = roomy(f.Body, impl.Stmt{Kind: 99})
	}
	t.Funcs = roomy(t.Funcs, impl.Func{Name: "spare"})
	return t
}

// wholeTree gives the values of all lists of a tree and of the room behind them.
func wholeTree(t impl.Tree) impl.Tree {
	t.Globals = whole(t.Globals)
	t.Funcs = whole(t.Funcs)
	for i := range t.Funcs {
		f := &t.Funcs[i]
		f.Params = whole(f.Params)
		f.Body = whole(f.Body)
		for j := range f.Body {
			f.Body[j].E = whole(f.Body[j].E)
			f.Body[j].F = whole(f.Body[j].F)
		}
	}
	return t
}

// scribbleTree writes another node into each expression of a tree, up to its capacity,
// and so on with its other lists; a list that is not as it was written shares memory.
func scribbleTree(t *testing.T, tree impl.Tree) {
	t.Helper()
	mark := int64(1000)
	each := func(visit func(e []impl.Node)) {
		for _, f := range tree.Funcs {
			for _, s := range f.Body {
				visit(s.E)
				visit(s.F)
			}
		}
	}
	each(func(e []impl.Node) { mark++; scribble(e, num(mark)) })
	for i, f := range tree.Funcs {
		scribble(f.Params, string(rune('A'+i)))
	}
	mark = 1000
	each(func(e []impl.Node) {
		mark++
		if slices.ContainsFunc(e[:cap(e)], func(n impl.Node) bool { return n != num(mark) }) {
			t.Errorf("two expressions share memory")
		}
	})
	for i, f := range tree.Funcs {
		if slices.ContainsFunc(f.Params, func(s string) bool { return s != string(rune('A'+i)) }) {
			t.Errorf("two lists of parameters share memory")
		}
		scribble(f.Body, impl.Stmt{Kind: int64(2000 + i)})
	}
	for i, f := range tree.Funcs {
		if slices.ContainsFunc(f.Body, func(s impl.Stmt) bool { return s.Kind != int64(2000+i) }) {
			t.Errorf("two bodies share memory")
		}
	}
	scribble(tree.Globals, impl.Global{Name: "G"})
	scribble(tree.Funcs, impl.Func{Name: "F"})
}

func TestParseSharesNothing(t *testing.T) {
	texts := []string{"", everyText, everyText + everyText, "int f(){x=1;y=2;a[1]=2;f(1,2);if(1){out(1);}}int g(int a){}int h(int a,int b){}", "int x;$", "int f(){", "int a[0];", "int f(){return ((((((((1))))))))+f(1,2,3,4,5,6,7);}"}
	for _, s := range texts {
		text := roomy([]byte(s), '?')
		before := whole(text)
		first := impl.ParseC(text)
		kept := cloneTree(first.Tree)
		scribbleTree(t, impl.ParseC(text).Tree)
		if !slices.Equal(whole(text), before) {
			t.Errorf("%q: the text was written into", s)
		}
		if !sameTree(first.Tree, kept) {
			t.Errorf("%q: two answers share memory", s)
		}
		scribble(text, '$')
		if !sameTree(first.Tree, kept) {
			t.Errorf("%q: the tree shares memory with the text", s)
		}
		if first.Err != impl.SynOk && !zeroTree(first.Tree) {
			t.Errorf("%q: a tree beside an error", s)
		}
	}
}

func TestPrintSharesNothing(t *testing.T) {
	bad := everyTree()
	bad.Funcs[0].Body[15].Then = 1
	for _, tree := range []impl.Tree{{}, everyTree(), bad} {
		given := roomyTree(tree)
		before := cloneTree(wholeTree(given))
		valid := impl.ValidTree(given)
		first := impl.PrintC(given)
		kept := slices.Clone(first)
		scribble(impl.PrintC(given), '$')
		if !sameTree(wholeTree(given), before) {
			t.Errorf("the tree was written into")
		}
		if !slices.Equal(first, kept) || !slices.Equal(impl.PrintC(given), kept) {
			t.Errorf("two prints share memory or differ")
		}
		if impl.ValidTree(given) != valid {
			t.Errorf("the second answer of ValidTree is another")
		}
		if valid {
			scribbleTree(t, given)
			if !slices.Equal(first, kept) {
				t.Errorf("the print shares memory with the tree")
			}
		}
	}
}
