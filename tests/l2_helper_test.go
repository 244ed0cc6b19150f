package tests

import (
	"fmt"
	"slices"
	"strings"
	"testing"

	"loop.example/s01725/impl"
)

func num(v int64) impl.Node            { return impl.Node{Kind: impl.ENum, Val: v} }
func variable(s string) impl.Node      { return impl.Node{Kind: impl.EVar, Name: s} }
func index(s string) impl.Node         { return impl.Node{Kind: impl.EIndex, Name: s} }
func call(s string, n int64) impl.Node { return impl.Node{Kind: impl.ECall, Name: s, Val: n} }
func un(v int64) impl.Node             { return impl.Node{Kind: impl.EUn, Val: v} }
func bin(v int64) impl.Node            { return impl.Node{Kind: impl.EBin, Val: v} }

var (
	ask    = impl.Node{Kind: impl.EIn}
	both   = impl.Node{Kind: impl.EAnd}
	either = impl.Node{Kind: impl.EOr}
)

func nodes(xs ...impl.Node) []impl.Node { return xs }

// body gives a tree of one function, f, with these statements.
func body(xs ...impl.Stmt) impl.Tree {
	return impl.Tree{Funcs: []impl.Func{{Name: "f", Body: xs}}}
}

func sameStmt(a, b impl.Stmt) bool {
	return a.Kind == b.Kind && a.Name == b.Name && a.Then == b.Then && a.Else == b.Else &&
		slices.Equal(a.E, b.E) && slices.Equal(a.F, b.F)
}

func sameFunc(a, b impl.Func) bool {
	return a.Name == b.Name && slices.Equal(a.Params, b.Params) && slices.EqualFunc(a.Body, b.Body, sameStmt)
}

// sameTree takes an empty list and nil for the same.
func sameTree(a, b impl.Tree) bool {
	return slices.Equal(a.Globals, b.Globals) && slices.EqualFunc(a.Funcs, b.Funcs, sameFunc)
}

func zeroTree(t impl.Tree) bool { return sameTree(t, impl.Tree{}) }

func cloneTree(t impl.Tree) impl.Tree {
	t.Globals = slices.Clone(t.Globals)
	t.Funcs = slices.Clone(t.Funcs)
	for i := range t.Funcs {
		f := &t.Funcs[i]
		f.Params = slices.Clone(f.Params)
		f.Body = slices.Clone(f.Body)
		for j := range f.Body {
			f.Body[j].E = slices.Clone(f.Body[j].E)
			f.Body[j].F = slices.Clone(f.Body[j].F)
		}
	}
	return t
}

// short shows the beginning of a value.
func short(v any) string { return fmt.Sprintf("%.400s", fmt.Sprintf("%+v", v)) }

// parses checks that the text gives this tree.
func parses(t *testing.T, text string, want impl.Tree) {
	t.Helper()
	r := impl.ParseC([]byte(text))
	if r.Err != impl.SynOk || r.At != 0 || !sameTree(r.Tree, want) {
		t.Errorf("%.300q: got %s, want %s", text, short(r), short(want))
	}
}

// refused checks that the text gives this error there, and no tree.
func refused(t *testing.T, text string, err, at int64) {
	t.Helper()
	r := impl.ParseC([]byte(text))
	if r.Err != err || r.At != at || !zeroTree(r.Tree) {
		t.Errorf("%.300q: got error %d at %d, want %d at %d, tree %s", text, r.Err, r.At, err, at, short(r.Tree))
	}
}

func accepted(t *testing.T, text string) {
	t.Helper()
	if r := impl.ParseC([]byte(text)); r.Err != impl.SynOk || r.At != 0 {
		t.Errorf("%.300q: error %d at %d", text, r.Err, r.At)
	}
}

// returning gives a text with e at its place 18.
func returning(e string) string { return "int main(){return " + e + ";}" }

const returnAt = 18

// deep gives left so often, the middle, and right so often.
func deep(left string, n int, middle, right string) string {
	return strings.Repeat(left, n) + middle + strings.Repeat(right, n)
}

// operators are the binary ones, from the weakest to the strongest.
var operators = []struct {
	symbol   string
	strength int
	node     impl.Node
}{
	{"||", 1, either}, {"&&", 2, both}, {"|", 3, bin(impl.BinOr)}, {"^", 4, bin(impl.BinXor)}, {"&", 5, bin(impl.BinAnd)},
	{"==", 6, bin(impl.BinEq)}, {"!=", 6, bin(impl.BinNe)},
	{"<", 7, bin(impl.BinLt)}, {"<=", 7, bin(impl.BinLe)}, {">", 7, bin(impl.BinGt)}, {">=", 7, bin(impl.BinGe)},
	{"<<", 8, bin(impl.BinShl)}, {">>", 8, bin(impl.BinShr)}, {"+", 9, bin(impl.BinAdd)}, {"-", 9, bin(impl.BinSub)},
	{"*", 10, bin(impl.BinMul)}, {"/", 10, bin(impl.BinDiv)}, {"%", 10, bin(impl.BinRem)},
}

var reserved = []string{"int", "if", "else", "while", "return", "in", "out"}

// everyText has every kind of global, statement and node; everyTree is its tree, and
// the text is the tree's print.
const everyText = `int g;
int arr[4000];
int f(int a, int b) {
int x = 0;
x = 2147483647;
g = -a;
arr[!a] = ~b;
if (a < b && x) {
x = a[x] || in();
out(f(1, 2));
}
if (1) {
} else {
while (x) {
x = x - 1;
}
}
if (2) {
return 3;
} else {
return 4;
}
g();
f(a, arr[b * (x + 1)]);
return f(in(), g(), 6);
}
int main() {
}
`

func everyTree() impl.Tree {
	x := variable("x")
	a := variable("a")
	b := variable("b")
	return impl.Tree{
		Globals: []impl.Global{{Name: "g"}, {Name: "arr", Size: 4000}},
		Funcs: []impl.Func{
			{Name: "f", Params: []string{"a", "b"}, Body: []impl.Stmt{
				{Kind: impl.SDecl, Name: "x", E: nodes(num(0))},
				{Kind: impl.SSet, Name: "x", E: nodes(num(2147483647))},
				{Kind: impl.SSet, Name: "g", E: nodes(a, un(impl.UnNeg))},
				{Kind: impl.SStore, Name: "arr", E: nodes(a, un(impl.UnNot)), F: nodes(b, un(impl.UnInv))},
				{Kind: impl.SIf, E: nodes(a, b, bin(impl.BinLt), x, both), Then: 2},
				{Kind: impl.SSet, Name: "x", E: nodes(x, index("a"), ask, either)},
				{Kind: impl.SOut, E: nodes(num(1), num(2), call("f", 2))},
				{Kind: impl.SIf, E: nodes(num(1)), Else: 2},
				{Kind: impl.SWhile, E: nodes(x), Then: 1},
				{Kind: impl.SSet, Name: "x", E: nodes(x, num(1), bin(impl.BinSub))},
				{Kind: impl.SIf, E: nodes(num(2)), Then: 1, Else: 1},
				{Kind: impl.SReturn, E: nodes(num(3))},
				{Kind: impl.SReturn, E: nodes(num(4))},
				{Kind: impl.SCall, E: nodes(call("g", 0))},
				{Kind: impl.SCall, E: nodes(a, b, x, num(1), bin(impl.BinAdd), bin(impl.BinMul), index("arr"), call("f", 2))},
				{Kind: impl.SReturn, E: nodes(ask, call("g", 0), num(6), call("f", 3))},
			}},
			{Name: "main"},
		},
	}
}
