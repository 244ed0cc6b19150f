package tests

import (
	"strconv"
	"strings"
	"testing"

	"loop.example/s01725/impl"
)

// everySound has every kind of global, statement and node, and calls several deep.
const everySound = `int g;
int arr[4000];
int low(int a, int b) {
int x = 0;
x = a - b;
g = -a;
arr[!a] = ~b;
if (a < b && x) {
int y = arr[x] || in();
y = y;
}
if (1) {
} else {
while (x) {
x = x - 1;
}
}
if (2) {
return 3;
} else {
return 4;
}
}
int none() {
low(g, arr[low(1, 2)]);
return low(none_at_all(), in());
}
int none_at_all() {
}
int main() {
out(none() + low(none(), none_at_all()));
none();
return main2(1, 2, 3, 4, 5, 6);
}
int main2(int a, int b, int c, int d, int e, int f) {
return none() + a + b + c + d + e + f;
}
`

func TestSound(t *testing.T) {
	for _, text := range []string{
		everySound, "int main(){}", "int x; int main(){}",
		"int main(){int x = 1; out(x); x = 2;}",
		"int main(){int x = 1; if (x) {out(x);} else {x = 2; while (x) {out(x + x);}}}",
		"int main(){if (1) {int x = 1; if (x) {out(x);} out(x);}}",
		"int main(){if (1) {int x = 1;} if (1) {int y = 1; out(y);} else {int z = 2; out(z);}}",
		"int main(){int x = 1; int y = x; int z = x + y; return z;}",
		"int f(int x){int y = x; return y;} int main(){int x = f(1); int y = f(x); return y;}",
		"int g; int a[1]; int main(){g = a[g]; a[a[0]] = g; return g;}",
	} {
		checks(t, text, sound)
	}
}

// TestTopTwice: of two with one name the second is told, globals being before functions
// wherever they stand in the text.
func TestTopTwice(t *testing.T) {
	for _, r := range []struct {
		text string
		fn   int64
	}{
		{"int x; int x; int main(){}", -1},
		{"int x[1]; int y; int x; int main(){}", -1},
		{"int main(){} int x; int f(){} int x[1];", -1},
		{"int f(){} int f(){} int main(){}", 1},
		{"int f(){} int main(){} int f(int x){}", 2},
		{"int f(){} int g(){} int main(){} int g(){} int f(){}", 3},
		{"int main(){} int main(){}", 1},
		{"int main(){} int main(int x){}", 1},
		{"int main(int x){} int main(){}", 1},
		{"int f; int f(){} int main(){}", 0},
		{"int f(){} int main(){} int f;", 0},
		{"int main(){} int k(){} int f(){} int f;", 2},
		{"int main; int main(){}", 0},
		{"int x; int f; int x; int f(){} int main(){}", -1},
		{"int k(){} int k(){} int f(){} int main(){} int f; int f;", -1},
		{"int f(){} int k(){} int k(){} int f(){} int f[2]; int main(){}", 0},
	} {
		checks(t, r.text, wrong(impl.CkTwice, r.fn, -1))
	}
}

func TestCheckMain(t *testing.T) {
	for _, text := range []string{"", "int x;", "int main;", "int f(){}", "int main_(){}", "int f(){int main = 1;} int k(int main){}", "int main(int x){}", "int f(){} int main(int a, int b, int c, int d, int e, int f){}", "int f(){f();}", "int f(){main();}"} {
		checks(t, text, wrong(impl.CkMain, -1, -1))
	}
}

func TestParamTwice(t *testing.T) {
	for _, r := range []struct {
		text string
		want impl.CheckRes
	}{
		{"int f(int x, int x){} int main(){}", wrong(impl.CkTwice, 0, -1)},
		{"int main(){} int f(int x, int y, int z, int y){}", wrong(impl.CkTwice, 1, -1)},
		{"int x; int f(int x){} int main(){}", wrong(impl.CkTwice, 0, -1)},
		{"int f(int y, int x){} int main(){} int y; int x[3];", wrong(impl.CkTwice, 0, -1)},
		{"int main(){} int f(int a){} int k(int a){} int h(int a, int b, int a){}", wrong(impl.CkTwice, 3, -1)},
		{"int f(int f, int main, int k){return f + main + k;} int k(int k){} int main(){}", sound},
		{"int f(int x){} int k(int x){} int main(){}", sound},
	} {
		checks(t, r.text, r.want)
	}
}

func TestDeclTwice(t *testing.T) {
	twice := func(stmt int64) impl.CheckRes { return wrong(impl.CkTwice, 0, stmt) }
	for _, r := range []struct {
		text string
		want impl.CheckRes
	}{
		{"int main(){int x = 1; int x = 1;}", twice(1)},
		{"int x; int main(){out(1); int x = 1;}", twice(1)},
		{"int x[2]; int main(){out(1); out(2); int x = 1;}", twice(2)},
		{"int main(){int y = 1; int x = 1;} int x;", twice(1)},
		{"int f(int x){int x = 1;} int main(){}", twice(0)},
		{"int f(int y, int x){if (1) {out(y); int x = 1;}} int main(){}", twice(2)},
		{"int main(){if (1) {int x = 1;} int x = 1;}", twice(2)},
		{"int main(){while (1) {int x = 1;} int x = 1;}", twice(2)},
		{"int main(){if (1) {int x = 1;} else {int x = 1;}}", twice(2)},
		{"int main(){if (1) {} else {int x = 1;} int x = 1;}", twice(2)},
		{"int main(){int x = 1; if (1) {int x = 1;}}", twice(2)},
		{"int main(){int x = 1; while (1) {if (2) {} else {int x = 1;}}}", twice(3)},
		{"int main(){if (1) {if (2) {int x = 1;}} while (3) {if (4) {int x = 2;}}}", twice(5)},
		{"int f(){int x = 1;} int main(){int x = 2; int y = x;}", sound},
		{"int f(){} int main(){int f = f(); int main = f; out(f + f() + main);}", sound},
		{"int f(int f){return f;} int main(){int k = f(1);} int k(){return main;} int h(){}", wrong(impl.CkName, 2, 0)},
	} {
		checks(t, r.text, r.want)
	}
}

func TestScopes(t *testing.T) {
	none := func(stmt int64) impl.CheckRes { return wrong(impl.CkName, 0, stmt) }
	for _, r := range []struct {
		text string
		want impl.CheckRes
	}{
		{"int main(){int x = x;}", none(0)},
		{"int main(){int x = 1 + x[0];}", none(0)},
		{"int main(){x = 1; int x = 1;}", none(0)},
		{"int main(){out(x); int x = 1;}", none(0)},
		{"int main(){if (x) {int x = 1;}}", none(0)},
		{"int main(){while (x) {int x = 1;}}", none(0)},
		{"int main(){while (1) {out(x); int x = 1;}}", none(1)},
		{"int main(){if (1) {int x = 1; out(x);} out(x);}", none(3)},
		{"int main(){if (1) {int x = 1;} x = 1;}", none(2)},
		{"int main(){while (1) {int x = 1; x = x;} x[0] = 1;}", none(3)},
		{"int main(){if (1) {int x = 1;} else {out(x);}}", none(2)},
		{"int main(){if (1) {} else {int x = 1; x = 2;} out(x);}", none(3)},
		{"int main(){if (1) {if (2) {int x = 1; out(x);} out(x);}}", none(4)},
		{"int main(){if (1) {int y = 1; if (2) {int x = y; out(x + y);} out(y); out(x);}}", none(6)},
		{"int main(){if (1) {} else {if (2) {} else {int x = 1;} x = 1;}}", none(3)},
		{"int main(){int x = 1; if (x) {x = 2; if (x) {} else {while (x) {x = x;}}} out(x);}", sound},
		{"int main(){if (1) {int x = 1; if (x) {out(x);} else {out(x);} x = x;}}", sound},
		{"int f(int x){} int main(){out(x);}", wrong(impl.CkName, 1, 0)},
		{"int f(){int x = 1; out(x);} int main(){out(1); out(x);}", wrong(impl.CkName, 1, 1)},
		{"int f(int x){if (x) {x = x; return x;} else {return x;}} int main(){out(x);} int x;", wrong(impl.CkTwice, 0, -1)},
		{"int main(){out(x); x = a[x]; a[x] = x;} int x; int a[1];", sound},
	} {
		checks(t, r.text, r.want)
	}
}

// TestUses: each way to use a name with each thing that the name may be.
func TestUses(t *testing.T) {
	uses := []struct {
		before, after string
		array, call   bool
	}{
		{"out(", ");", false, false}, {"out(", "[0]);", true, false}, {"", " = 1;", false, false}, {"", "[0] = 1;", true, false},
		{"out(", "());", false, true}, {"", "();", false, true},
	}
	things := []struct {
		name                    string
		there, array, callables bool
	}{
		{"word", true, false, false}, {"arr", true, true, false}, {"arr1", true, true, false}, {"param", true, false, false}, {"decl", true, false, false},
		{"func", false, false, true}, {"both", true, false, true}, {"bothp", true, false, true}, {"nope", false, false, false},
	}
	for _, u := range uses {
		for _, th := range things {
			want := sound
			switch {
			case u.call && !th.callables, !u.call && !th.there:
				want = wrong(impl.CkName, 0, 2)
			case !u.call && u.array != th.array:
				want = wrong(impl.CkUse, 0, 2)
			}
			text := "int word; int arr[5]; int arr1[1]; int f(int param, int bothp){int decl = 1; int both = 1; " +
				u.before + th.name + u.after + "} int func(){} int both(){} int bothp(){} int main(){}"
			checks(t, text, want)
		}
	}
}

func TestArgs(t *testing.T) {
	params := []string{"", "int a", "int a, int b", "int a, int b, int c", "int a, int b, int c, int d", "int a, int b, int c, int d, int e", "int a, int b, int c, int d, int e, int f"}
	for has, list := range params {
		for given := range params {
			want := sound
			if given != has {
				want = wrong(impl.CkArgs, 1, 1)
			}
			call := "k(" + strings.TrimPrefix(strings.Repeat(", 1", given), ", ") + ")"
			for _, s := range []string{call + ";", "out(" + call + ");", "return 1 + -" + call + ";", "if (" + call + ") {}", "while (" + call + ") {}", "int x = " + call + ";", "arr[0] = " + call + ";", "arr[" + call + "] = 0;"} {
				checks(t, "int arr[1]; int k("+list+"){} int main(){out(0); "+s+"}", want)
			}
		}
	}
}

// TestCheckTree: a tree that is not valid is told before all else.
func TestCheckTree(t *testing.T) {
	good := treeOf(t, everySound)
	if got := impl.CheckC(good); got != sound {
		t.Fatalf("got %+v", got)
	}
	long := impl.Tree{Funcs: make([]impl.Func, impl.FuncMax+1)}
	for i := range long.Funcs {
		long.Funcs[i].Name = "f" + strconv.Itoa(i)
	}
	many := impl.Tree{Globals: make([]impl.Global, impl.GlobMax+1), Funcs: []impl.Func{{Name: "main"}}}
	for i := range many.Globals {
		many.Globals[i].Name = "g" + strconv.Itoa(i)
	}
	bad := []impl.Tree{long, many}
	for _, change := range []func(x *impl.Tree){
		func(x *impl.Tree) { x.Globals[0].Name = "" },
		func(x *impl.Tree) { x.Globals[1].Size = impl.ArrMax + 1 },
		func(x *impl.Tree) { x.Globals[0].Name, x.Globals[1].Size = "arr", -1 },
		func(x *impl.Tree) { x.Funcs[0].Name = "in" },
		func(x *impl.Tree) { x.Funcs[3].Name = "Main" },
		func(x *impl.Tree) { x.Funcs[0].Params[1] = "9" },
		func(x *impl.Tree) { x.Funcs[3].Body[0].E = nil },
		func(x *impl.Tree) { x.Funcs[0].Body[3].F = nil },
		func(x *impl.Tree) { x.Funcs[0].Body[3].Kind = 99 },
		func(x *impl.Tree) { x.Funcs[0].Body[4].Then = 1000 },
		func(x *impl.Tree) { x.Funcs[0].Body[4].Else = -1 },
		func(x *impl.Tree) { x.Funcs[4].Body[0].E[0] = impl.Node{Kind: impl.ECall, Name: "none", Val: -1} },
		func(x *impl.Tree) { x.Funcs[4].Body[0].E[0] = impl.Node{Kind: impl.ECall, Name: "none", Val: 7} },
	} {
		x := cloneTree(good)
		change(&x)
		bad = append(bad, x)
	}
	for i, x := range bad {
		if got := impl.CheckC(x); got != wrong(impl.CkTree, -1, -1) {
			t.Errorf("tree %d: got %+v", i, got)
		}
		for f := range x.Funcs {
			if got := impl.Calls(x, int64(f)); len(got) != 0 {
				t.Errorf("tree %d: function %d calls %v", i, f, got)
			}
		}
	}
}
