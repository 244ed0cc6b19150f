package tests

import (
	"slices"
	"strconv"
	"strings"
	"testing"

	"loop.example/s01725/impl"
)

// graphText gives functions f0, f1 .. of which each calls those that it is said to; the
// one with the number main has the name main.
func graphText(calls [][]int, main int) string {
	name := func(f int) string {
		if f == main {
			return "main"
		}
		return "f" + strconv.Itoa(f)
	}
	var text strings.Builder
	for f, list := range calls {
		text.WriteString("int " + name(f) + "() {\n")
		for _, g := range list {
			text.WriteString("out(" + name(g) + "());\n")
		}
		text.WriteString("}\n")
	}
	return text.String()
}

func TestCircles(t *testing.T) {
	circle := func(fn int64) impl.CheckRes { return wrong(impl.CkRecursive, fn, -1) }
	for _, r := range []struct {
		calls [][]int
		main  int
		want  impl.CheckRes
	}{
		{[][]int{{0}}, 0, circle(0)},
		{[][]int{{0}, {0}}, 1, circle(0)},
		{[][]int{{}, {1}}, 0, sound},
		{[][]int{{0}, {}}, 1, sound},
		{[][]int{{1}, {0}, {0}}, 2, circle(0)},
		{[][]int{{1}, {0}, {}}, 2, sound},
		{[][]int{{}, {2}, {3}, {1}}, 0, sound},
		{[][]int{{2}, {2}, {3}, {1}}, 0, circle(1)},
		{[][]int{{1}, {2}, {0}}, 0, circle(0)},
		{[][]int{{1}, {2}, {0}}, 1, circle(0)},
		{[][]int{{1}, {2}, {0}}, 2, circle(0)},
		// What leads into a circle is not of it, and what a circle leads to is not.
		{[][]int{{1}, {2}, {2}}, 0, circle(2)},
		{[][]int{{}, {2, 0}, {1, 0}, {1}}, 3, circle(1)},
		{[][]int{{}, {0, 2}, {3}, {4}, {3}}, 1, circle(3)},
		// Several circles: the smallest number, though another is come to first, or
		// though a smaller one cannot be come to.
		{[][]int{{0}, {4, 2}, {2}, {3}, {4}}, 1, circle(2)},
		{[][]int{{1}, {0}, {4, 3}, {3}, {4}}, 2, circle(3)},
		{[][]int{{1, 0}, {2}, {3, 2}, {3}}, 3, circle(3)},
		// Two ways to one function are no circle.
		{[][]int{{}, {0}, {0, 1}, {2, 1, 0}}, 3, sound},
	} {
		checks(t, graphText(r.calls, r.main), r.want)
	}
}

// TestCirclePlaces: a call counts wherever it stands, also where it is never run.
func TestCirclePlaces(t *testing.T) {
	for _, s := range []string{
		"main();", "out(main());", "return 1 + main();", "int x = -main();", "g = arr[main()];", "arr[main()] = 1;", "arr[1] = main();",
		"if (main()) {}", "while (main()) {}", "if (0) {main();}", "if (1) {} else {main();}", "while (0) {out(main());}", "return 0; main();", "out(0 && main());", "out(k(1, main()));",
	} {
		checks(t, "int g; int arr[1]; int k(int a, int b){} int main(){out(0); "+s+"}", wrong(impl.CkRecursive, 1, -1))
	}
	checks(t, "int f(int main){return main;} int main(){int f = f(1); return f;}", sound)
}

// TestAllGraphs goes through all calls among three functions, and many among more.
func TestAllGraphs(t *testing.T) {
	for bits := range 1 << 9 {
		calls := make([][]int, 3)
		for i := range 9 {
			if bits>>i&1 == 1 {
				calls[i/3] = append(calls[i/3], i%3)
			}
		}
		for main := range 3 {
			checkAgainst(t, treeOf(t, graphText(calls, main)))
		}
	}
	n := &numbers{37}
	for range 600 {
		count := 4 + n.below(9)
		calls := make([][]int, count)
		for range n.below(2 * count) {
			from := n.below(count)
			calls[from] = append(calls[from], int(n.below(count)))
		}
		checkAgainst(t, treeOf(t, graphText(calls, int(n.below(count)))))
	}
}

// TestLongChain: calls as deep as there may be functions, and a circle of all of them.
func TestLongChain(t *testing.T) {
	calls := make([][]int, impl.FuncMax)
	for f := range calls[1:] {
		calls[f] = []int{f + 1}
	}
	last := impl.FuncMax - 1
	checks(t, graphText(calls, 0), sound)
	calls[last] = []int{last}
	checks(t, graphText(calls, 0), wrong(impl.CkRecursive, int64(last), -1))
	calls[last] = []int{0}
	for _, main := range []int{0, 20, last} {
		checks(t, graphText(calls, main), wrong(impl.CkRecursive, 0, -1))
	}
	for f := range calls {
		calls[f] = nil
		for g := last; g >= 0 && f%2 == 1; g-- {
			calls[f] = append(calls[f], g)
		}
	}
	checks(t, graphText(calls, last), wrong(impl.CkRecursive, 1, -1))
	if got := impl.Calls(treeOf(t, graphText(calls, last)), 7); len(got) != impl.FuncMax || !slices.IsSorted(got) {
		t.Errorf("function 7 calls %v", got)
	}
}

// TestCalls: numbers ascending, each once; what is no function is passed over.
func TestCalls(t *testing.T) {
	const funcs = "int arr[9]; int v; int a(){} int b(){} int c(){} int d(){} int main(){"
	for _, r := range []struct {
		body string
		want []int64
	}{
		{"", nil},
		{"out(1);", nil},
		{"d(); c(); b(); a();", []int64{0, 1, 2, 3}},
		{"d(); a(); d(); a();", []int64{0, 3}},
		{"d(c(b(a())));", []int64{0, 1, 2, 3}},
		{"nope(c(nope(1), 2));", []int64{2}},
		{"nope(); v(); arr();", nil},
		{"main();", []int64{4}},
		{"v = a;", nil},
		{"a = 1; b[1] = 2; int c = d;", nil},
		{"out(a[1] + b + c[d]);", nil},
		{"int x = b();", []int64{1}},
		{"v = b();", []int64{1}},
		{"arr[b()] = 1;", []int64{1}},
		{"arr[1] = b();", []int64{1}},
		{"arr[c()] = a();", []int64{0, 2}},
		{"if (b()) {}", []int64{1}},
		{"if (b()) {c();} else {a();}", []int64{0, 1, 2}},
		{"while (d()) {while (1) {return b();}}", []int64{1, 3}},
		{"return !b();", []int64{1}},
		{"out(-~b());", []int64{1}},
		{"out(0 && b() || 1 || c());", []int64{1, 2}},
		{"out(arr[b()] + arr[arr[a(1, 2, 3)]]);", []int64{0, 1}},
		{"if (0) {return 1; d();}", []int64{3}},
	} {
		tree := treeOf(t, funcs+r.body+"}")
		if got := impl.Calls(tree, 4); !slices.Equal(got, r.want) {
			t.Errorf("%q: got %v, want %v", r.body, got, r.want)
		}
		for _, f := range []int64{-1, 5, 6, minWord, -1 << 63, 1<<63 - 1, 0, 3} {
			if got := impl.Calls(tree, f); len(got) != 0 {
				t.Errorf("%q: function %d calls %v", r.body, f, got)
			}
		}
	}
}

// TestCallsOfOneName: of two functions with one name the first is the one that is called.
func TestCallsOfOneName(t *testing.T) {
	tree := treeOf(t, "int f; int k(){f();} int f(){k();} int f(int x){f(); k(); f(1, 2);} int k(){}")
	for f, want := range [][]int64{{1}, {0}, {0, 1}, {}} {
		if got := impl.Calls(tree, int64(f)); !slices.Equal(got, want) {
			t.Errorf("function %d calls %v, not %v", f, got, want)
		}
	}
	if got := impl.Calls(impl.Tree{}, 0); len(got) != 0 {
		t.Errorf("the empty tree: %v", got)
	}
}

// TestCallsOfAnyTree holds Calls against a search of its own, for trees that are valid
// but hardly ever sound.
func TestCallsOfAnyTree(t *testing.T) {
	g := newGrowth(41)
	for range 1500 {
		checkAgainst(t, g.tree())
	}
}

func TestCheckSharesNothing(t *testing.T) {
	bad := everyTree()
	bad.Funcs[0].Body[15].Then = 1
	for i, tree := range []impl.Tree{{}, everyTree(), treeOf(t, everySound), bad, treeOf(t, "int main(){main(); int x = x;}")} {
		given := roomyTree(tree)
		before := cloneTree(wholeTree(given))
		told := impl.CheckC(given)
		for f := range int64(len(tree.Funcs)) + 1 {
			first := impl.Calls(given, f)
			kept := slices.Clone(first)
			scribble(impl.Calls(given, f), 99)
			if !slices.Equal(first, kept) || !slices.Equal(impl.Calls(given, f), kept) {
				t.Errorf("tree %d: two answers of Calls share memory or differ", i)
			}
		}
		if !sameTree(wholeTree(given), before) || impl.CheckC(given) != told {
			t.Errorf("tree %d: the tree was written into", i)
		}
	}
}
