package tests

import (
	"fmt"
	"slices"
	"strings"
	"testing"

	"loop.example/s01725/impl"
)

// declarations gives so many declarations, each of which needs one place.
func declarations(n int) string {
	var text strings.Builder
	for i := range n {
		text.WriteString("int v" + name2(i) + "=1;")
	}
	return text.String()
}

// needs checks how many places a main with these statements has. Declarations beside
// them bring the sum up to each remainder by 16, so that one place more or less is seen.
func needs(t *testing.T, stmts string, places int64) {
	t.Helper()
	for extra := range 4 {
		text := "int g;int a[3];int f0(){}int f1(int p){}int f2(int p,int q){}int f3(int p,int q,int r){}int f6(int p,int q,int r,int s,int u,int w){}" +
			"int main(){" + stmts + declarations(extra) + "}"
		tree := treeOf(t, text)
		frames := impl.Frames(tree)
		want := 4 * (int64(strings.Count(stmts, "int ")+extra) + max(places, int64(min(extra, 1))) + 1)
		want = (want + 15) / 16 * 16
		if len(frames) != 6 || frames[5] != want {
			t.Errorf("%s with %d declarations: frames %d, want %d", stmts, extra, frames, want)
		}
	}
}

func TestNeedOfNodes(t *testing.T) {
	rows := []struct {
		e      string
		places int64
	}{
		{"1", 1}, {"g", 1}, {"in()", 1}, {"a[1]", 1}, {"-1", 1}, {"!g", 1}, {"~in()", 1}, {"f0()", 1}, {"1&&1", 1}, {"1||1", 1}, {"a[a[a[1]]]", 1}, {"-!~-g", 1},
		{"1+1", 2}, {"1*1", 2}, {"1|1", 2}, {"1<=1", 2}, {"1+1+1+1+1", 2}, {"1+(1+1)", 3}, {"1+(1+(1+1))", 4}, {"(1+1)*(1+1)", 3}, {"(1+(1+1))+1", 3}, {"1+(1+1+1)+1", 3}, {"g-(g<(in()>>(1+1)))", 5},
		{"a[1+1]", 2}, {"a[1+(1+1)]", 3}, {"1+a[1+1]", 3}, {"a[1]+1", 2}, {"-(1+1)", 2}, {"-(1+(1+1))", 3}, {"1-(-(1+1))", 3},
		{"1&&1&&1", 1}, {"1&&(1&&(1||1))", 1}, {"1&&1+1", 2}, {"1+1&&1", 2}, {"1+1||1", 2}, {"1||1+1", 2}, {"1||(1+(1+1))", 3}, {"(1+(1+1))&&1", 3}, {"1+(1&&1)", 2}, {"1+(1||(1+1))", 3}, {"(1&&1)+1", 2},
		{"f1(1)", 1}, {"f2(1,1)", 2}, {"f3(1,1,1)", 3}, {"f6(1,1,1,1,1,1)", 6}, {"f1(1+1)", 2}, {"f2(1+1,1)", 2}, {"f2(1,1+1)", 3}, {"f2(1+(1+1),1)", 3}, {"f3(1+(1+(1+1)),1,1)", 4}, {"f3(1,1+(1+(1+1)),1)", 5}, {"f3(1,1,1+1)", 4},
		{"1+f0()", 2}, {"f0()+1", 2}, {"1+f1(1)", 2}, {"1+f2(1,1)", 3}, {"f2(1,1)+1", 2}, {"1+(1+f6(1,1,1,1,1,1))", 8}, {"f2(f0(),f0())", 2}, {"f2(f2(1,1),1)", 2}, {"f2(1,f2(1,1))", 3}, {"f2(f3(1,1,1),f2(1,1))", 3}, {"f1(f1(f1(f2(1,1))))", 2}, {"a[f2(1,g)]", 2}, {"f2(a[1+1],1&&(1+1))", 3},
	}
	for _, r := range rows {
		for _, s := range []string{"out(X);", "return X;", "g=X;", "int x=X;", "if(X){}", "if(X){}else{g=1;}", "while(X){}", "a[X]=1;", "f1(X);", "if(1){out(X);}", "if(1){}else{out(X);}", "while(1){if(g){return X;}}"} {
			places := r.places
			if strings.HasSuffix(s, "=1;") && strings.HasPrefix(s, "a") {
				places = max(places, 2)
			}
			needs(t, strings.Replace(s, "X", r.e, 1), places)
		}
		needs(t, "a[1]="+r.e+";", r.places+1)
		needs(t, "out(1+("+r.e+"));", r.places+1)
		needs(t, "f2(1,"+r.e+");", r.places+1)
		needs(t, "out("+r.e+");out(1+(1+1));a[1]=1;", max(r.places, 3))
		needs(t, "a[1]=1;out(1+(1+1));out("+r.e+");", max(r.places, 3))
	}
	needs(t, "", 0)
	needs(t, "f0();", 1)
	needs(t, "a[1+(1+1)]=1;", 3)
	needs(t, "a[1+(1+(1+(1+1)))]=1+(1+1);", 5)
}

func TestFramesOfParametersAndDeclarations(t *testing.T) {
	rows := []struct {
		f     string
		frame int64
	}{
		{"int f(){}", 16}, {"int f(int a){}", 16}, {"int f(int a,int b,int c){}", 16}, {"int f(int a,int b,int c,int d){}", 32}, {"int f(int a,int b,int c,int d,int e,int k){}", 32},
		{"int f(){int x=1;}", 16}, {"int f(){int x=1;int y=1;}", 16}, {"int f(){int x=1;int y=1;int z=1;}", 32}, {"int f(){out(1);}", 16}, {"int f(){out(1+(1+1));}", 16}, {"int f(){out(1+(1+(1+1)));}", 32},
		{"int f(int a){int x=1;}", 16}, {"int f(int a,int b){int x=1;}", 32}, {"int f(int a){int x=1+1;}", 32}, {"int f(int a,int b,int c,int d,int e,int k){int x=1;int y=1;int z=1+(1+(1+(1+(1+(1+1)))));}", 80},
		{"int f(int a,int b,int c,int d,int e,int k){int x=1;int y=1;int z=1+(1+(1+(1+1)));}", 64}, {"int f(int a,int b,int c,int d,int e,int k){int x=1;int y=1;int z=1+(1+(1+(1+(1+1))));}", 64},
		{"int f(){if(1){int x=1;}else{int y=1;}while(1){int z=1;}}", 32}, {"int f(){if(1){if(1){int x=1;}}return 0;int y=2;int z=3;}", 32}, {"int f(){x=1;x=2;return x;}int x;", 16},
	}
	for _, r := range rows {
		got := impl.Frames(treeOf(t, r.f+"int main(){}"))
		if !slices.Equal(got, []int64{r.frame, 16}) {
			t.Errorf("%s: frames %d, want %d", r.f, got, r.frame)
		}
		if got := impl.Frames(treeOf(t, "int main(){}"+r.f)); !slices.Equal(got, []int64{16, r.frame}) {
			t.Errorf("behind main %s: frames %d, want %d", r.f, got, r.frame)
		}
	}
}

// leaning gives an expression that needs so many places.
func leaning(places int) []impl.Node {
	return append(slices.Repeat(nodes(num(1)), places), slices.Repeat(nodes(bin(impl.BinAdd)), places-1)...)
}

// wideFunc gives a function of so many parameters, declarations and places.
func wideFunc(name string, params, decls, places int) impl.Func {
	f := impl.Func{Name: name}
	for i := range params {
		f.Params = append(f.Params, "p"+name2(i))
	}
	for i := range decls {
		f.Body = append(f.Body, impl.Stmt{Kind: impl.SDecl, Name: "v" + name2(i), E: nodes(num(1))})
	}
	e := leaning(places)
	if decls > 0 {
		f.Body[decls-1].E = e
	} else {
		f.Body = append(f.Body, impl.Stmt{Kind: impl.SOut, E: e})
	}
	return f
}

func TestFramesAtFrameMax(t *testing.T) {
	for _, r := range [][3]int{{0, 0, 507}, {0, 500, 7}, {0, 1, 506}, {0, 250, 257}, {0, 404, 103}, {6, 0, 501}, {6, 500, 1}, {6, 494, 7}, {3, 400, 104}} {
		for more := -4; more <= 8; more++ {
			words := int64(508 + more)
			if r[2]+more < 1 {
				continue
			}
			frame := (4*words + 15) / 16 * 16
			wide := wideFunc("f", r[0], r[1], r[2]+more)
			tree := impl.Tree{Funcs: []impl.Func{wide, {Name: "main"}}}
			call := append(slices.Repeat(nodes(num(1)), r[0]), call("f", int64(r[0])))
			tree.Funcs[1].Body = []impl.Stmt{{Kind: impl.SCall, E: call}}
			main := wantFrame(tree.Funcs[1])
			if got := impl.Frames(tree); !slices.Equal(got, []int64{frame, main}) {
				t.Errorf("%d and %d: frames %d, want %d and %d", r, more, got, frame, main)
			}
			want := frame + main
			if more > 0 {
				want = -1
			}
			if got := impl.Bound(tree); got != want {
				t.Errorf("%d and %d: bound %d, want %d", r, more, got, want)
			}
			if got := len(impl.Gen(tree)) > 0; got != (more <= 0) {
				t.Errorf("%d and %d: items %v", r, more, got)
			}
			// Also where main does not come to it.
			tree.Funcs[1].Body = nil
			if want > 0 {
				want = 16
			}
			if got := impl.Bound(tree); got != want || (len(impl.Gen(tree)) > 0) != (want > 0) {
				t.Errorf("%d and %d, not called: bound %d, want %d", r, more, got, want)
			}
		}
	}
	if impl.FrameMax != 2032 {
		t.Errorf("FrameMax is %d", impl.FrameMax)
	}
}

// TestFramesOfWhatIsNotSound: no frames, no bound, no items.
func TestFramesOfWhatIsNotSound(t *testing.T) {
	var trees []impl.Tree
	for _, text := range []string{
		"", "int x;", "int f(){}", "int main(int a){}", "int main(){x=1;}", "int main(){out(f());}", "int a[2];int main(){a=1;}", "int x;int main(){x[0]=1;}", "int f(int a){}int main(){f();}",
		"int main(){main();}", "int f(){main();}int main(){f();}", "int x;int x;int main(){}", "int main(){}int main(){}", "int main(){int x=1;int x=2;}", "int x;int main(){int x=1;}", "int f(int x){}int x;int main(){}",
	} {
		trees = append(trees, treeOf(t, text))
	}
	broken := treeOf(t, "int main(){if(1){}return 1;}")
	broken.Funcs[0].Body[0].Then = 2
	trees = append(trees, broken, everyTree())
	broken = treeOf(t, "int main(){return 1+1;}")
	broken.Funcs[0].Body[0].E = broken.Funcs[0].Body[0].E[1:]
	trees = append(trees, broken)
	broken = treeOf(t, "int main(){return 1;}")
	broken.Funcs[0].Body[0].E[0].Val = maxWord + 1
	trees = append(trees, broken)
	for _, tree := range trees {
		if f, b, g := impl.Frames(tree), impl.Bound(tree), impl.Gen(tree); len(f) != 0 || b != -1 || len(g) != 0 {
			t.Errorf("%.300s: frames %d, bound %d, %d items", short(tree), f, b, len(g))
		}
	}
}

func TestBoundOfPaths(t *testing.T) {
	rows := []struct {
		text  string
		bound int64
	}{
		{"int main(){}", 16},
		{"int main(){int a=1;int b=1;int c=1;}", 32},
		{"int f(){}int main(){f();}", 32},
		{"int main(){f();}int f(){}", 32},
		{"int f(){}int main(){}", 16},
		{"int f(){}int g(){f();}int main(){g();}", 48},
		{"int f(){}int g(){f();}int main(){f();g();}", 48},
		{"int f(){}int g(){f();}int main(){g();f();}", 48},
		{"int main(){g();f();}int g(){f();}int f(){}", 48},
		// One large frame against three small ones, and the other way round.
		{"int big(int a,int b,int c,int d,int e,int f){int x=1;int y=1;int z=1;int u=1;int v=1;int w=1;}int c(){}int b(){c();}int a(){b();}int main(){a();big(1,1,1,1,1,1);}", 32 + 64},
		{"int big(int a,int b,int c,int d,int e,int f){}int d(){}int c(){d();}int b(){c();}int a(){b();}int main(){big(1,1,1,1,1,1);a();}", 32 + 64},
		// The first way to a function is not the longest.
		{"int z(){int a=1;int b=1;int c=1;}int y(){z();}int x(){y();}int main(){z();y();x();}", 16 + 16 + 16 + 32},
		{"int main(){x();y();z();}int x(){y();}int y(){z();}int z(){int a=1;int b=1;int c=1;}", 80},
		// Two ways that meet.
		{"int end(){}int l(int a,int b,int c,int d){end();}int r(){end();}int main(){r();l(1,1,1,1);}", 32 + 32 + 16},
		{"int end(){}int l(int a,int b,int c,int d){end();}int r(){end();}int main(){l(1,1,1,1);r();}", 32 + 32 + 16},
		// A call counts wherever it stands.
		{"int a[2];int f(){}int main(){a[f()]=1;}", 32}, {"int a[2];int f(){}int main(){a[0]=f();}", 32}, {"int f(){}int main(){if(0){f();}}", 32}, {"int f(){}int main(){return 1;f();}", 32}, {"int f(){}int main(){while(0&&f()){}}", 32},
		{"int f(int x){return x;}int main(){return f(f(f(1)));}", 32},
		// What main does not come to does not count, also where it comes to itself.
		{"int big(){int a=1;int b=1;int c=1;}int f(){big();}int main(){}", 16},
		{"int f(){f();}int g(){h();}int h(){g();main();}int main(){}", 16},
		{"int f(){f();k();}int k(){}int main(){k();}", 32},
	}
	for _, r := range rows {
		tree := treeOf(t, r.text)
		if got := impl.Bound(tree); got != r.bound {
			t.Errorf("%s: bound %d, want %d", r.text, got, r.bound)
		}
		for _, size := range impl.Frames(tree) {
			if size%16 != 0 {
				t.Errorf("%s: a frame of %d", r.text, size)
			}
		}
	}
}

// TestBoundOfManyPaths: layers of functions each of which calls all of the next layer;
// one function of a layer has the largest frame.
func TestBoundOfManyPaths(t *testing.T) {
	const layers, wide = 16, 3
	var text strings.Builder
	want := int64(16)
	for i := range layers {
		for j := range wide {
			decls := 0
			if j == i%wide {
				decls = 4
			}
			fmt.Fprintf(&text, "int f%d_%d(){%s", i, j, declarations(decls))
			for k := range wide {
				if i > 0 {
					fmt.Fprintf(&text, "f%d_%d();", i-1, k)
				}
			}
			text.WriteString("}")
		}
		want += 32
	}
	fmt.Fprintf(&text, "int main(){f%d_0();f%d_1();f%d_2();}", layers-1, layers-1, layers-1)
	if got := impl.Bound(treeOf(t, text.String())); got != want {
		t.Errorf("bound %d, want %d", got, want)
	}
}

// TestBoundOfTheDeepest: FuncMax functions, each with a frame of FrameMax.
func TestBoundOfTheDeepest(t *testing.T) {
	var tree impl.Tree
	for i := range impl.FuncMax {
		f := wideFunc("f"+name2(i), 0, 0, 507)
		if i == impl.FuncMax-1 {
			f.Name = "main"
		}
		if i > 0 {
			f.Body = append(f.Body, impl.Stmt{Kind: impl.SCall, E: nodes(call("f"+name2(i-1), 0))})
		}
		tree.Funcs = append(tree.Funcs, f)
	}
	if got := impl.Bound(tree); got != impl.FuncMax*impl.FrameMax {
		t.Errorf("bound %d", got)
	}
}
