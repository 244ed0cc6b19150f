package tests

import (
	"slices"
	"strings"
	"testing"

	"loop.example/s01725/impl"
)

func sameCompiled(a, b impl.CompileRes) bool {
	return a.Stage == b.Stage && a.Err == b.Err && a.At == b.At &&
		slices.Equal(a.Image.Code, b.Image.Code) && a.Image.Data == b.Image.Data && a.Image.Bound == b.Image.Bound
}

// rejected is what Compile tells of a text that it does not take.
func rejected(stage, err, at int64) impl.CompileRes {
	return impl.CompileRes{Stage: stage, Err: err, At: at}
}

// wantCompile puts together what the layers below say of a text.
func wantCompile(t *testing.T, text []byte) impl.CompileRes {
	t.Helper()
	p := impl.ParseC(text)
	if p.Err != impl.SynOk {
		return rejected(impl.CcParse, p.Err, p.At)
	}
	if c := impl.CheckC(p.Tree); c.Err != impl.CkOk {
		return rejected(impl.CcCheck, c.Err, c.Func)
	}
	tree := impl.Simplify(p.Tree)
	frames := wantFrames(tree)
	for i, size := range frames {
		if size > impl.FrameMax {
			return rejected(impl.CcFrame, 0, int64(i))
		}
	}
	items := wantGen(t, tree)
	insts := wantInsts(items, wantLong(items))
	if dataOf(tree) > impl.DataMax || len(items) > impl.CodeMax || len(insts) > impl.CodeMax {
		return rejected(impl.CcImage, 0, 0)
	}
	m := image(dataOf(tree), wantBound(tree, frames), insts...)
	return impl.CompileRes{Stage: impl.CcOk, Image: m}
}

// holdCompile checks promise 13 at a text, and gives what Compile answered.
func holdCompile(t *testing.T, text []byte) impl.CompileRes {
	t.Helper()
	got := impl.Compile(text)
	if want := wantCompile(t, text); !sameCompiled(got, want) {
		t.Fatalf("%.600q: got %s, want %s", text, short(got), short(want))
	}
	switch got.Stage {
	case impl.CcOk:
		if !impl.ValidImage(got.Image) {
			t.Fatalf("%.600q: the image is not valid: %s", text, short(got))
		}
	case impl.CcParse, impl.CcCheck, impl.CcFrame, impl.CcImage:
		if !sameCompiled(got, rejected(got.Stage, got.Err, got.At)) {
			t.Fatalf("%.600q: an image beside a rejection: %s", text, short(got))
		}
		if c := impl.Execute(text, nil, 10); !zeroCpu(c) {
			t.Fatalf("%.600q: it is run all the same: %+v", text, brief(c))
		}
	default:
		t.Fatalf("%.600q: stage %d", text, got.Stage)
	}
	return got
}

func compilesTo(t *testing.T, text string, want impl.CompileRes) {
	t.Helper()
	if got := holdCompile(t, []byte(text)); got.Stage != want.Stage || got.Err != want.Err || got.At != want.At {
		t.Errorf("%.300q: got stage %d, error %d at %d, want %d, %d at %d", text, got.Stage, got.Err, got.At, want.Stage, want.Err, want.At)
	}
}

// wideBody gives so many declarations, the last of which needs so many places; the
// operand stands in all of them.
func wideBody(decls, places int, operand string) string {
	return declarations(decls-1) + "int last=" + deep(operand+"+(", places-1, operand, ")") + ";"
}

func TestCompileStages(t *testing.T) {
	tooWide := wideBody(490, 18, "in()")
	much := "int z[4000];int y[4000];int x[4000];int w[4000];int u[385];"
	all := strings.Replace(much, "385", "384", 1)
	ok := impl.CompileRes{}
	rows := []struct {
		text string
		want impl.CompileRes
	}{
		{"", rejected(impl.CcCheck, impl.CkMain, -1)}, {"  \n ", rejected(impl.CcCheck, impl.CkMain, -1)}, {"int main(){}", ok},
		{strings.Repeat(" ", impl.TextMax+1), rejected(impl.CcParse, impl.SynLong, 0)}, {strings.Repeat(" ", impl.TextMax), rejected(impl.CcCheck, impl.CkMain, -1)},
		{"int main(){$}", rejected(impl.CcParse, impl.SynLex, 11)}, {"int main(){", rejected(impl.CcParse, impl.SynToken, 11)}, {"int main(){return " + strings.Repeat("-", 30) + "1;}", rejected(impl.CcParse, impl.SynNest, 47)}, {"int a[0];int main(){}", rejected(impl.CcParse, impl.SynLimits, 21)}, {"int a[4001];int main(){}", rejected(impl.CcParse, impl.SynLimits, 24)},
		{"int x;int x;int main(){}", rejected(impl.CcCheck, impl.CkTwice, -1)}, {"int f(){}int main(){}int f(){}", rejected(impl.CcCheck, impl.CkTwice, 2)}, {"int f(){}int g(int a,int a){}int main(){}", rejected(impl.CcCheck, impl.CkTwice, 1)}, {"int f(){}", rejected(impl.CcCheck, impl.CkMain, -1)}, {"int main(int a){}", rejected(impl.CcCheck, impl.CkMain, -1)},
		{"int f(){}int main(){x=1;}", rejected(impl.CcCheck, impl.CkName, 1)}, {"int a[1];int main(){a=1;}", rejected(impl.CcCheck, impl.CkUse, 0)}, {"int main(){}int f(){}int k(){f(1);}", rejected(impl.CcCheck, impl.CkArgs, 2)}, {"int k(){}int f(){main();}int main(){f();}", rejected(impl.CcCheck, impl.CkRecursive, 1)},
		{"int main(){" + tooWide + "}", rejected(impl.CcFrame, 0, 0)}, {"int f(){}int main(){f();" + tooWide + "}", rejected(impl.CcFrame, 0, 1)}, {"int f(){" + tooWide + "}int main(){f();" + tooWide + "}", rejected(impl.CcFrame, 0, 0)},
		{much + "int main(){}", rejected(impl.CcImage, 0, 0)}, {all + "int main(){}", ok}, {all + "int o;int main(){}", rejected(impl.CcImage, 0, 0)}, {strings.Replace(all, "384", "383", 1) + "int o;int main(){}", ok}, {"int o;int main(){}" + strings.Replace(all, "384", "383", 1), ok}, {"int f[4000];" + much + "int main(){}", rejected(impl.CcImage, 0, 0)},
		// The first stage that rejects is told.
		{"int main(){x=1;$}", rejected(impl.CcParse, impl.SynLex, 15)}, {"int main(){main();" + tooWide + ";}", rejected(impl.CcParse, impl.SynToken, 18+int64(len(tooWide)))}, {"int a[0];int main(){x=1;}", rejected(impl.CcParse, impl.SynLimits, 25)},
		{"int f(){" + tooWide + "}int main(){f(1);}", rejected(impl.CcCheck, impl.CkArgs, 1)}, {much + "int main(){x=1;o=1;}", rejected(impl.CcCheck, impl.CkUse, 0)},
		{much + "int main(){" + tooWide + "}", rejected(impl.CcFrame, 0, 0)}, {much + "int f(){}int main(){f();" + tooWide + "}", rejected(impl.CcFrame, 0, 1)},
	}
	for _, r := range rows {
		compilesTo(t, r.text, r.want)
	}
}

// TestCompileFrames: frames are looked at when the tree is simplified, and numbers are
// those of the functions that are left.
func TestCompileFrames(t *testing.T) {
	fits, tooWide := wideBody(490, 17, "in()"), wideBody(490, 18, "in()")
	ok := impl.CompileRes{}
	rows := []struct {
		text string
		want impl.CompileRes
	}{
		{"int main(){" + fits + "}", ok}, {"int main(){" + tooWide + "}", rejected(impl.CcFrame, 0, 0)}, {"int f(){" + fits + "}int main(){f();" + fits + "}", ok},
		{"int main(){" + wideBody(490, 18, "1") + "}", ok}, {"int main(){" + wideBody(500, 7, "in()") + "}", ok}, {"int main(){" + wideBody(500, 8, "in()") + "}", rejected(impl.CcFrame, 0, 0)}, {"int main(){" + wideBody(500, 20, "1") + "}", ok},
		// In a function that goes away, or in what goes away of a function.
		{"int f(){" + tooWide + "}int main(){}", ok}, {"int f(){" + tooWide + "}int main(){if(0){f();}}", ok}, {"int f(){" + tooWide + "}int main(){return 1;f();}", ok}, {"int f(){" + tooWide + "}int main(){return 0&&f();}", ok}, {"int main(){}int f(){" + tooWide + "}int k(){f();}", ok},
		{"int f(){if(0){" + tooWide + "}}int main(){f();}", ok}, {"int f(){return 1;" + tooWide + "}int main(){f();}", ok}, {"int f(){if(1){" + tooWide + "}}int main(){f();}", rejected(impl.CcFrame, 0, 0)}, {"int f(){while(0){" + tooWide + "}}int main(){f();}", ok}, {"int f(){while(1){" + tooWide + "}}int main(){f();}", rejected(impl.CcFrame, 0, 0)},
		// The numbers are those behind simplifying.
		{"int f(){" + tooWide + "}int main(){f();}", rejected(impl.CcFrame, 0, 0)}, {"int gone(){}int f(){" + tooWide + "}int main(){f();}", rejected(impl.CcFrame, 0, 0)}, {"int main(){k();f();}int k(){}int f(){" + tooWide + "}", rejected(impl.CcFrame, 0, 2)}, {"int main(){k();f();}int gone(){}int k(){}int gone_too(){gone();}int f(){" + tooWide + "}", rejected(impl.CcFrame, 0, 2)},
	}
	for _, r := range rows {
		compilesTo(t, r.text, r.want)
	}
}

// heavy gives a text of three functions whose code is near CodeMax, with these
// statements more in main.
func heavy(calls int, more string) string {
	sum := "0-(in()-(in()-(in()-(in()-(f()" + strings.Repeat("+f()", calls) + ")))))"
	return "int f(){}int k(){return " + sum + ";}int main(){int x=k();out(" + sum + ");" + more + "}"
}

// TestCompileAtCodeMax: what Gen writes has more labels than long branches, so that the
// items come to CodeMax before the words do.
func TestCompileAtCodeMax(t *testing.T) {
	base := heavy(600, "")
	count := func(text string) int { return len(impl.Gen(impl.Simplify(treeOf(t, text)))) }
	missing := impl.CodeMax - count(base)
	if missing < 10 || missing > 900 {
		t.Fatalf("%d items are missing", missing)
	}
	for _, over := range []int{-2, -1, 0, 1, 2, 40} {
		// x=-x is three items, f() two.
		left := missing + over
		more := strings.Repeat("x=-x;", left%2) + strings.Repeat("f();", (left-3*(left%2))/2)
		text := heavy(600, more)
		if got := count(text); got != impl.CodeMax+over {
			t.Fatalf("%d items, want %d", got, impl.CodeMax+over)
		}
		got := impl.Compile([]byte(text))
		if over > 0 {
			if !sameCompiled(got, rejected(impl.CcImage, 0, 0)) {
				t.Errorf("%d items: %s", impl.CodeMax+over, short(got))
			}
			continue
		}
		// A label at the beginning and at the end of each function takes no word.
		if got.Stage != impl.CcOk || len(got.Image.Code) != impl.CodeMax+over-6 || !impl.ValidImage(got.Image) {
			t.Errorf("%d items: stage %d, %d words", impl.CodeMax+over, got.Stage, len(got.Image.Code))
		}
		c := impl.Execute([]byte(text), []int64{1, 2, 3, 4}, 100000)
		if c.Status != impl.Halted || len(c.Out) != 1 {
			t.Errorf("%d items: status %d, out %d", impl.CodeMax+over, c.Status, c.Out)
		}
	}
	if got := impl.Compile([]byte(heavy(990, ""))); !sameCompiled(got, rejected(impl.CcImage, 0, 0)) {
		t.Errorf("much too much code: %s", short(got))
	}
	// Code that is too long goes away with its function.
	text := strings.Replace(strings.Replace(heavy(990, ""), "x=k()", "x=0", 1), "out(0-", "out(0&&0-", 1)
	compilesTo(t, text, impl.CompileRes{})
}

// TestCompileAnyBytes is promise 13 at texts of bytes, of tokens, and of programs in
// which something is changed.
func TestCompileAnyBytes(t *testing.T) {
	n := &numbers{99}
	stages := map[int64]int{}
	for range 2000 {
		var text []byte
		for range n.below(30) {
			text = append(text, byte(n.next()))
		}
		stages[holdCompile(t, text).Stage]++
		text = nil
		for range n.below(20) {
			text = append(append(text, pick(n, tokenPool)...), ' ')
		}
		stages[holdCompile(t, text).Stage]++
	}
	programs := []string{everyRun, everyText, everySound, "int g;int main(){while(g<5){g=g+1;out(g);}return g;}", "int a[5];int f(int x){return a[x]+1;}int main(){a[2]=7;return f(2)*f(1);}"}
	for range 4000 {
		text := []byte(pick(n, programs))
		for range 1 + n.below(3) {
			at := n.below(int64(len(text)))
			switch n.below(4) {
			case 0:
				text = slices.Delete(text, int(at), int(at)+1)
			case 1:
				text[at] = text[n.below(int64(len(text)))]
			case 2:
				text = slices.Insert(text, int(at), []byte(pick(n, tokenPool))...)
			case 3:
				text[at] = "0123456789"[n.below(10)]
			}
		}
		stages[holdCompile(t, text).Stage]++
	}
	for _, stage := range []int64{impl.CcOk, impl.CcParse, impl.CcCheck} {
		if stages[stage] < 100 {
			t.Errorf("stage %d only %d times", stage, stages[stage])
		}
	}
}

func TestCompileOfMadeTrees(t *testing.T) {
	taken := 0
	for seed := range uint64(700) {
		m := newMaker(seed*41 + 9)
		tree := m.soundTree(7)
		m.sink(&tree, 7)
		writable(&tree)
		if holdCompile(t, impl.PrintC(tree)).Stage == impl.CcOk {
			taken++
		}
	}
	if taken < 200 {
		t.Errorf("only %d are compiled", taken)
	}
}
