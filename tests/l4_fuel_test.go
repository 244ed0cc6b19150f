package tests

import (
	"slices"
	"strings"
	"testing"

	"loop.example/s01725/impl"
)

// TestFuelUnitByUnit follows a run by hand: what each unit of fuel is used for.
func TestFuelUnitByUnit(t *testing.T) {
	tree := treeOf(t, "int a[2];int f(int x){out(x);return x+1;}int main(){a[f(0)]=f(in())&&in();return a[1];}")
	uses := strings.Fields("store 0 call out x,0 return x 1 + in call out x,5 return x 1 + and in and return 1 index")
	want := impl.EvalRes{Status: impl.EvFuel, Deep: 100}
	for fuel := range int64(len(uses)) {
		runs(t, "before "+uses[fuel], tree, []int64{5, 7}, fuel, []int64{10, 100}, want)
		want.Used++
		switch uses[fuel] {
		case "call":
			want.Deep = 110
		case "x,0":
			want.Out = append(want.Out, 0)
		case "x,5":
			want.Out = append(want.Out, 5)
		}
	}
	want.Status, want.Exit = impl.EvDone, 1
	for _, more := range []int64{0, 1, 2, 1000} {
		runs(t, "at the end", tree, []int64{5, 7}, int64(len(uses))+more, []int64{10, 100}, want)
	}
}

func TestFuelBeforeAStatementsExpressions(t *testing.T) {
	for _, s := range []string{"int x=f();", "g=f();", "a[f()]=1;", "if(f()){}", "while(f()){}", "return f();", "out(f());", "f();"} {
		tree := treeOf(t, "int g;int a[1];int f(){}int main(){"+s+"}")
		for fuel, deep := range []int64{4, 4, 34} {
			got := impl.EvalC(tree, nil, int64(fuel), []int64{30, 4})
			if got.Used != int64(fuel) || got.Deep != deep {
				t.Errorf("%s with fuel %d: %+v, want Deep %d", s, fuel, got, deep)
			}
		}
	}
}

func TestFuelOfAWhileEachTime(t *testing.T) {
	for turns := range int64(20) {
		tree := treeOf(t, "int main(){while(in()){}}")
		in := slices.Repeat([]int64{1}, int(turns))
		used := 2 * (turns + 1)
		runs(t, "a while", tree, in, used, []int64{0}, done(0, used))
		runs(t, "a while", tree, in, used-1, []int64{0}, impl.EvalRes{Status: impl.EvFuel, Used: used - 1})
		runs(t, "a while", tree, in, used-2, []int64{0}, impl.EvalRes{Status: impl.EvFuel, Used: used - 2})
	}
}

// isBeginning says whether a is a beginning of b.
func isBeginning(a, b []int64) bool { return len(a) <= len(b) && slices.Equal(a, b[:len(a)]) }

// holdFuel checks, at each fuel, that the run is as the document says, and promise 5.
func holdFuel(t *testing.T, what string, tree impl.Tree, in []int64, fuels, frames []int64) {
	t.Helper()
	var before impl.EvalRes
	for _, fuel := range fuels {
		got := impl.EvalC(tree, in, fuel, frames)
		if want := wantEval(tree, in, fuel, frames); !sameEval(got, want) {
			t.Fatalf("%.300s: with fuel %d: got %s, want %s", what, fuel, short(got), short(want))
		}
		switch before.Status {
		case impl.EvDone, impl.EvUndef:
			if !sameEval(got, before) {
				t.Fatalf("%.300s: with fuel %d: %s, and with less %s", what, fuel, short(got), short(before))
			}
		case impl.EvFuel:
			if !isBeginning(before.Out, got.Out) || got.Deep < before.Deep || got.Used <= before.Used {
				t.Fatalf("%.300s: with fuel %d: %s, and with less %s", what, fuel, short(got), short(before))
			}
		}
		if got.Used > fuel || got.Status == impl.EvFuel && (got.Used != fuel || got.Exit != 0) {
			t.Fatalf("%.300s: with fuel %d: %s", what, fuel, short(got))
		}
		before = got
	}
}

// fuelsTo gives every fuel up to most, and some beyond.
func fuelsTo(most int64) []int64 {
	var fuels []int64
	for fuel := range most + 1 {
		fuels = append(fuels, fuel)
	}
	return append(fuels, most+100, plenty)
}

func TestFuelEveryOne(t *testing.T) {
	texts := []string{
		everyRun,
		"int main(){}",
		"int g;int f(){out(g);g=g+1;return g<3;}int main(){while(f()&&in()||f()){out(in());}return g*10;}",
		"int a[3];int f(int i){a[i]=i*i;return a[i]-1;}int main(){int i=0;while(1){out(f(i));i=i+1;}}",
		"int a[3];int main(){int i=3;while(i+1){i=i-1;out(a[i]);}}",
		"int h(int x){return 0-x;}int g(int x,int y){out(x);return h(y)-h(x);}int f(int x){int i=x;while(i){if(i%2){return g(i,g(h(i),x));}i=i-1;out(i);}}int main(){out(f(4));out(f(0));f(1);return f(2)||f(3);}",
		"int main(){if(in()&&in()&&(in()||in())){out(1);}else{if(in()||!in()&&in()){out(2);}}return in();}",
	}
	for _, text := range texts {
		tree := treeOf(t, text)
		for _, in := range [][]int64{nil, {2, 1}, {1, 0, 0, 1}, {0, 3, 1, 0, 5}, {1, 1, 0, 0, 0, 0, 1}} {
			frames := []int64{16, 48, 7, 100, 32, 64}[:len(tree.Funcs)]
			most := impl.EvalC(tree, in, plenty, frames).Used
			holdFuel(t, text, tree, in, fuelsTo(min(most, 500)), frames)
		}
	}
}

// TestFuelOfMadeTrees holds made trees against a run of another kind.
func TestFuelOfMadeTrees(t *testing.T) {
	ends := map[int64]int{}
	for seed := range uint64(1500) {
		m := newMaker(seed*31 + 5)
		tree := m.soundTree(6)
		var in, frames []int64
		for range m.below(6) {
			in = append(in, pick(m.numbers, []int64{0, 1, 2, -1, 3, minWord, maxWord}))
		}
		for range tree.Funcs {
			frames = append(frames, 16*m.below(9))
		}
		fuels := []int64{m.below(10), 10 + m.below(40), 60 + m.below(100), 1000}
		most := impl.EvalC(tree, in, 1000, frames)
		ends[most.Status]++
		if most.Used < 60 {
			fuels = fuelsTo(most.Used)
		}
		holdFuel(t, string(impl.PrintC(tree)), tree, in, fuels, frames)
	}
	for _, status := range []int64{impl.EvDone, impl.EvFuel, impl.EvUndef} {
		if ends[status] < 100 {
			t.Errorf("only %d made trees end with status %d", ends[status], status)
		}
	}
}

func TestFuelOfTheDeepest(t *testing.T) {
	var text strings.Builder
	for i := range impl.FuncMax - 1 {
		callee := "in()"
		if i > 0 {
			callee = "f" + name2(i-1) + "()"
		}
		text.WriteString("int f" + name2(i) + "(){return " + callee + ";}")
	}
	text.WriteString("int main(){return f" + name2(impl.FuncMax-2) + "();}")
	tree := treeOf(t, text.String())
	for i := range tree.Funcs {
		e := &tree.Funcs[i].Body[0].E
		for len(*e) < impl.NodeMax {
			*e = append(*e, un(impl.UnNeg))
		}
	}
	frames := slices.Repeat([]int64{impl.BoundMax}, impl.FuncMax)
	got := impl.EvalC(tree, []int64{5}, impl.FuelMax, frames)
	want := impl.EvalRes{Status: impl.EvFuel, Used: impl.FuelMax, Deep: impl.FuncMax * impl.BoundMax}
	if !sameEval(got, want) {
		t.Errorf("got %s, want %s", short(got), short(want))
	}
	main := &tree.Funcs[impl.FuncMax-1].Body[0].E
	*main = (*main)[:impl.NodeMax-impl.FuncMax]
	want.Status, want.Exit = impl.EvDone, 5
	if got := impl.EvalC(tree, []int64{5}, impl.FuelMax, frames); !sameEval(got, want) {
		t.Errorf("just enough fuel: got %s, want %s", short(got), short(want))
	}
}

// name2 gives two letters for a number.
func name2(i int) string { return string([]byte{byte('a' + i/26), byte('a' + i%26)}) }
