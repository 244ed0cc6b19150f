package tests

import (
	"slices"
	"strings"
	"testing"

	"loop.example/s01725/impl"
)

// bad checks that EvalC gives EvBad and nothing else.
func bad(t *testing.T, what string, tree impl.Tree, in []int64, fuel int64, frames []int64) {
	t.Helper()
	if got := impl.EvalC(tree, in, fuel, frames); !sameEval(got, impl.EvalRes{}) {
		t.Errorf("%s: %s", what, short(got))
	}
}

func runs(t *testing.T, what string, tree impl.Tree, in []int64, fuel int64, frames []int64, want impl.EvalRes) {
	t.Helper()
	if got := impl.EvalC(tree, in, fuel, frames); !sameEval(got, want) {
		t.Errorf("%s: got %s, want %s", what, short(got), short(want))
	}
}

func TestEvalBadTrees(t *testing.T) {
	texts := []string{
		"", "int f(){}", "int main(int a){}", "int main(){main();}", "int f(){g();}int g(){f();}int main(){f();}",
		"int main(){x=1;}", "int x;int x;int main(){}", "int main(){}int main(){}", "int main(){out(f());}", "int f(int a){}int main(){f();}",
		"int a[2];int main(){out(a);}", "int g;int main(){g[0]=1;}", "int main(){int x=1;int x=2;}", "int f(){return y;}int main(){}", "int main(){return 1;x=1;}",
	}
	for _, text := range texts {
		tree := treeOf(t, text)
		bad(t, text, tree, nil, 10, noFrames(tree))
	}
	tree := treeOf(t, "int main(){out(1);}")
	for what, spoil := range map[string]func(s *impl.Stmt){
		"no kind":           func(s *impl.Stmt) { s.Kind = 0 },
		"a name":            func(s *impl.Stmt) { s.Name = "x" },
		"no expression":     func(s *impl.Stmt) { s.E = nil },
		"two expressions":   func(s *impl.Stmt) { s.E = nodes(num(1), num(2)) },
		"an ENum too large": func(s *impl.Stmt) { s.E = nodes(num(maxWord + 1)) },
		"a block too long":  func(s *impl.Stmt) { s.Kind, s.Then = impl.SIf, 1 },
	} {
		other := cloneTree(tree)
		spoil(&other.Funcs[0].Body[0])
		bad(t, what, other, nil, 10, []int64{0})
	}
}

func TestEvalOfTreesThatAreSoundAfterAll(t *testing.T) {
	circle := treeOf(t, "int f(){f();}int g(){h();}int h(){g();}int main(){out(1);}")
	runs(t, "a circle that main does not come to", circle, nil, 10, noFrames(circle), done(0, 2, 1))
	long := treeOf(t, "int main(){"+strings.Repeat("out(1);", impl.StmtMax)+"}")
	runs(t, "a body as long as may be", long, nil, 1000, []int64{0}, done(0, 1000, slices.Repeat([]int64{1}, 500)...))
}

func TestEvalBadInputs(t *testing.T) {
	tree := treeOf(t, "int main(){out(in());}")
	full := slices.Repeat([]int64{5}, impl.InMax)
	runs(t, "InMax numbers", tree, full, 10, []int64{0}, done(0, 2, 5))
	bad(t, "one more", tree, append(full, 5), 10, []int64{0})
	for _, v := range []int64{minWord, maxWord, 0, -1} {
		runs(t, "a word", tree, []int64{v}, 10, []int64{0}, done(0, 2, v))
	}
	for _, v := range []int64{minWord - 1, maxWord + 1, 1 << 32, -1 << 63, 1<<63 - 1} {
		bad(t, "no word", tree, []int64{v}, 10, []int64{0})
		bad(t, "no word at the end", tree, []int64{1, 2, v}, 10, []int64{0})
		full[impl.InMax-1] = v
		bad(t, "no word at last", tree, full, 10, []int64{0})
	}
}

func TestEvalBadFuel(t *testing.T) {
	tree := treeOf(t, "int main(){while(1){}}")
	for _, fuel := range []int64{-1, -1 << 63, impl.FuelMax + 1, 1<<63 - 1, 1 << 32} {
		bad(t, "fuel", tree, nil, fuel, []int64{3})
	}
	for _, fuel := range []int64{0, 1, impl.FuelMax - 1, impl.FuelMax} {
		runs(t, "fuel", tree, nil, fuel, []int64{3}, impl.EvalRes{Status: impl.EvFuel, Used: fuel, Deep: 3})
	}
}

func TestEvalBadFrames(t *testing.T) {
	tree := treeOf(t, "int f(){}int g(){}int main(){f();g();}")
	rows := [][]int64{nil, {}, {0}, {0, 0}, {0, 0, 0, 0}, {-1, 0, 0}, {0, 0, -1}, {impl.BoundMax + 1, 0, 0}, {0, impl.BoundMax + 1, 0}, {0, 0, impl.BoundMax + 1}, {-1 << 63, 0, 0}, {0, 0, 1<<63 - 1}}
	for _, frames := range rows {
		bad(t, "frames", tree, nil, 10, frames)
	}
	for _, frames := range [][]int64{{0, 0, 0}, {1, 2, 3}, {impl.BoundMax, 0, impl.BoundMax}} {
		want := done(0, 4)
		want.Deep = frames[2] + max(frames[0], frames[1])
		runs(t, "frames", tree, nil, 10, frames, want)
	}
	unused := treeOf(t, "int f(){}int main(){}")
	bad(t, "a frame of a function that is not called", unused, nil, 10, []int64{-1, 0})
	runs(t, "a frame that is no multiple of 16", unused, nil, 0, []int64{1, 7}, impl.EvalRes{Status: impl.EvDone, Deep: 7})
}

func TestEvalBadSeveral(t *testing.T) {
	tree := treeOf(t, "int main(){main();}")
	bad(t, "all at once", tree, []int64{1 << 40}, -1, []int64{-1, -1})
	bad(t, "the zero tree", impl.Tree{}, nil, 0, nil)
	bad(t, "the zero tree and all else", impl.Tree{}, slices.Repeat([]int64{1}, 1001), 1<<40, []int64{0})
}
