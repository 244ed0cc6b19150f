package tests

import (
	"slices"
	"testing"

	"loop.example/s01725/impl"
)

// sharesNothing calls twice, and writes over the second answer and then over what was
// given: neither may be seen in the first answer, nor the answer in what was given.
func sharesNothing[T comparable](t *testing.T, what string, ask func() []T, mark T, same func() bool, spoil func()) {
	t.Helper()
	first := ask()
	kept := slices.Clone(first)
	second := ask()
	if !slices.Equal(first, second) {
		t.Errorf("%.300s: the second answer is another", what)
	}
	scribble(second, mark)
	if !same() {
		t.Errorf("%.300s: the argument was written into, or the answer shares memory with it", what)
	}
	if !slices.Equal(first, kept) {
		t.Errorf("%.300s: two answers share memory", what)
	}
	spoil()
	if !slices.Equal(first, kept) {
		t.Errorf("%.300s: the answer shares memory with the argument", what)
	}
}

func TestGenSharesNothing(t *testing.T) {
	texts := []string{everyRun, "int main(){}", "int main(){main();}", "", crowded, sorting, "int main(){" + wideBody(490, 18, "in()") + "}"}
	for _, text := range texts {
		plain := treeOf(t, text)
		given := func() (impl.Tree, func() bool, func()) {
			tree := roomyTree(plain)
			kept := cloneTree(wholeTree(tree))
			return tree, func() bool { return sameTree(wholeTree(tree), kept) }, func() { scribbleTree(t, tree) }
		}
		tree, same, spoil := given()
		sharesNothing(t, "frames of "+text, func() []int64 { return impl.Frames(tree) }, 77, same, spoil)
		tree, same, spoil = given()
		sharesNothing(t, "items of "+text, func() []impl.Item { return impl.Gen(tree) }, jumpItem(77), same, spoil)
		tree, same, _ = given()
		if impl.Bound(tree) != impl.Bound(tree) || !same() {
			t.Errorf("bound of %.300s: the tree was written into, or the second answer is another", text)
		}
	}
}

func TestAssembleSharesNothing(t *testing.T) {
	lists := [][]impl.Item{
		nil, nops(3), impl.Gen(treeOf(t, everyRun)), impl.Gen(treeOf(t, crowded)), chain(3), {labelItem(1), labelItem(1), nop}, {nop, jumpItem(1)}, nops(impl.CodeMax + 1),
	}
	for _, list := range lists {
		items := roomy(list, nop)
		kept := whole(items)
		same := func() bool { return slices.Equal(whole(items), kept) }
		sharesNothing(t, listing(items[:min(len(items), 20)]), func() []uint32 { return impl.Assemble(items) }, 77, same, func() { scribble(items, jumpItem(66)) })
	}
}

func TestCompileSharesNothing(t *testing.T) {
	for _, s := range []string{everyRun, "int main(){}", "", "int main(){", "int main(){x=1;}", crowded, "int a[4000];int b[4000];int c[4000];int d[4000];int e[385];int main(){}"} {
		text := roomy([]byte(s), '?')
		kept := whole(text)
		same := func() bool { return slices.Equal(whole(text), kept) }
		sharesNothing(t, s, func() []uint32 { return impl.Compile(text).Image.Code }, 77, same, func() { scribble(text, '$') })
	}
}

func TestExecuteSharesNothing(t *testing.T) {
	for _, s := range []string{everyRun, "int g;int main(){out(in());g=in();out(g);return 7;}", "int main(){", "int main(){while(1){out(in());}}"} {
		for _, steps := range []int64{-1, 0, 12, 300} {
			text, in := roomy([]byte(s), '?'), roomy([]int64{3, 4, 5}, 99)
			keptText, keptIn := whole(text), whole(in)
			same := func() bool { return slices.Equal(whole(text), keptText) && slices.Equal(whole(in), keptIn) }
			first := impl.Execute(text, in, steps)
			kept := cloneCpu(first)
			second := impl.Execute(text, in, steps)
			if !sameCpu(first, second) || !same() {
				t.Errorf("%.300q with %d steps: the second answer is another, or an argument was written into", s, steps)
			}
			scribbleCpu(t, second)
			if !sameCpu(first, kept) || !same() {
				t.Errorf("%.300q with %d steps: an answer shares memory", s, steps)
			}
			scribble(in, 66)
			scribble(text, '$')
			if !sameCpu(first, kept) {
				t.Errorf("%.300q with %d steps: the answer shares memory with an argument", s, steps)
			}
		}
	}
}
