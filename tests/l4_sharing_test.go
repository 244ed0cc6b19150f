package tests

import (
	"slices"
	"testing"

	"loop.example/s01725/impl"
)

func TestEvalSharesNothing(t *testing.T) {
	texts := []string{
		everyRun, "int main(){}", "int a[2];int main(){out(in());out(in());out(a[in()]);}", "int main(){while(1){out(in());}}", "int main(){main();}",
		"int g;int f(int a){a=a+g;g=a;out(a);return a;}int main(){while(f(in())){}return f(f(1));}",
	}
	for _, text := range texts {
		tree := roomyTree(treeOf(t, text))
		in := roomy([]int64{3, 1, 2}, 99)
		frames := roomy([]int64{1, 10, 100, 1000}[:len(tree.Funcs)], 99)
		kept, keptIn, keptFrames := cloneTree(wholeTree(tree)), whole(in), whole(frames)
		same := func() bool {
			return sameTree(wholeTree(tree), kept) && slices.Equal(whole(in), keptIn) && slices.Equal(whole(frames), keptFrames)
		}
		for _, fuel := range []int64{-1, 0, 10, 50, plenty} {
			first := impl.EvalC(tree, in, fuel, frames)
			out := slices.Clone(first.Out)
			if !same() {
				t.Errorf("%.300q with fuel %d: an argument was written into", text, fuel)
			}
			second := impl.EvalC(tree, in, fuel, frames)
			if !sameEval(first, second) {
				t.Errorf("%.300q with fuel %d: the second answer is another", text, fuel)
			}
			scribble(second.Out, 77)
			if !same() || !slices.Equal(first.Out, out) {
				t.Errorf("%.300q with fuel %d: an answer shares memory", text, fuel)
			}
			scribble(in, 66)
			if !slices.Equal(first.Out, out) {
				t.Errorf("%.300q with fuel %d: Out shares memory with the inputs", text, fuel)
			}
			copy(in[:cap(in)], keptIn)
		}
	}
}
