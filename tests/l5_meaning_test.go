package tests

import (
	"slices"
	"testing"

	"loop.example/s01725/impl"
)

// slowSimplify takes away one thing at a time, anywhere, as long as there is one.
func slowSimplify(t impl.Tree) impl.Tree {
	t = cloneTree(t)
	for i := range t.Funcs {
		f := &t.Funcs[i]
		for j := range f.Body {
			f.Body[j].E, f.Body[j].F = slowFold(f.Body[j].E), slowFold(f.Body[j].F)
		}
		for j := 0; j < len(f.Body); j++ {
			if left, changed := lessAt(f.Body, j); changed {
				f.Body = left
				j = -1
			}
		}
	}
	return impl.Tree{Globals: t.Globals, Funcs: slowNeeded(t)}
}

// lessAt takes away what the statement at i says goes away.
func lessAt(list []impl.Stmt, i int) ([]impl.Stmt, bool) {
	s := list[i]
	then, other := int64(i)+1, int64(i)+1+s.Then
	known := s.E[len(s.E)-1].Kind == impl.ENum
	switch {
	case s.Kind == impl.SIf && known && s.E[0].Val != 0:
		return without(without(list, other, other+s.Else), int64(i), then), true
	case s.Kind == impl.SIf && known:
		return without(list, int64(i), other), true
	case s.Kind == impl.SWhile && known && s.E[0].Val == 0:
		return without(list, int64(i), other), true
	case s.Kind == impl.SReturn:
		end := blockEnding(list, int64(i))
		return without(list, then, end), end > then
	}
	return list, false
}

// blockEnding gives the end of the innermost block in which a statement stands.
func blockEnding(list []impl.Stmt, at int64) int64 {
	end := int64(len(list))
	for i := range at {
		then := i + 1 + list[i].Then
		if at < then {
			end = min(end, then)
		} else if at < then+list[i].Else {
			end = min(end, then+list[i].Else)
		}
	}
	return end
}

// without takes the statements from a up to b away from all the blocks they stand in.
func without(list []impl.Stmt, a, b int64) []impl.Stmt {
	left := slices.Clone(list)
	for i := range a {
		s := &left[i]
		then, behind := i+1+s.Then, i+1+s.Then+s.Else
		s.Then -= max(0, min(b, then)-a)
		s.Else -= max(0, min(b, behind)-max(a, then))
	}
	return slices.Delete(left, int(a), int(b))
}

// slowNeeded looks for what is called by what is needed, as often as there are functions.
func slowNeeded(t impl.Tree) []impl.Func {
	needed := map[string]int{"main": 1}
	for range t.Funcs {
		for i, f := range t.Funcs {
			if needed[f.Name] == 0 {
				continue
			}
			for _, callee := range impl.Calls(t, int64(i)) {
				needed[t.Funcs[callee].Name] = 1
			}
		}
	}
	return slices.DeleteFunc(slices.Clone(t.Funcs), func(f impl.Func) bool { return needed[f.Name] == 0 })
}

// holdSimplify checks promises 6 and 7 at one tree, and says whether less is left.
func holdSimplify(t *testing.T, tree impl.Tree) bool {
	t.Helper()
	text := impl.PrintC(tree)
	got := impl.Simplify(tree)
	if want := slowSimplify(tree); !sameTree(got, want) {
		t.Fatalf("%.600s becomes\n%.400s want\n%.400s", text, impl.PrintC(got), impl.PrintC(want))
	}
	if impl.CheckC(got) != sound {
		t.Fatalf("%.600s becomes what is not sound: %+v", text, impl.CheckC(got))
	}
	if again := impl.Simplify(got); !sameTree(again, got) {
		t.Fatalf("%.600s: the second time something changes: %.400s", text, impl.PrintC(again))
	}
	return !sameTree(got, tree)
}

// holdMeaning checks promise 6 at one run, and says whether it came to its end.
func holdMeaning(t *testing.T, tree impl.Tree, in []int64, fuel int64) bool {
	t.Helper()
	less := impl.Simplify(tree)
	before := impl.EvalC(tree, in, fuel, noFrames(tree))
	after := impl.EvalC(less, in, fuel, noFrames(less))
	if before.Status != impl.EvDone {
		return false
	}
	if after.Status != impl.EvDone || !slices.Equal(after.Out, before.Out) || after.Exit != before.Exit || after.Used > before.Used {
		t.Fatalf("%.600s of %d with fuel %d: %s, simplified %s", impl.PrintC(tree), in, fuel, short(before), short(after))
	}
	return true
}

func TestSimplifyMadeTrees(t *testing.T) {
	changed, ended := 0, 0
	for seed := range uint64(2500) {
		m := newMaker(seed*29 + 11)
		tree := m.soundTree(7)
		if holdSimplify(t, tree) {
			changed++
		}
		var in []int64
		for range m.below(5) {
			in = append(in, pick(m.numbers, []int64{0, 1, 2, -1, minWord, maxWord}))
		}
		used := impl.EvalC(tree, in, 2000, noFrames(tree)).Used
		for _, fuel := range []int64{used, used + 1, 2000} {
			if holdMeaning(t, tree, in, fuel) {
				ended++
			}
		}
	}
	if changed < 1000 || ended < 1000 {
		t.Errorf("only %d made trees change, and %d runs come to their end", changed, ended)
	}
}

func TestSimplifyKeepsTheMeaning(t *testing.T) {
	texts := []string{
		everyRun,
		"int g;int f(){g=g+1;out(g);return g;}int main(){if(1&&f()){if(0||f()-2){out(100);}else{out(200);}}if(0&&f()||1){return f()*(2+3);}out(300);}",
		"int a[2];int f(int x){if(x){return a[x-1];out(5);}while(0){return 9;}}int main(){a[2-2]=7;out(f(1));out(f(0));if(1){int x=in();while(x){if(1){x=x-1;}out(x);}return x+1;}return 3;}",
		"int f(){return 1;}int k(){return f();}int main(){out(1||k());out(0&&k());out(1&&f());out(0||f());out(in()&&0);out(in()||7);while(1){if(!in()){return 4;return 5;}}}",
	}
	for _, text := range texts {
		tree := treeOf(t, text)
		holdSimplify(t, tree)
		for _, in := range [][]int64{{1}, {3, 1}, {0, 0, 1}, {2, 0, 0, 5}, {1, 1, 1}} {
			used := impl.EvalC(tree, in, plenty, noFrames(tree)).Used
			for _, fuel := range []int64{used, used + 1, plenty} {
				if !holdMeaning(t, tree, in, fuel) {
					t.Errorf("%.300q of %d does not come to its end", text, in)
				}
			}
		}
	}
}

// TestFoldKeepsTheMeaning holds a folded expression against the one it was made of.
func TestFoldKeepsTheMeaning(t *testing.T) {
	ended := 0
	for seed := range uint64(3000) {
		m := newMaker(seed*13 + 1)
		e := m.loose(1 + m.below(15))
		tree := treeOf(t, "int x;int a[3];int f(){x=x+1;out(x);return x-2;}int g(int p,int q,int r){out(q);return p-r;}int main(){return 0;}")
		main := &tree.Funcs[2].Body[0]
		main.E = e
		in := []int64{m.below(3), 0, m.below(3) - 1, 1}
		before := impl.EvalC(tree, in, 1000, noFrames(tree))
		main.E = impl.Fold(e)
		after := impl.EvalC(tree, in, 1000, noFrames(tree))
		if before.Status != after.Status || before.Exit != after.Exit || !slices.Equal(before.Out, after.Out) || after.Used > before.Used {
			t.Fatalf("%s: %+v, folded to %s: %+v", show(e), before, show(main.E), after)
		}
		if before.Status == impl.EvDone {
			ended++
		}
	}
	if ended < 1000 {
		t.Errorf("only %d come to their end", ended)
	}
}

func TestFoldSharesNothing(t *testing.T) {
	for _, text := range []string{"1", "x", "1+2*3", "f(x,1+1)", "0&&x", "1&&f(x)", "x&&1", "0||a[1]", "!-~x", "g(1,2,in())*a[0]"} {
		e := roomy(exprOf(t, text), num(99))
		kept := whole(e)
		first := impl.Fold(e)
		want := slices.Clone(first)
		scribble(impl.Fold(e), num(77))
		if !slices.Equal(whole(e), kept) || !slices.Equal(first, want) {
			t.Errorf("%s: the argument was written into, or an answer shares memory", text)
		}
		scribble(e, num(66))
		if !slices.Equal(first, want) {
			t.Errorf("%s: the answer shares memory with the argument", text)
		}
	}
	two := roomy(nodes(num(1), num(2)), num(99))
	scribble(impl.Fold(two), num(77))
	if !slices.Equal(two, nodes(num(1), num(2))) {
		t.Errorf("what is no expression was written into")
	}
}

func TestSimplifySharesNothing(t *testing.T) {
	texts := []string{
		everyRun, "int main(){}", "int main(){main();}", "int f(){}int x;int main(){}",
		"int g;int a[2];int f(int p,int q){if(1){int x=p;return x;}out(q);}int h(){}int main(){if(in()){a[0]=g;}else{f(1+1,2);}while(0){h();}while(in()){g=1;}return f(g,a[1]);}",
	}
	for _, text := range texts {
		tree := roomyTree(treeOf(t, text))
		kept := cloneTree(wholeTree(tree))
		first := impl.Simplify(tree)
		want := cloneTree(first)
		second := impl.Simplify(tree)
		if !sameTree(first, second) {
			t.Errorf("%.300q: the second answer is another", text)
		}
		scribbleTree(t, second)
		if !sameTree(wholeTree(tree), kept) || !sameTree(first, want) {
			t.Errorf("%.300q: the argument was written into, or an answer shares memory", text)
		}
		scribbleTree(t, tree)
		if !sameTree(first, want) {
			t.Errorf("%.300q: the answer shares memory with the argument", text)
		}
	}
}
