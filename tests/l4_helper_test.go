package tests

import (
	"slices"
	"testing"

	"loop.example/s01725/impl"
)

// sameEval takes an empty list and nil for the same.
func sameEval(a, b impl.EvalRes) bool {
	return a.Status == b.Status && slices.Equal(a.Out, b.Out) && a.Exit == b.Exit && a.Used == b.Used && a.Deep == b.Deep
}

// noFrames gives a frame of 0 for each function.
func noFrames(t impl.Tree) []int64 { return make([]int64, len(t.Funcs)) }

// plenty is more fuel than the programs of the tests use that come to their end.
const plenty = 20000

// done is what EvalC tells of a program that came to its end.
func done(exit, used int64, out ...int64) impl.EvalRes {
	return impl.EvalRes{Status: impl.EvDone, Out: out, Exit: exit, Used: used}
}

func undefined(used int64, out ...int64) impl.EvalRes {
	return impl.EvalRes{Status: impl.EvUndef, Out: out, Used: used}
}

// gives checks what EvalC tells of a text's tree, with plenty of fuel and frames of 0.
func gives(t *testing.T, text string, in []int64, want impl.EvalRes) {
	t.Helper()
	tree := treeOf(t, text)
	if got := impl.EvalC(tree, in, plenty, noFrames(tree)); !sameEval(got, want) {
		t.Errorf("%.300q of %d: got %s, want %s", text, in, short(got), short(want))
	}
}

// tells checks what a program tells, whatever fuel it uses.
func tells(t *testing.T, text string, in []int64, want ...int64) {
	t.Helper()
	tree := treeOf(t, text)
	got := impl.EvalC(tree, in, plenty, noFrames(tree))
	if got.Status != impl.EvDone || !slices.Equal(got.Out, want) {
		t.Errorf("%.300q of %d: got %s, want %d", text, in, short(got), want)
	}
}

// stepper is a run of another kind: statements by a counter and a stack of the blocks
// that are open, expressions along their lists with a stack of values.
type stepper struct {
	tree    impl.Tree
	in      []int64
	fuel    int64
	frames  []int64
	active  []int64
	globals map[string][]int64
	res     impl.EvalRes
}

// stopped is what ends a run early: a status.
type stopped int64

// wantEval is what the document says of a run of a sound tree with arguments that are
// as they must be.
func wantEval(t impl.Tree, in []int64, fuel int64, frames []int64) impl.EvalRes {
	s := &stepper{tree: t, in: slices.Clone(in), fuel: fuel, frames: frames, globals: map[string][]int64{}}
	for _, g := range t.Globals {
		s.globals[g.Name] = make([]int64, max(1, g.Size))
	}
	s.res.Status = impl.EvDone
	func() {
		defer func() {
			if status, ok := recover().(stopped); ok {
				s.res.Status = int64(status)
			}
		}()
		s.res.Exit = s.run("main", nil)
	}()
	s.res.Used = fuel - s.fuel
	return s.res
}

func (s *stepper) burn() {
	if s.fuel == 0 {
		panic(stopped(impl.EvFuel))
	}
	s.fuel--
}

func (s *stepper) run(name string, args []int64) int64 {
	i := slices.IndexFunc(s.tree.Funcs, func(f impl.Func) bool { return f.Name == name })
	f := s.tree.Funcs[i]
	s.active = append(s.active, s.frames[i])
	sum := int64(0)
	for _, size := range s.active {
		sum += size
	}
	s.res.Deep = max(s.res.Deep, sum)
	vars := map[string]*int64{}
	for name, words := range s.globals {
		vars[name] = &words[0]
	}
	for j, name := range f.Params {
		word := args[j]
		vars[name] = &word
	}
	val := s.walk(f.Body, vars)
	s.active = s.active[:len(s.active)-1]
	return val
}

// walk runs a body; an open block ends at a statement and goes on at another.
func (s *stepper) walk(body []impl.Stmt, vars map[string]*int64) int64 {
	var open []struct{ end, to int64 }
	pc := int64(0)
	for {
		if last := len(open) - 1; last >= 0 && open[last].end == pc {
			pc = open[last].to
			open = open[:last]
			continue
		}
		if pc == int64(len(body)) {
			return 0
		}
		x := body[pc]
		s.burn()
		e := s.expr(x.E, vars)
		behind := pc + 1 + x.Then
		switch x.Kind {
		case impl.SDecl:
			vars[x.Name] = &e
		case impl.SSet:
			*vars[x.Name] = e
		case impl.SStore:
			f := s.expr(x.F, vars)
			*s.element(x.Name, e) = f
		case impl.SReturn:
			return e
		case impl.SOut:
			s.res.Out = append(s.res.Out, e)
		case impl.SIf:
			if e == 0 {
				pc = behind
				continue
			}
			open = append(open, struct{ end, to int64 }{behind, behind + x.Else})
		case impl.SWhile:
			if e == 0 {
				pc = behind
				continue
			}
			open = append(open, struct{ end, to int64 }{behind, pc})
		}
		pc++
	}
}

func (s *stepper) element(name string, at int64) *int64 {
	if words := s.globals[name]; at >= 0 && at < int64(len(words)) {
		return &words[at]
	}
	panic(stopped(impl.EvUndef))
}

// rightOnes gives, by the place of its first node, the EAnd or EOr of each right operand.
func rightOnes(e []impl.Node) map[int]int {
	rights := map[int]int{}
	var begins []int
	for i, n := range e {
		count := map[int64]int{impl.EIndex: 1, impl.ECall: int(n.Val), impl.EUn: 1, impl.EBin: 2, impl.EAnd: 2, impl.EOr: 2}[n.Kind]
		begins = append(begins, i)
		if n.Kind == impl.EAnd || n.Kind == impl.EOr {
			rights[begins[len(begins)-2]] = i
		}
		begins = begins[:len(begins)-count]
		if count > 0 {
			begins[len(begins)-1] = begins[:len(begins)+count][len(begins)-1]
		}
	}
	return rights
}

func (s *stepper) expr(e []impl.Node, vars map[string]*int64) int64 {
	rights := rightOnes(e)
	var stack []int64
	for i := 0; i < len(e); i++ {
		if at, there := rights[i]; there {
			s.burn()
			top := len(stack) - 1
			isTrue := stack[top] != 0
			if isTrue != (e[at].Kind == impl.EAnd) {
				stack[top] = oneIf(isTrue).Int64()
				i = at
				continue
			}
			stack = stack[:top]
		}
		s.burn()
		stack = s.node(e[i], stack, vars)
	}
	return stack[0]
}

// node does what a node does to the stack of values.
func (s *stepper) node(n impl.Node, stack []int64, vars map[string]*int64) []int64 {
	top := len(stack) - 1
	switch n.Kind {
	case impl.ENum:
		return append(stack, n.Val)
	case impl.EVar:
		return append(stack, *vars[n.Name])
	case impl.EIn:
		s.in = append(s.in, 0)
		v := s.in[0]
		s.in = s.in[1:]
		return append(stack, v)
	case impl.EIndex:
		stack[top] = *s.element(n.Name, stack[top])
	case impl.EUn:
		switch n.Val {
		case impl.UnNeg:
			stack[top] = applyWant(impl.BinSub, 0, stack[top])
		case impl.UnNot:
			stack[top] = applyWant(impl.BinEq, 0, stack[top])
		case impl.UnInv:
			stack[top] = applyWant(impl.BinXor, -1, stack[top])
		}
	case impl.EBin:
		stack[top-1] = applyWant(n.Val, stack[top-1], stack[top])
		return stack[:top]
	case impl.EAnd, impl.EOr:
		stack[top] = oneIf(stack[top] != 0).Int64()
	case impl.ECall:
		first := len(stack) - int(n.Val)
		return append(stack[:first], s.run(n.Name, slices.Clone(stack[first:])))
	}
	return stack
}
