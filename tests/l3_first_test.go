package tests

import (
	"slices"
	"strconv"
	"strings"
	"testing"

	"loop.example/s01725/impl"
)

// frameText has slots, in <>, for what may be wrong. Whatever stands in them, the
// numbers of functions and statements stay.
const frameText = `int g; int arr[3]; <globals>
int one(int q, <one>) { <s00> if (1) { <s02> } else { <s03> } <s04> }
int main(<main>) { out(0); <s11> <s12> one(0, 0); while (0) { <s15> } }
int two(int q, <two>) { <s20> while (1) { <s22> if (2) { <s24> } } }
<functions>`

// slip is one thing wrong: what is put into which slot, and what is told of it alone.
type slip struct {
	slot, text string
	want       impl.CheckRes
}

func fillSlips(slips ...slip) string {
	text := frameText
	for _, s := range slips {
		text = strings.Replace(text, "<"+s.slot+">", s.text, 1)
	}
	plain := strings.NewReplacer("<globals>", "", "<functions>", "", "<main>", "", "<one>", "int r", "<two>", "int r")
	text = plain.Replace(text)
	for strings.Contains(text, "<s") {
		at := strings.Index(text, "<s")
		text = text[:at] + "out(0);" + text[at+5:]
	}
	return text
}

// statementSlips are the things that may be wrong with a statement.
var statementSlips = []struct {
	text string
	err  int64
}{
	{"out(nope);", impl.CkName}, {"out(nope[0]);", impl.CkName}, {"nope();", impl.CkName}, {"nope = 1;", impl.CkName}, {"nope[0] = 1;", impl.CkName},
	{"out(two);", impl.CkName}, {"arr();", impl.CkName},
	{"out(arr);", impl.CkUse}, {"out(g[0]);", impl.CkUse}, {"arr = 1;", impl.CkUse}, {"g[0] = 1;", impl.CkUse},
	{"out(two());", impl.CkArgs}, {"one(1);", impl.CkArgs}, {"two(1, 2, 3);", impl.CkArgs}, {"main(1);", impl.CkArgs},
	{"int g = 1;", impl.CkTwice}, {"int arr = 1;", impl.CkTwice},
}

// allSlips gives them in the order in which they are looked for.
func allSlips() []slip {
	list := []slip{
		{"globals", "int g;", wrong(impl.CkTwice, -1, -1)},
		{"globals", "int one;", wrong(impl.CkTwice, 0, -1)},
		{"globals", "int two[1];", wrong(impl.CkTwice, 2, -1)},
		{"functions", "int main() {}", wrong(impl.CkTwice, 3, -1)},
		{"functions", "int three() {} int arr() {}", wrong(impl.CkTwice, 4, -1)},
		{"main", "int z", wrong(impl.CkMain, -1, -1)},
	}
	for fn, name := range []string{"one", "main", "two"} {
		number := int64(fn)
		if name != "main" {
			list = append(list, slip{name, "int q", wrong(impl.CkTwice, number, -1)})
		}
		for stmt := range int64(6) {
			slot := "s" + strconv.Itoa(fn) + strconv.Itoa(int(stmt))
			if !strings.Contains(frameText, "<"+slot+">") {
				continue
			}
			for _, s := range statementSlips {
				list = append(list, slip{slot, s.text, wrong(s.err, number, stmt)})
			}
		}
	}
	return append(list,
		slip{"s03", "main();", wrong(impl.CkRecursive, 0, -1)},
		slip{"s11", "main();", wrong(impl.CkRecursive, 1, -1)},
	)
}

// TestFirstOfTwo puts every two things wrong into one tree: the one that is looked for
// first is told, and not the other.
func TestFirstOfTwo(t *testing.T) {
	list := allSlips()
	checks(t, fillSlips(), sound)
	tried := map[[2]int64]int{}
	for i, a := range list {
		checks(t, fillSlips(a), a.want)
		for _, b := range list[i+1:] {
			if a.slot != b.slot {
				checks(t, fillSlips(a, b), a.want)
				tried[[2]int64{a.want.Err, b.want.Err}]++
			}
		}
	}
	body := []int64{impl.CkTwice, impl.CkName, impl.CkUse, impl.CkArgs}
	for _, first := range body {
		for _, second := range body {
			if tried[[2]int64{first, second}] == 0 {
				t.Errorf("%d before %d was not tried", first, second)
			}
		}
	}
}

// TestTreeFirst: with anything wrong, a tree that is not valid is told as such.
func TestTreeFirst(t *testing.T) {
	for _, s := range allSlips() {
		tree := treeOf(t, fillSlips(s))
		tree.Funcs[2].Body[0].Else = 1
		if got := impl.CheckC(tree); got != wrong(impl.CkTree, -1, -1) {
			t.Errorf("%+v: got %+v", s, got)
		}
	}
}

// TestFirstOfNodes puts every two wrong operands into one statement: E is looked at
// before F, node after node, and the Name of the statement last.
func TestFirstOfNodes(t *testing.T) {
	operands := []struct {
		text string
		err  int64
	}{
		{"nope", impl.CkName}, {"nope[0]", impl.CkName}, {"nope()", impl.CkName}, {"arr", impl.CkUse}, {"g[0]", impl.CkUse}, {"two(1)", impl.CkArgs},
	}
	forms := []string{
		"arr[X] = Y;", "out(X + Y);", "out(X && Y);", "out(X || Y);", "g = two(X, Y);", "two(X, Y);", "arr[-X] = !Y;", "arr[arr[X]] = two(1, Y);", "return 1 + (X * 2) + Y;",
		"if (two(X, 1) < Y) {}", "while (arr[X] == arr[Y]) {}", "int x = X - Y;",
		"if (X) {out(Y);}", "if (X) {} else {out(Y);}", "while (X) {out(Y);}",
		// What stands around an operand is looked at behind it.
		"g[X] = Y;", "arr = X + Y;", "nope = X | Y;", "nope[X] = Y;", "int g = X ^ Y;", "int arr = two(X, Y);", "out(nope(X, Y));", "out(g[X + Y]);", "out(two(X + Y));", "nope(X, Y);",
	}
	for _, form := range forms {
		for _, x := range operands {
			for _, y := range operands {
				s := strings.Replace(strings.Replace(form, "X", x.text, 1), "Y", y.text, 1)
				checks(t, fillSlips(slip{slot: "s12", text: s}), wrong(x.err, 1, 2))
			}
		}
	}
}

// TestNameLast: the Name of a statement is looked at behind its expressions.
func TestNameLast(t *testing.T) {
	for _, r := range []struct {
		text string
		err  int64
	}{
		{"int g = nope;", impl.CkName}, {"int g = arr;", impl.CkUse}, {"int g = two();", impl.CkArgs}, {"int g = g;", impl.CkTwice},
		{"nope = arr;", impl.CkUse}, {"arr = nope;", impl.CkName}, {"arr = two();", impl.CkArgs}, {"nope = two();", impl.CkArgs},
		{"nope[arr] = 1;", impl.CkUse}, {"nope[1] = arr;", impl.CkUse}, {"g[1] = nope;", impl.CkName}, {"g[nope] = arr;", impl.CkName}, {"g[1] = two(1);", impl.CkArgs},
	} {
		checks(t, fillSlips(slip{slot: "s24", text: r.text}), wrong(r.err, 2, 4))
	}
}

// TestOneOfTwoWrong: where a name is no variable at all, its use is not told, and where
// it is no function, its arguments are not.
func TestOneOfTwoWrong(t *testing.T) {
	checks(t, "int main(){nope(1, 2);}", wrong(impl.CkName, 0, 0))
	checks(t, "int main(){main[1] = 1;}", wrong(impl.CkName, 0, 0))
	checks(t, "int main(){if (1) {int x = 1;} x[0] = 1;}", wrong(impl.CkName, 0, 2))
}

// wantCheck tells the first thing wrong in another way than the program: a name's scope
// is a span of statement numbers.
func wantCheck(t impl.Tree) impl.CheckRes {
	if !impl.ValidTree(t) {
		return wrong(impl.CkTree, -1, -1)
	}
	for i, g := range t.Globals {
		if slices.ContainsFunc(t.Globals[:i], func(h impl.Global) bool { return h.Name == g.Name }) {
			return wrong(impl.CkTwice, -1, -1)
		}
	}
	for i, f := range t.Funcs {
		if hasGlobal(t, f.Name) || firstFunc(t, f.Name) < i {
			return wrong(impl.CkTwice, int64(i), -1)
		}
	}
	if main := firstFunc(t, "main"); main < 0 || len(t.Funcs[main].Params) > 0 {
		return wrong(impl.CkMain, -1, -1)
	}
	for i, f := range t.Funcs {
		for j, p := range f.Params {
			if hasGlobal(t, p) || slices.Contains(f.Params[:j], p) {
				return wrong(impl.CkTwice, int64(i), -1)
			}
		}
		for j := range f.Body {
			if err := wantStmt(t, f, j); err != impl.CkOk {
				return wrong(err, int64(i), int64(j))
			}
		}
	}
	return wantCircle(t)
}

func hasGlobal(t impl.Tree, name string) bool {
	return slices.ContainsFunc(t.Globals, func(g impl.Global) bool { return g.Name == name })
}

func firstFunc(t impl.Tree, name string) int {
	return slices.IndexFunc(t.Funcs, func(f impl.Func) bool { return f.Name == name })
}

func wantStmt(t impl.Tree, f impl.Func, j int) int64 {
	s := f.Body[j]
	for _, n := range slices.Concat(s.E, s.F) {
		err := int64(impl.CkOk)
		switch n.Kind {
		case impl.EVar, impl.EIndex:
			err = wantUse(t, f, j, n.Name, n.Kind == impl.EIndex)
		case impl.ECall:
			callee := firstFunc(t, n.Name)
			if callee < 0 {
				err = impl.CkName
			} else if int(n.Val) != len(t.Funcs[callee].Params) {
				err = impl.CkArgs
			}
		}
		if err != impl.CkOk {
			return err
		}
	}
	switch s.Kind {
	case impl.SDecl:
		earlier := func(d impl.Stmt) bool { return d.Kind == impl.SDecl && d.Name == s.Name }
		if hasGlobal(t, s.Name) || slices.Contains(f.Params, s.Name) || slices.ContainsFunc(f.Body[:j], earlier) {
			return impl.CkTwice
		}
	case impl.SSet, impl.SStore:
		return wantUse(t, f, j, s.Name, s.Kind == impl.SStore)
	}
	return impl.CkOk
}

// wantUse looks for the name among the globals, the parameters and the declarations
// whose block has not ended at statement j.
func wantUse(t impl.Tree, f impl.Func, j int, name string, array bool) int64 {
	word := slices.Contains(f.Params, name)
	for d := range j {
		if f.Body[d].Kind == impl.SDecl && f.Body[d].Name == name && j < blockEnd(f.Body, d) {
			word = true
		}
	}
	isArray := false
	for _, g := range t.Globals {
		if g.Name == name {
			word, isArray = g.Size == 0, g.Size > 0
		}
	}
	if !word && !isArray {
		return impl.CkName
	}
	if array != isArray {
		return impl.CkUse
	}
	return impl.CkOk
}

// blockEnd gives the number behind the last statement of the smallest block around d.
func blockEnd(body []impl.Stmt, d int) int {
	end := len(body)
	for i, s := range body[:d] {
		then := i + 1 + int(s.Then)
		other := then + int(s.Else)
		if d < then {
			end = min(end, then)
		} else if d < other {
			end = min(end, other)
		}
	}
	return end
}

// wantCircle follows all calls at once: a matrix of what comes to what.
func wantCircle(t impl.Tree) impl.CheckRes {
	n := len(t.Funcs)
	comes := make([][]bool, n)
	for i := range comes {
		comes[i] = make([]bool, n)
		for _, j := range wantCalls(t, i) {
			comes[i][j] = true
		}
	}
	for k := range n {
		for i := range n {
			for j := range n {
				comes[i][j] = comes[i][j] || comes[i][k] && comes[k][j]
			}
		}
	}
	main := firstFunc(t, "main")
	for i := range n {
		if comes[i][i] && (i == main || comes[main][i]) {
			return wrong(impl.CkRecursive, int64(i), -1)
		}
	}
	return sound
}

// wantCalls asks for each function whether f calls it.
func wantCalls(t impl.Tree, f int) []int64 {
	var calls []int64
	for i, callee := range t.Funcs {
		named := func(n impl.Node) bool { return n.Kind == impl.ECall && n.Name == callee.Name }
		calling := func(s impl.Stmt) bool { return slices.ContainsFunc(s.E, named) || slices.ContainsFunc(s.F, named) }
		if firstFunc(t, callee.Name) == i && slices.ContainsFunc(t.Funcs[f].Body, calling) {
			calls = append(calls, int64(i))
		}
	}
	return calls
}

// checkAgainst checks a tree, and gives what was told of it.
func checkAgainst(t *testing.T, tree impl.Tree) impl.CheckRes {
	t.Helper()
	got, want := impl.CheckC(tree), wantCheck(tree)
	if got != want {
		t.Errorf("got %+v, want %+v: %.600q", got, want, impl.PrintC(tree))
	}
	for f := range tree.Funcs {
		calls, want := impl.Calls(tree, int64(f)), wantCalls(tree, f)
		if impl.ValidTree(tree) && !slices.Equal(calls, want) {
			t.Errorf("function %d calls %v, not %v: %.600q", f, calls, want, impl.PrintC(tree))
		}
	}
	return got
}

// TestMadeTrees is promise 4: trees that are made to be sound are, and with something
// changed the first thing wrong is told.
func TestMadeTrees(t *testing.T) {
	m := newMaker(31)
	told := map[int64]int{}
	for range 6000 {
		tree := m.soundTree(6)
		if got := checkAgainst(t, tree); got != sound {
			t.Fatalf("got %+v: %.600q", got, impl.PrintC(tree))
		}
		for range 1 + m.below(3) {
			m.spoil(&tree)
		}
		told[checkAgainst(t, tree).Err]++
	}
	for err := int64(impl.CkOk); err <= impl.CkRecursive; err++ {
		if told[err] < 60 {
			t.Errorf("%d was told only %d times", err, told[err])
		}
	}
}

// anyName gives a name that made trees have, or one that they do not.
func (m *maker) anyName() string {
	return pick(m.numbers, []string{"g0", "g1", "g2", "g3", "f0", "f1", "f2", "f3", "main", "p0", "p1", "p2", "x", "y", "z", "nope"})
}

// spoil changes something in a tree.
func (m *maker) spoil(t *impl.Tree) {
	f := &t.Funcs[m.below(int64(len(t.Funcs)))]
	what := m.below(12)
	switch {
	case what == 0:
		f.Name = m.anyName()
	case what == 1 && len(t.Globals) > 0:
		t.Globals[m.below(int64(len(t.Globals)))].Name = m.anyName()
	case what == 2 && len(t.Globals) > 0:
		g := &t.Globals[m.below(int64(len(t.Globals)))]
		g.Size = 3 - min(g.Size, 3)
	case what == 3:
		f.Params = append(f.Params, m.anyName())
	case what == 4 && len(f.Params) > 0:
		f.Params[m.below(int64(len(f.Params)))] = m.anyName()
	case what == 5 && len(f.Params) > 0:
		f.Params = f.Params[1:]
	case what < 8:
		callee := pick(m.numbers, t.Funcs)
		var e []impl.Node
		for range callee.Params {
			e = append(e, num(1))
		}
		f.Body = append(f.Body, impl.Stmt{Kind: impl.SCall, E: append(e, call(callee.Name, int64(len(callee.Params))))})
	case len(f.Body) > 0:
		m.spoilStmt(&f.Body[m.below(int64(len(f.Body)))])
	}
}

func (m *maker) spoilStmt(s *impl.Stmt) {
	n := &s.E[m.below(int64(len(s.E)))]
	switch what := m.below(9); {
	case s.Name != "" && what < 3:
		s.Name = m.anyName()
	case s.Kind == impl.SIf && what < 2:
		s.Then, s.Else = s.Else, s.Then
	case (s.Kind == impl.SIf || s.Kind == impl.SWhile) && what < 6:
		s.Then += m.below(3) - 1
	case n.Name != "":
		n.Name = m.anyName()
	case n.Kind == impl.ENum && what < 4:
		*n = variable(m.anyName())
	case n.Kind == impl.ENum && what < 8:
		*n = call(m.anyName(), 0)
	case n.Kind == impl.ENum:
		n.Val = maxWord + 1
	}
}
