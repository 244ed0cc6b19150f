package tests

import (
	"slices"
	"strconv"
	"strings"
	"testing"

	"loop.example/s01725/impl"
)

// growth makes valid trees from a row of numbers.
type growth struct {
	*numbers
	names []string
}

func newGrowth(seed uint64) growth {
	return growth{&numbers{seed}, []string{"a", "b", "x_1", "_", "main", "in_", "abcdefghijklmnopqrst"}}
}

func (g growth) name() string { return g.names[g.below(int64(len(g.names)))] }

// expr gives an expression of about size nodes.
func (g growth) expr(size int64) []impl.Node {
	if size <= 1 {
		return nodes([]impl.Node{num(g.below(3)), num(maxWord - g.below(2)), variable(g.name()), ask, call(g.name(), 0)}[g.below(5)])
	}
	half := 1 + g.below(size)
	switch g.below(8) {
	case 0:
		return append(g.expr(size-1), un(g.below(3)))
	case 1:
		return append(g.expr(size-1), index(g.name()))
	case 2:
		var e []impl.Node
		count := 1 + g.below(6)
		for range count {
			e = append(e, g.expr(size/count)...)
		}
		return append(e, call(g.name(), count))
	default:
		op := operators[g.below(int64(len(operators)))].node
		return append(append(g.expr(half), g.expr(size-half)...), op)
	}
}

// chain gives an expression that is so deep, about as deep as its print nests.
func (g growth) chain(depth int64) []impl.Node {
	e := g.expr(1)
	for range depth {
		switch g.below(4) {
		case 0:
			e = append(e, un(g.below(3)))
		case 1:
			e = append(e, index(g.name()))
		case 2:
			e = append(e, call(g.name(), 1))
		case 3:
			e = append(append(g.expr(1), e...), bin(impl.BinRem))
		}
	}
	return e
}

// block gives about count statements.
func (g growth) block(count int64) []impl.Stmt {
	var list []impl.Stmt
	for int64(len(list)) < count {
		inner := g.below(count - int64(len(list)))
		e := g.expr(g.below(12))
		switch kind := 1 + g.below(8); kind {
		case impl.SIf:
			then := g.block(g.below(inner + 1))
			other := g.block(inner - min(inner, int64(len(then))))
			list = append(list, impl.Stmt{Kind: kind, E: e, Then: int64(len(then)), Else: int64(len(other))})
			list = append(append(list, then...), other...)
		case impl.SWhile:
			then := g.block(inner)
			list = append(append(list, impl.Stmt{Kind: kind, E: e, Then: int64(len(then))}), then...)
		case impl.SStore:
			list = append(list, impl.Stmt{Kind: kind, Name: g.name(), E: e, F: g.expr(g.below(6))})
		case impl.SCall:
			list = append(list, impl.Stmt{Kind: kind, E: append(e, call(g.name(), 1))})
		case impl.SDecl, impl.SSet:
			list = append(list, impl.Stmt{Kind: kind, Name: g.name(), E: e})
		default:
			list = append(list, impl.Stmt{Kind: kind, E: e})
		}
	}
	return list
}

func (g growth) tree() impl.Tree {
	var tree impl.Tree
	for range g.below(4) {
		tree.Globals = append(tree.Globals, impl.Global{Name: g.name(), Size: g.below(3) * g.below(2000)})
	}
	for range g.below(4) {
		f := impl.Func{Name: g.name(), Body: g.block(g.below(20))}
		for range g.below(impl.ArgMax + 1) {
			f.Params = append(f.Params, g.name())
		}
		tree.Funcs = append(tree.Funcs, f)
	}
	return tree
}

// TestRound is promise 3: a print is read as the tree that was printed, unless it is
// too long or too deep.
func TestRound(t *testing.T) {
	g := newGrowth(11)
	for range 4000 {
		checkRound(t, g.tree())
	}
	for range 300 {
		checkRound(t, body(impl.Stmt{Kind: impl.SOut, E: g.expr(g.below(200))}, impl.Stmt{Kind: impl.SReturn, E: g.expr(g.below(600))}))
	}
	found := map[int64]int{}
	for range 300 {
		found[checkRound(t, body(impl.Stmt{Kind: impl.SOut, E: g.chain(20 + g.below(30))}))]++
	}
	if found[impl.SynOk] < 30 || found[impl.SynNest] < 30 {
		t.Errorf("too few of a kind were tried: %v", found)
	}
}

// checkRound gives what reading the print of the tree told.
func checkRound(t *testing.T, tree impl.Tree) int64 {
	t.Helper()
	if !impl.ValidTree(tree) {
		t.Fatalf("not valid: %s", short(tree))
	}
	text := impl.PrintC(tree)
	r := impl.ParseC(text)
	switch {
	case len(text) > impl.TextMax:
		refused(t, string(text), impl.SynLong, 0)
	case r.Err == impl.SynNest:
		checkFirst(t, string(text))
	case r.Err != impl.SynOk || r.At != 0 || !sameTree(r.Tree, tree):
		t.Errorf("%s prints %.300q, which gives %s", short(tree), text, short(r))
	}
	return r.Err
}

// full writes an expression with parentheses around every operand, and spaces anywhere.
func (g growth) full(e []impl.Node) string {
	var stack []string
	for _, n := range e {
		count := map[int64]int{impl.EIndex: 1, impl.ECall: int(n.Val), impl.EUn: 1, impl.EBin: 2, impl.EAnd: 2, impl.EOr: 2}[n.Kind]
		parts := slices.Clone(stack[len(stack)-count:])
		stack = append(stack[:len(stack)-count], g.fullNode(n, parts)+g.gap())
	}
	return stack[0]
}

func (g growth) fullNode(n impl.Node, parts []string) string {
	switch n.Kind {
	case impl.ENum:
		return strconv.FormatInt(n.Val, 10)
	case impl.EVar:
		return n.Name
	case impl.EIndex:
		return n.Name + g.gap() + "[" + g.gap() + parts[0] + "]"
	case impl.ECall:
		return n.Name + g.gap() + "(" + strings.Join(parts, ","+g.gap()) + g.gap() + ")"
	case impl.EIn:
		return "in" + g.gap() + "(" + g.gap() + ")"
	case impl.EUn:
		return "(" + []string{"-", "!", "~"}[n.Val] + g.gap() + parts[0] + ")"
	}
	for _, op := range operators {
		if op.node == n {
			return "(" + parts[0] + op.symbol + g.gap() + parts[1] + ")"
		}
	}
	return "?"
}

func (g growth) gap() string { return []string{"", "", " ", "\n", " \n "}[g.below(5)] }

// TestParseFull reads expressions of which the test knows the tree, written in another way.
func TestParseFull(t *testing.T) {
	g := newGrowth(13)
	right := 0
	for range 3000 {
		e := g.expr(g.below(30))
		text := "int f(){return " + g.full(e) + ";}"
		r := impl.ParseC([]byte(text))
		if r.Err == impl.SynNest {
			continue
		}
		right++
		parses(t, text, body(impl.Stmt{Kind: impl.SReturn, E: e}))
	}
	if right < 2000 {
		t.Errorf("only %d were read", right)
	}
}
