package tests

import (
	"slices"
	"strconv"
	"testing"

	"loop.example/s01725/impl"
)

// sound is what CheckC tells of a tree with nothing wrong.
var sound = impl.CheckRes{Err: impl.CkOk, Func: -1, Stmt: -1}

func wrong(err, fn, stmt int64) impl.CheckRes {
	return impl.CheckRes{Err: err, Func: fn, Stmt: stmt}
}

func treeOf(t *testing.T, text string) impl.Tree {
	t.Helper()
	r := impl.ParseC([]byte(text))
	if r.Err != impl.SynOk {
		t.Fatalf("%.300q: error %d at %d", text, r.Err, r.At)
	}
	return r.Tree
}

// checks checks what is told of a text's tree.
func checks(t *testing.T, text string, want impl.CheckRes) {
	t.Helper()
	if got := impl.CheckC(treeOf(t, text)); got != want {
		t.Errorf("%.300q: got %+v, want %+v", text, got, want)
	}
}

// maker makes sound trees from a row of numbers. Functions call only those of a higher
// rank, so that there is no circle.
type maker struct {
	*numbers
	tree  impl.Tree
	rank  []int64
	fn    int
	scope []string
	used  []string
	left  int64
}

func pick[T any](n *numbers, xs []T) T { return xs[n.below(int64(len(xs)))] }

func newMaker(seed uint64) *maker { return &maker{numbers: &numbers{seed}} }

// soundTree gives a tree of up to so many functions, with main among them.
func (m *maker) soundTree(most int64) impl.Tree {
	m.tree = impl.Tree{}
	for i := range m.below(5) {
		size := m.below(2) * (1 + m.below(5))
		m.tree.Globals = append(m.tree.Globals, impl.Global{Name: "g" + strconv.Itoa(int(i)), Size: size})
	}
	count := 1 + m.below(most)
	m.rank = nil
	for i := range count {
		f := impl.Func{Name: "f" + strconv.Itoa(int(i))}
		for j := range m.below(4) {
			f.Params = append(f.Params, "p"+strconv.Itoa(int(j)))
		}
		m.tree.Funcs = append(m.tree.Funcs, f)
		m.rank = append(m.rank, int64(m.next()))
	}
	main := &m.tree.Funcs[m.below(count)]
	main.Name, main.Params = "main", nil
	for i := range m.tree.Funcs {
		m.body(i)
	}
	return m.tree
}

func (m *maker) body(i int) {
	f := &m.tree.Funcs[i]
	m.fn = i
	m.scope = slices.Clone(f.Params)
	m.used = slices.Clone(f.Params)
	m.left = m.below(14)
	for m.left > 0 {
		f.Body = append(f.Body, m.block()...)
	}
}

// names gives the globals that are arrays, or all single words in scope.
func (m *maker) names(array bool) []string {
	var names []string
	for _, g := range m.tree.Globals {
		if array == (g.Size > 0) {
			names = append(names, g.Name)
		}
	}
	if !array {
		names = append(names, m.scope...)
	}
	return names
}

// callees gives the functions that may be called here.
func (m *maker) callees() []impl.Func {
	var funcs []impl.Func
	for i, f := range m.tree.Funcs {
		if m.rank[i] > m.rank[m.fn] {
			funcs = append(funcs, f)
		}
	}
	return funcs
}

func (m *maker) expr(size int64) []impl.Node {
	if size <= 1 {
		if words := m.names(false); len(words) > 0 && m.below(3) > 0 {
			return nodes(variable(pick(m.numbers, words)))
		}
		return nodes([]impl.Node{num(m.below(4)), num(-m.below(4)), ask, num(minWord), num(maxWord)}[m.below(5)])
	}
	switch m.below(6) {
	case 0:
		return append(m.expr(size-1), un(m.below(3)))
	case 1:
		if arrays := m.names(true); len(arrays) > 0 {
			return append(m.expr(size-1), index(pick(m.numbers, arrays)))
		}
	case 2:
		if e := m.call(size - 1); e != nil {
			return e
		}
	}
	half := 1 + m.below(size-1)
	op := operators[m.below(int64(len(operators)))].node
	return append(append(m.expr(half), m.expr(size-1-half)...), op)
}

// call gives a call with arguments, or nothing if no function may be called.
func (m *maker) call(size int64) []impl.Node {
	funcs := m.callees()
	if len(funcs) == 0 {
		return nil
	}
	f := pick(m.numbers, funcs)
	var e []impl.Node
	for range f.Params {
		e = append(e, m.expr(size/int64(len(f.Params)))...)
	}
	return append(e, call(f.Name, int64(len(f.Params))))
}

// fresh gives a name that the function has not given yet; it may be that of a function.
func (m *maker) fresh() string {
	for {
		name := pick(m.numbers, []string{"x", "y", "z", "main", "f0", "f1", "f2", "p0", "p1", "p2", "p3", "x" + strconv.Itoa(len(m.used))})
		if !slices.Contains(m.used, name) {
			m.used = append(m.used, name)
			return name
		}
	}
}

// block gives the statements of a block, and what it declares goes out of scope.
func (m *maker) block() []impl.Stmt {
	outer := len(m.scope)
	var list []impl.Stmt
	for count := m.below(5); count > 0 && m.left > 0; count-- {
		list = append(list, m.statement()...)
	}
	m.scope = m.scope[:outer]
	return list
}

func (m *maker) statement() []impl.Stmt {
	m.left--
	e := m.expr(m.below(7))
	switch kind := 1 + m.below(8); kind {
	case impl.SDecl:
		name := m.fresh()
		m.scope = append(m.scope, name)
		return []impl.Stmt{{Kind: kind, Name: name, E: e}}
	case impl.SSet:
		if words := m.names(false); len(words) > 0 {
			return []impl.Stmt{{Kind: kind, Name: pick(m.numbers, words), E: e}}
		}
	case impl.SStore:
		if arrays := m.names(true); len(arrays) > 0 {
			return []impl.Stmt{{Kind: kind, Name: pick(m.numbers, arrays), E: e, F: m.expr(m.below(5))}}
		}
	case impl.SIf:
		then, other := m.block(), m.block()
		list := append([]impl.Stmt{{Kind: kind, E: e, Then: int64(len(then)), Else: int64(len(other))}}, then...)
		return append(list, other...)
	case impl.SWhile:
		then := m.block()
		return append([]impl.Stmt{{Kind: kind, E: e, Then: int64(len(then))}}, then...)
	case impl.SReturn:
		return []impl.Stmt{{Kind: kind, E: e}}
	case impl.SCall:
		if e := m.call(4); e != nil {
			return []impl.Stmt{{Kind: kind, E: e}}
		}
	}
	return []impl.Stmt{{Kind: impl.SOut, E: e}}
}
