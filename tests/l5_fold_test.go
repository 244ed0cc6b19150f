package tests

import (
	"slices"
	"strings"
	"testing"

	"loop.example/s01725/impl"
)

// exprOf gives the nodes of an expression; names need not be known.
func exprOf(t *testing.T, text string) []impl.Node {
	t.Helper()
	return treeOf(t, returning(text)).Funcs[0].Body[0].E
}

// show gives an expression as a text.
func show(e []impl.Node) string {
	text := string(impl.PrintC(body(impl.Stmt{Kind: impl.SReturn, E: e})))
	return strings.TrimSuffix(strings.TrimPrefix(text, "int f() {\nreturn "), ";\n}\n")
}

func foldsTo(t *testing.T, e, want []impl.Node) {
	t.Helper()
	if got := impl.Fold(e); !slices.Equal(got, want) {
		t.Errorf("%.300s: got %.300s, want %.300s", short(e), short(got), short(want))
	}
}

func TestFoldRules(t *testing.T) {
	rows := [][2]string{
		{"1", "1"}, {"x", "x"}, {"in()", "in()"}, {"a[1]", "a[1]"}, {"f()", "f()"}, {"f(1,x)", "f(1, x)"},
		{"-3", "-3"}, {"!3", "0"}, {"!0", "1"}, {"~3", "-4"}, {"-x", "-x"}, {"!x", "!x"}, {"~x", "~x"}, {"- -3", "3"}, {"-!~5", "0"}, {"!-x", "!-x"}, {"- -x", "--x"},
		{"1+2", "3"}, {"1+2*3", "7"}, {"(1+2)*3", "9"}, {"7/2", "3"}, {"7/0", "-1"}, {"7%0", "7"}, {"7%4", "3"}, {"1<<33", "2"}, {"-8>>1", "-4"},
		{"1<2", "1"}, {"2<=1", "0"}, {"2>1", "1"}, {"1>=2", "0"}, {"1==1", "1"}, {"1!=1", "0"}, {"6&3", "2"}, {"6^3", "5"}, {"6|3", "7"}, {"1-2", "-1"},
		{"2147483647+1", "-2147483648"}, {"-2147483647-2", "2147483647"}, {"65536*65536", "0"}, {"-(-2147483647-1)", "-2147483648"}, {"(-2147483647-1)/-1", "-2147483648"},
		{"x+1", "x + 1"}, {"1+x", "1 + x"}, {"x+1+2", "x + 1 + 2"}, {"x+(1+2)", "x + 3"}, {"1+2+x", "3 + x"}, {"x*0", "x * 0"}, {"0*x", "0 * x"}, {"x-x", "x - x"}, {"x+0", "x + 0"}, {"(1+2)*(x+(3+4))", "3 * (x + 7)"},
		{"0&&x", "0"}, {"0&&7", "0"}, {"0&&f(1+2)", "0"}, {"1&&x", "x != 0"}, {"-5&&x", "x != 0"}, {"1&&7", "1"}, {"1&&-7", "1"}, {"1&&0", "0"}, {"x&&0", "x && 0"}, {"x&&1", "x && 1"}, {"x&&y", "x && y"}, {"x&&(1+2)", "x && 3"},
		{"1||x", "1"}, {"-5||x", "1"}, {"7||0", "1"}, {"7||f(1+2)", "1"}, {"0||x", "x != 0"}, {"0||7", "1"}, {"0||-7", "1"}, {"0||0", "0"}, {"x||0", "x || 0"}, {"x||1", "x || 1"}, {"x||y", "x || y"}, {"x||!0", "x || 1"},
		{"(1-1)&&x", "0"}, {"(1+1)&&x", "x != 0"}, {"(1+1)&&(2*3)", "1"}, {"(1+1)&&(2-2)", "0"}, {"(1-1)||(2*3)", "1"}, {"(1-1)||x", "x != 0"}, {"(1+1)||x", "1"},
		{"1&&2&&x", "x != 0"}, {"1&&x&&2", "x != 0 && 2"}, {"0||0||x", "x != 0"}, {"0||x||1", "x != 0 || 1"}, {"x&&0&&y", "x && 0 && y"}, {"1&&(0||x)", "x != 0 != 0"}, {"1&&(1&&x)", "x != 0 != 0"}, {"0||(0&&x)", "0"}, {"(1&&x)+(2*3)", "(x != 0) + 6"},
		{"1&&x+1", "x + 1 != 0"}, {"1&&f(2+3,x)", "f(5, x) != 0"}, {"0||a[1+1]", "a[2] != 0"}, {"0||-x", "-x != 0"}, {"0||in()", "in() != 0"},
		{"a[1+2]", "a[3]"}, {"a[x+2*3]", "a[x + 6]"}, {"f(1+1,!x,2&&3)", "f(2, !x, 1)"}, {"f(f(1+1))+f(2*2)", "f(f(2)) + f(4)"}, {"-a[0||2]", "-a[1]"}, {"-(1+2)*x", "-3 * x"},
	}
	for _, r := range rows {
		e := exprOf(t, r[0])
		if got := show(impl.Fold(e)); got != r[1] {
			t.Errorf("%s: got %s, want %s", r[0], got, r[1])
		}
		if got := show(impl.Fold(impl.Fold(e))); got != r[1] {
			t.Errorf("%s folded twice: got %s, want %s", r[0], got, r[1])
		}
	}
}

func TestFoldOperatorsAtTheEndsOfWords(t *testing.T) {
	for _, a := range edgeWords {
		x := int64(int32(a))
		foldsTo(t, nodes(num(x), un(impl.UnNeg)), nodes(num(applyWant(impl.BinSub, 0, x))))
		foldsTo(t, nodes(num(x), un(impl.UnNot)), nodes(num(applyWant(impl.BinEq, 0, x))))
		foldsTo(t, nodes(num(x), un(impl.UnInv)), nodes(num(applyWant(impl.BinSub, -1, x))))
		truth := num(oneIf(x != 0).Int64())
		foldsTo(t, nodes(num(x), num(1), both), nodes(truth))
		foldsTo(t, nodes(num(1), num(x), both), nodes(truth))
		foldsTo(t, nodes(num(x), num(0), either), nodes(truth))
		foldsTo(t, nodes(num(0), num(x), either), nodes(truth))
		for _, b := range edgeWords {
			y := int64(int32(b))
			for op := int64(impl.BinMul); op <= impl.BinOr; op++ {
				foldsTo(t, nodes(num(x), num(y), bin(op)), nodes(num(applyWant(op, x, y))))
			}
		}
	}
}

func TestFoldOfWhatIsNoExpression(t *testing.T) {
	rows := map[string][]impl.Node{
		"nil": nil, "empty": {}, "two": nodes(num(1), num(2)), "two of which one folds": nodes(num(1), num(1), num(2), bin(impl.BinAdd)),
		"no operand": nodes(un(impl.UnNeg)), "one operand": nodes(num(1), bin(impl.BinAdd)), "one operand of EAnd": nodes(num(0), both), "no index": nodes(index("a")), "no argument": nodes(num(1), call("f", 2)),
		"an operand that comes too late": nodes(num(1), bin(impl.BinAdd), num(2)), "EOr alone": nodes(either),
		"no kind": {{Kind: 0}}, "no such kind": {{Kind: 10}}, "a kind below 0": {{Kind: -1}}, "a name at ENum": {{Kind: impl.ENum, Name: "x"}}, "a name at EBin": nodes(num(1), num(2), impl.Node{Kind: impl.EBin, Name: "x"}),
		"no name": nodes(variable("")), "a word that is reserved": nodes(variable("int")), "a name too long": nodes(variable(strings.Repeat("x", 21))), "a value at EVar": {{Kind: impl.EVar, Name: "x", Val: 1}},
		"no word": nodes(num(maxWord + 1)), "no word below": nodes(num(minWord - 1)), "no word within": nodes(num(1<<32), un(impl.UnNot)), "no such EUn": nodes(num(1), un(3)), "EUn below 0": nodes(num(1), un(-1)),
		"no such EBin": nodes(num(1), num(2), bin(16)), "EBin below 0": nodes(num(1), num(2), bin(-1)), "a value at EAnd": nodes(num(1), num(2), impl.Node{Kind: impl.EAnd, Val: 1}), "a value at EIn": {{Kind: impl.EIn, Val: 1}},
		"arguments below 0": nodes(call("f", -1)), "too many arguments": nodes(num(1), num(1), num(1), num(1), num(1), num(1), num(1), call("f", 7)), "what is wrong would go away": nodes(num(0), variable("int"), both),
	}
	for what, e := range rows {
		if got := impl.Fold(e); len(got) != 0 {
			t.Errorf("%s: %s", what, short(got))
		}
	}
}

// slowFold folds by one rule at one place, again and again, along the list.
func slowFold(e []impl.Node) []impl.Node {
	e = slices.Clone(e)
	for i := 0; i < len(e); i++ {
		if begin, in := foldAt(e, i); in != nil {
			e = slices.Concat(e[:begin], in, e[i+1:])
			i = -1
		}
	}
	return e
}

// foldAt gives what takes the place of the expression that ends at i, and its beginning.
func foldAt(e []impl.Node, i int) (int, []impl.Node) {
	isNum := func(j int) bool { return j >= 0 && e[j].Kind == impl.ENum }
	switch n := e[i]; n.Kind {
	case impl.EUn:
		if isNum(i - 1) {
			zero := [3]int64{impl.BinSub, impl.BinEq, impl.BinXor}[n.Val]
			other := [3]int64{0, 0, -1}[n.Val]
			return i - 1, nodes(num(applyWant(zero, other, e[i-1].Val)))
		}
	case impl.EBin:
		if isNum(i-1) && isNum(i-2) {
			return i - 2, nodes(num(applyWant(n.Val, e[i-2].Val, e[i-1].Val)))
		}
	case impl.EAnd, impl.EOr:
		right := beginOf(e, i-1)
		if !isNum(right - 1) {
			return 0, nil
		}
		left := e[right-1].Val
		if (left != 0) == (n.Kind == impl.EOr) {
			return right - 1, nodes(num(oneIf(left != 0).Int64()))
		}
		return right - 1, slices.Concat(e[right:i], nodes(num(0), bin(impl.BinNe)))
	}
	return 0, nil
}

// beginOf gives the first node of the expression whose last node is at end.
func beginOf(e []impl.Node, end int) int {
	for begin := end; ; begin-- {
		if impl.ValidTree(body(impl.Stmt{Kind: impl.SReturn, E: e[begin : end+1]})) {
			return begin
		}
	}
}

func TestFoldOfMadeExpressions(t *testing.T) {
	less := 0
	for seed := range uint64(4000) {
		m := newMaker(seed*17 + 3)
		e := m.loose(1 + m.below(24))
		want := slowFold(e)
		foldsTo(t, e, want)
		foldsTo(t, want, want)
		if len(want) < len(e) {
			less++
		}
	}
	if less < 1000 {
		t.Errorf("only %d made expressions fold", less)
	}
}

// loose gives an expression of any names, many numbers among them.
func (m *maker) loose(size int64) []impl.Node {
	if size <= 1 {
		leaf := pick(m.numbers, nodes(num(0), num(0), num(1), num(-1), num(minWord), num(5), variable("x"), ask, call("f", 0)))
		return nodes(leaf)
	}
	switch m.below(8) {
	case 0:
		return append(m.loose(size-1), un(m.below(3)))
	case 1:
		return append(m.loose(size-1), index("a"))
	case 2:
		return slices.Concat(m.loose(size/3), m.loose(size/3), m.loose(size/3), nodes(call("g", 3)))
	}
	half := 1 + m.below(size-1)
	op := pick(m.numbers, nodes(both, both, either, either, bin(m.below(16)), bin(m.below(16))))
	return slices.Concat(m.loose(half), m.loose(size-1-half), nodes(op))
}

// longLists gives expressions of so many nodes (an odd number), and what they fold to.
func longLists(count int) [][2][]impl.Node {
	half := (count - 1) / 2
	signs := append(nodes(variable("x")), slices.Repeat(nodes(un(impl.UnInv)), count-1)...)
	known := append(nodes(num(7)), slices.Repeat(nodes(un(impl.UnInv)), count-1)...)
	left := append(nodes(ask), slices.Repeat(nodes(num(1), bin(impl.BinAdd)), half)...)
	sum := append(nodes(num(0)), slices.Repeat(nodes(num(1), bin(impl.BinAdd)), half)...)
	right := slices.Concat(slices.Repeat(nodes(num(2)), half), nodes(ask), slices.Repeat(nodes(bin(impl.BinSub)), half))
	chain := slices.Concat(slices.Repeat(nodes(num(2)), half), nodes(ask), slices.Repeat(nodes(both), half))
	return [][2][]impl.Node{
		{signs, signs}, {known, nodes(num(7))}, {left, left}, {sum, nodes(num(int64(half)))}, {right, right},
		{chain, append(nodes(ask), slices.Repeat(nodes(num(0), bin(impl.BinNe)), half)...)},
	}
}

// TestFoldAtNodeMax: what has more nodes is in no valid tree, and so no expression.
func TestFoldAtNodeMax(t *testing.T) {
	inTree := func(e []impl.Node) bool { return impl.ValidTree(body(impl.Stmt{Kind: impl.SReturn, E: e})) }
	for _, count := range []int{impl.NodeMax - 3, impl.NodeMax - 1, impl.NodeMax + 1, impl.NodeMax + 3, 2*impl.NodeMax + 1, 300001} {
		for _, r := range longLists(count) {
			if len(r[0]) != count || inTree(r[0]) != (count <= impl.NodeMax) {
				t.Fatalf("%d nodes", len(r[0]))
			}
			if count <= impl.NodeMax {
				foldsTo(t, r[0], r[1])
			} else {
				foldsTo(t, r[0], nil)
			}
			// One node more.
			minus := append(slices.Clone(r[0]), un(impl.UnNeg))
			if got := impl.Fold(minus); (len(got) > 0) != (count < impl.NodeMax) {
				t.Errorf("%d nodes fold to %d", len(minus), len(got))
			}
		}
	}
	full := append(nodes(num(7)), slices.Repeat(nodes(un(impl.UnInv)), impl.NodeMax-1)...)
	foldsTo(t, full, nodes(num(-8)))
	foldsTo(t, append(full, un(impl.UnInv)), nil)
}
