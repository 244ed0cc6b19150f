package tests

import (
	"strconv"
	"strings"
	"testing"

	"loop.example/s01725/impl"
)

func TestParseEverything(t *testing.T) {
	parses(t, everyText, everyTree())
	parses(t, "", impl.Tree{})
	parses(t, " \n \n", impl.Tree{})
	parses(t, "int f(){}int x;int g(int a){}int y[1];", impl.Tree{
		Globals: []impl.Global{{Name: "x"}, {Name: "y", Size: 1}},
		Funcs:   []impl.Func{{Name: "f"}, {Name: "g", Params: []string{"a"}}},
	})
}

// TestParseSpaces: spaces and newlines stand between any two tokens, or none where the
// tokens do not run into each other.
func TestParseSpaces(t *testing.T) {
	tokens := []string{"int", "f", "(", "int", "a", ")", "{", "a", "=", "-", "a", "[", "3", "]", "<<", "in", "(", ")", ";", "if", "(", "!", "a", ")", "{", "}", "else", "{", "}", "return", "2", ";", "}"}
	want := impl.Tree{Funcs: []impl.Func{{Name: "f", Params: []string{"a"}, Body: []impl.Stmt{
		{Kind: impl.SSet, Name: "a", E: nodes(num(3), index("a"), un(impl.UnNeg), ask, bin(impl.BinShl))},
		{Kind: impl.SIf, E: nodes(variable("a"), un(impl.UnNot))},
		{Kind: impl.SReturn, E: nodes(num(2))},
	}}}}
	for _, between := range []string{" ", "\n", "  ", "\n\n", " \n ", "\n \n"} {
		parses(t, strings.Join(tokens, between), want)
		parses(t, between+strings.Join(tokens, between)+between, want)
	}
	parses(t, "int f(int a){a=-a[3]<<in();if(!a){}else{}return 2;}", want)
	refused(t, "// no comment\n", impl.SynToken, 0)
	for _, bad := range []string{"\t", "\r", "\v", "\f", "\x00", "\u00a0", "\xa0", "#"} {
		refused(t, bad, impl.SynLex, 0)
		refused(t, "int"+bad+"x;", impl.SynLex, 3)
		refused(t, "int x;"+bad, impl.SynLex, 6)
	}
}

func TestParseLimitOfText(t *testing.T) {
	accepted(t, strings.Repeat(" ", impl.TextMax))
	refused(t, strings.Repeat(" ", impl.TextMax+1), impl.SynLong, 0)
	refused(t, "$"+strings.Repeat(" ", impl.TextMax), impl.SynLong, 0)
	refused(t, "$"+strings.Repeat(" ", impl.TextMax-1), impl.SynLex, 0)
	refused(t, strings.Repeat(" ", impl.TextMax-1)+"x", impl.SynToken, impl.TextMax-1)
	refused(t, strings.Repeat("\n", impl.TextMax-3)+"int", impl.SynToken, impl.TextMax)
	text := everyText + strings.Repeat("\n", impl.TextMax-len(everyText))
	parses(t, text, everyTree())
	refused(t, text+"\n", impl.SynLong, 0)
}

func TestParseNames(t *testing.T) {
	longest := "abcdefghijklmnopqr_9"
	for _, name := range []string{"a", "_", "__", "a0", "_9", "inx", "in_", "in0", "intx", "int1", "iff", "elsee", "whil", "returns", "outo", "ou", longest, strings.Repeat("z", impl.NameMax)} {
		parses(t, "int "+name+";", impl.Tree{Globals: []impl.Global{{Name: name}}})
		parses(t, "int f(int "+name+"){"+name+"="+name+"["+name+"()];}", impl.Tree{Funcs: []impl.Func{{Name: "f", Params: []string{name}, Body: []impl.Stmt{
			{Kind: impl.SSet, Name: name, E: nodes(call(name, 0), index(name))},
		}}}})
	}
	for _, name := range []string{longest + "x", longest + "_", longest + "0", strings.Repeat("z", impl.NameMax+1), strings.Repeat("_", 1000)} {
		refused(t, "int "+name+";", impl.SynLex, 4)
		refused(t, returning(name), impl.SynLex, returnAt)
	}
	for _, word := range reserved {
		refused(t, "int "+word+";", impl.SynToken, 4)
		refused(t, "int f(int "+word+"){}", impl.SynToken, 10)
		refused(t, "int f(){int "+word+" = 1;}", impl.SynToken, 12)
		if word != "in" {
			refused(t, returning(word), impl.SynToken, returnAt)
		}
	}
	refused(t, returning("in"), impl.SynToken, returnAt+2)
	refused(t, returning("in[1]"), impl.SynToken, returnAt+2)
	for _, name := range []string{"X", "Int", "é", "\xff", "@", "`", "INT"} {
		refused(t, "int "+name+";", impl.SynLex, 4)
	}
	refused(t, "int aB;", impl.SynLex, 5)
	refused(t, "INT a;", impl.SynLex, 0)
}

func TestParseNumbers(t *testing.T) {
	for _, v := range []int64{0, 1, 9, 10, 100, 2147483646, 2147483647} {
		parses(t, "int f(){return "+strconv.FormatInt(v, 10)+";}", body(impl.Stmt{Kind: impl.SReturn, E: nodes(num(v))}))
	}
	bad := []string{"2147483648", "2147483650", "3000000000", "4294967296", "4294967297", "9999999999", "18446744073709551616", "18446744073709551617", "100000000000000000000000000000",
		"00", "01", "07", "0123", "000", "02147483647", "0x1", "0a", "1a", "1_", "0_", "12z", "1int", "1in", "2147483647x", "9" + strings.Repeat("0", 5000), strings.Repeat("0", 5000)}
	for _, n := range bad {
		refused(t, returning(n), impl.SynLex, returnAt)
		refused(t, "int a["+n+"];", impl.SynLex, 6)
		refused(t, n, impl.SynLex, 0)
	}
	parses(t, "int f(){return -2147483647-1;}", body(impl.Stmt{Kind: impl.SReturn, E: nodes(num(2147483647), un(impl.UnNeg), num(1), bin(impl.BinSub))}))
	refused(t, returning("-2147483648"), impl.SynLex, returnAt+1)
	refused(t, returning("1 a"), impl.SynToken, returnAt+2)
	refused(t, returning("1$"), impl.SynLex, returnAt+1)
	refused(t, returning("1.5"), impl.SynLex, returnAt+1)
}

// TestParseSymbols: the longest symbol that fits is the token.
func TestParseSymbols(t *testing.T) {
	rows := []struct {
		e    string
		err  int64
		at   int64
		want []impl.Node
	}{
		{"1<<2", 0, 0, nodes(num(1), num(2), bin(impl.BinShl))},
		{"1< <2", impl.SynToken, 3, nil},
		{"1<<<2", impl.SynToken, 3, nil},
		{"1<<=2", impl.SynToken, 3, nil},
		{"1<=2", 0, 0, nodes(num(1), num(2), bin(impl.BinLe))},
		{"1<=-2", 0, 0, nodes(num(1), num(2), un(impl.UnNeg), bin(impl.BinLe))},
		{"1< =2", impl.SynToken, 3, nil},
		{"1=2", impl.SynToken, 1, nil},
		{"1===2", impl.SynToken, 3, nil},
		{"1==!2", 0, 0, nodes(num(1), num(2), un(impl.UnNot), bin(impl.BinEq))},
		{"1!=!2", 0, 0, nodes(num(1), num(2), un(impl.UnNot), bin(impl.BinNe))},
		{"1!2", impl.SynToken, 1, nil},
		{"!=2", impl.SynToken, 0, nil},
		{"! =2", impl.SynToken, 2, nil},
		{"1&&&2", impl.SynToken, 3, nil},
		{"1& &2", impl.SynToken, 3, nil},
		{"1|||2", impl.SynToken, 3, nil},
		{"1||2", 0, 0, nodes(num(1), num(2), either)},
		{"1|2", 0, 0, nodes(num(1), num(2), bin(impl.BinOr))},
		{"1&2", 0, 0, nodes(num(1), num(2), bin(impl.BinAnd))},
		{"1--2", 0, 0, nodes(num(1), num(2), un(impl.UnNeg), bin(impl.BinSub))},
		{"1---2", 0, 0, nodes(num(1), num(2), un(impl.UnNeg), un(impl.UnNeg), bin(impl.BinSub))},
		{"1++2", impl.SynToken, 2, nil},
		{"+2", impl.SynToken, 0, nil},
		{"1**2", impl.SynToken, 2, nil},
		{"1*-2", 0, 0, nodes(num(1), num(2), un(impl.UnNeg), bin(impl.BinMul))},
		{"1~2", impl.SynToken, 1, nil},
		{"1>>>2", impl.SynToken, 3, nil},
		{"1>=2", 0, 0, nodes(num(1), num(2), bin(impl.BinGe))},
		{"1=>2", impl.SynToken, 1, nil},
		{"1->2", impl.SynToken, 2, nil},
		{"-!~1", 0, 0, nodes(num(1), un(impl.UnInv), un(impl.UnNot), un(impl.UnNeg))},
		{"((1))", 0, 0, nodes(num(1))},
	}
	for _, r := range rows {
		text := "int f(){return " + r.e + ";}"
		if r.err == impl.SynOk {
			parses(t, text, body(impl.Stmt{Kind: impl.SReturn, E: r.want}))
		} else {
			refused(t, text, r.err, 15+r.at)
		}
	}
	for _, c := range "$@#'\"?:.\\`" {
		refused(t, returning(string(c)), impl.SynLex, returnAt)
		refused(t, string(c), impl.SynLex, 0)
	}
	refused(t, returning("1 & $"), impl.SynLex, returnAt+4)
}

// TestParseGroups: operators of one strength group to the left, stronger ones first.
func TestParseGroups(t *testing.T) {
	one, two, three := num(1), num(2), num(3)
	for _, p := range operators {
		for _, q := range operators {
			want := nodes(one, two, p.node, three, q.node)
			if q.strength > p.strength {
				want = nodes(one, two, three, q.node, p.node)
			}
			parses(t, "int f(){return 1"+p.symbol+"2"+q.symbol+"3;}", body(impl.Stmt{Kind: impl.SReturn, E: want}))
			parses(t, "int f(){return 1"+p.symbol+"(2"+q.symbol+"3);}", body(impl.Stmt{Kind: impl.SReturn, E: nodes(one, two, three, q.node, p.node)}))
			parses(t, "int f(){return (1"+p.symbol+"2)"+q.symbol+"3;}", body(impl.Stmt{Kind: impl.SReturn, E: nodes(one, two, p.node, three, q.node)}))
		}
		parses(t, "int f(){return -1"+p.symbol+"~2;}", body(impl.Stmt{Kind: impl.SReturn, E: nodes(one, un(impl.UnNeg), two, un(impl.UnInv), p.node)}))
		parses(t, "int f(){return !(1"+p.symbol+"2);}", body(impl.Stmt{Kind: impl.SReturn, E: nodes(one, two, p.node, un(impl.UnNot))}))
	}
	up := "1||2&&3|4^5&6==7<8<<9+10*11"
	down := "1*2+3<<4<5==6&7^8|9&&10||11"
	order := []impl.Node{bin(impl.BinMul), bin(impl.BinAdd), bin(impl.BinShl), bin(impl.BinLt), bin(impl.BinEq), bin(impl.BinAnd), bin(impl.BinXor), bin(impl.BinOr), both, either}
	var upWant, downWant []impl.Node
	for i := range int64(11) {
		upWant = append(upWant, num(i+1))
		downWant = append(downWant, num(i+1))
		if i > 0 {
			downWant = append(downWant, order[i-1])
		}
	}
	parses(t, "int f(){return "+up+";}", body(impl.Stmt{Kind: impl.SReturn, E: append(upWant, order...)}))
	parses(t, "int f(){return "+down+";}", body(impl.Stmt{Kind: impl.SReturn, E: downWant}))
}

func TestParseChoices(t *testing.T) {
	one := nodes(num(1))
	parses(t, "int f(){if(1){}else{}}", body(impl.Stmt{Kind: impl.SIf, E: one}))
	parses(t, "int f(){if(1){}else{}out(1);}", body(impl.Stmt{Kind: impl.SIf, E: one}, impl.Stmt{Kind: impl.SOut, E: one}))
	parses(t, "int f(){if(1){if(1){}else{out(1);}}else{while(1){out(1);}out(1);}out(1);}", body(
		impl.Stmt{Kind: impl.SIf, E: one, Then: 2, Else: 3},
		impl.Stmt{Kind: impl.SIf, E: one, Else: 1}, impl.Stmt{Kind: impl.SOut, E: one},
		impl.Stmt{Kind: impl.SWhile, E: one, Then: 1}, impl.Stmt{Kind: impl.SOut, E: one}, impl.Stmt{Kind: impl.SOut, E: one},
		impl.Stmt{Kind: impl.SOut, E: one}))
	refused(t, "int f(){if(1){}else if(1){}}", impl.SynToken, 20)
	refused(t, "int f(){if(1){}else{}else{}}", impl.SynToken, 21)
	refused(t, "int f(){while(1){}else{}}", impl.SynToken, 18)
	refused(t, "int f(){{}}", impl.SynToken, 8)
	refused(t, "int f(){;}", impl.SynToken, 8)
}

// TestParseEnds cuts a text with every construct behind each token: the end of the
// text can stand only between globals and functions.
func TestParseEnds(t *testing.T) {
	depth := 0
	for _, p := range pieces(everyText) {
		end := int(p.at) + len(p.text)
		switch p.text {
		case "{":
			depth++
		case "}":
			depth--
		}
		text := everyText[:end]
		if depth == 0 && (p.text == "}" || p.text == ";" || p.kind == "end") {
			accepted(t, text)
			accepted(t, text+" \n")
		} else {
			refused(t, text, impl.SynToken, int64(end))
			refused(t, text+" \n", impl.SynToken, int64(end+2))
		}
	}
}

// TestParseFirst: of two errors in one text, of any two kinds, the first token in error
// is told; limits come last.
func TestParseFirst(t *testing.T) {
	nest := "int main(){return " + strings.Repeat("(", 29)
	tooDeep := nest + "("
	closed := nest + "1" + strings.Repeat(")", 29) + ";}"
	rows := []struct {
		text string
		err  int64
		at   int
	}{
		{"int 1 $", impl.SynToken, 4},
		{"int $ 1", impl.SynLex, 4},
		{"int $ $", impl.SynLex, 4},
		{"int ; ;", impl.SynToken, 4},
		{"int x $;", impl.SynLex, 6},
		{"int x x $;", impl.SynToken, 6},
		{"int x[0] 01", impl.SynLex, 9},
		{"int x[0]; x", impl.SynToken, 10},
		{"int x[4001]", impl.SynToken, 11},
		{"int x[0", impl.SynToken, 7},
		{tooDeep + "$", impl.SynNest, len(nest)},
		{tooDeep + ";", impl.SynNest, len(nest)},
		{tooDeep, impl.SynNest, len(nest)},
		{nest + ")(", impl.SynToken, len(nest)},
		{nest + "1(", impl.SynToken, len(nest) + 1},
		{nest + "1[", impl.SynToken, len(nest) + 1},
		{nest + "1{", impl.SynToken, len(nest) + 1},
		{nest + "1!", impl.SynToken, len(nest) + 1},
		{nest + "{", impl.SynToken, len(nest)},
		{nest + "[", impl.SynToken, len(nest)},
		{nest + "$(", impl.SynLex, len(nest)},
		{nest + "01(", impl.SynLex, len(nest)},
		{"int x[0];" + tooDeep, impl.SynNest, len(nest) + 9},
		{"int x[0];" + closed + "$", impl.SynLex, len(closed) + 9},
		{"int x[0];" + closed, impl.SynLimits, len(closed) + 9},
		{closed + "x", impl.SynToken, len(closed)},
		{"int x[0];int y[4001]; ", impl.SynLimits, 22},
		{strings.Repeat("int x;", 51) + "$", impl.SynLex, 306},
		{strings.Repeat("int x;", 51) + "int", impl.SynToken, 309},
	}
	for _, r := range rows {
		refused(t, r.text, r.err, int64(r.at))
	}
}

func TestParseLimits(t *testing.T) {
	limits := []struct {
		what string
		most int
		text func(n int) string
	}{
		{"globals", impl.GlobMax, func(n int) string { return strings.Repeat("int x;", n) }},
		{"arrays", impl.GlobMax, func(n int) string { return strings.Repeat("int x[1];", n) }},
		{"functions", impl.FuncMax, func(n int) string { return strings.Repeat("int x(){}", n) }},
		{"parameters", impl.ArgMax, func(n int) string { return "int f(int a" + strings.Repeat(",int a", n-1) + "){}" }},
		{"arguments", impl.ArgMax, func(n int) string { return returning("f(1" + strings.Repeat(",1", n-1) + ")") }},
		{"arguments of a statement", impl.ArgMax, func(n int) string { return "int f(){f(1" + strings.Repeat(",1", n-1) + ");}" }},
		{"statements", impl.StmtMax, func(n int) string { return "int f(){" + strings.Repeat("f();", n) + "}" }},
		{"inner statements", impl.StmtMax, func(n int) string {
			return "int f(){if(1){" + strings.Repeat("f();", n-2) + "}else{f();}}"
		}},
		{"nodes", impl.NodeMax, nodesText},
		{"size", impl.ArrMax, func(n int) string { return "int a[" + strconv.Itoa(n) + "];" }},
	}
	for _, l := range limits {
		accepted(t, l.text(l.most))
		more := l.text(l.most + 1)
		refused(t, more, impl.SynLimits, int64(len(more)))
		refused(t, more+"  ", impl.SynLimits, int64(len(more)+2))
		refused(t, more+" x", impl.SynToken, int64(len(more)+1))
	}
	for _, size := range []string{"0", "4001", "65536", "2147483647"} {
		text := "int a[" + size + "];"
		refused(t, text, impl.SynLimits, int64(len(text)))
		refused(t, text+everyText, impl.SynLimits, int64(len(text)+len(everyText)))
		refused(t, everyText+text, impl.SynLimits, int64(len(text)+len(everyText)))
	}
	parses(t, "int a[1];", impl.Tree{Globals: []impl.Global{{Name: "a", Size: 1}}})
	parses(t, "int f(){return a[0];}", body(impl.Stmt{Kind: impl.SReturn, E: nodes(num(0), index("a"))}))
	parses(t, "int f(){a[0]=0;}", body(impl.Stmt{Kind: impl.SStore, Name: "a", E: nodes(num(0)), F: nodes(num(0))}))
}

// nodesText gives a function with n nodes in all: 2 in a store, the others in a set.
func nodesText(n int) string {
	sign := (n - 1) % 2
	sums := (n - 3 - sign) / 2
	return "int f(){a[1]=1;x=" + strings.Repeat("-", sign) + "1" + strings.Repeat("+1", sums) + ";}"
}
