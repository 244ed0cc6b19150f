package tests

import (
	"strings"
	"testing"

	"loop.example/s01725/impl"
)

// nestRow is an expression, or statements, with the most that it has open at one time,
// and @ before the token with which so many are open first.
type nestRow struct {
	what, e string
	uses    int
}

var nestRows = []nestRow{
	{"a parenthesis", "@(1)", 1},
	{"an index", "a@[1]", 1},
	{"a call", "f@(1)", 1},
	{"a call of nothing", "f@()", 1},
	{"an input", "in@()", 1},
	{"each sign: -", "@-1", 1},
	{"each sign: !", "@!1", 1},
	{"each sign: ~", "@~1", 1},
	{"signs behind each other", "-!@~1", 3},
	{"a sign's operand is whole behind its number", "@-1--1--1", 1},
	{"a sign's operand is whole behind its name", "@-a--a--a", 1},
	{"a sign's operand is whole behind its parenthesis", "-@(1)-(1)", 2},
	{"a sign is open at the index of its operand", "-a@[1]", 2},
	{"a sign is open at the call of its operand", "-f@(1)", 2},
	{"a sign is open at the input that is its operand", "-in@()", 2},
	{"a sign is open in its operand's parenthesis", "-(@-1)", 3},
	{"a sign is open within the index", "-a[@(1)]", 3},
	{"a sign is open within an argument", "-f(1,@!2)", 3},
	{"signs are whole together", "--@-1-1-a[1]-(1)", 3},
	{"a parenthesis is closed", "@(1)+(1)+(1)", 1},
	{"an index is closed", "a@[1]+a[1]+a[1]", 1},
	{"a call is closed", "f@(1)+f(1)+f()", 1},
	{"arguments one by one", "f(@-1,-1,-1)", 2},
	{"one within the other", "f(a[@(1)])", 3},
	{"a binary - is no sign", "1-1-1-1", 0},
	{"a binary - behind a bracket", "@(1)-(1)-1", 1},
}

// nested gives e behind so many open tokens, and where e begins.
type nested func(n int, e string) (string, int)

func nests() map[string]nested {
	wrap := func(left, right string) nested {
		return func(n int, e string) (string, int) {
			before := "int f(){x=" + strings.Repeat(left, n-1)
			return before + e + strings.Repeat(right, n-1) + ";}", len(before)
		}
	}
	blocks := func(head string) nested {
		return func(n int, e string) (string, int) {
			before := "int f(){" + strings.Repeat(head, n-1) + "x="
			return before + e + ";" + strings.Repeat("}", n), len(before)
		}
	}
	return map[string]nested{
		"parentheses": wrap("(", ")"),
		"indexes":     wrap("a[", "]"),
		"calls":       wrap("f(1,", ",2)"),
		"ifs":         blocks("if(1){"),
		"whiles":      blocks("x=-1;while(1){"),
		"elses":       blocks("if(1){}else{"),
		"signs": func(n int, e string) (string, int) {
			before := "int f(){x=1+" + strings.Repeat("-", n-2) + "("
			return before + e + ")+1;}", len(before)
		},
	}
}

func TestNest(t *testing.T) {
	for name, nest := range nests() {
		for _, r := range nestRows {
			e := strings.ReplaceAll(r.e, "@", "")
			good, _ := nest(impl.DepthMax-r.uses, e)
			accepted(t, good)
			if r.uses == 0 {
				continue
			}
			bad, at := nest(impl.DepthMax-r.uses+1, e)
			refused(t, bad, impl.SynNest, int64(at+strings.Index(r.e, "@")))
			if t.Failed() {
				t.Fatalf("%s: %s", name, r.what)
			}
		}
	}
}

// TestNestOfStatements: what the statements themselves open.
func TestNestOfStatements(t *testing.T) {
	rows := []nestRow{
		{"a condition's parenthesis", "if@(1){}", 1},
		{"what is in it", "if(@(1)){}", 2},
		{"a condition is closed when its block begins", "if(@-1){x=-1;}", 2},
		{"an else", "if@(1){}else{}", 1},
		{"in an else the other block is closed", "if(1){if@(1){}}else{while(1){}}", 2},
		{"a while", "while@(1){}", 1},
		{"what is in a while", "while(1){x=@-1;x=-1;}", 2},
		{"an output", "out@(1);", 1},
		{"a call", "f@();", 1},
		{"an argument", "f(@-1);", 2},
		{"a store", "a@[1]=1;", 1},
		{"a store's index is closed before its value", "a@[1]=(1);", 1},
		{"a declaration", "int y=@-1;", 1},
		{"a return", "return @-1;", 1},
		{"one behind the other", "if@(1){}while(1){}out(1);f();a[1]=-1;int y=(1);return -1;", 1},
	}
	for _, r := range rows {
		text := func(n int) (string, int) {
			before := "int f(){" + strings.Repeat("if(1){", n-1)
			return before + strings.ReplaceAll(r.e, "@", "") + strings.Repeat("}", n), len(before)
		}
		good, _ := text(impl.DepthMax - r.uses)
		accepted(t, good)
		bad, at := text(impl.DepthMax - r.uses + 1)
		refused(t, bad, impl.SynNest, int64(at+strings.Index(r.e, "@")))
	}
}

// TestNestMost has DepthMax of each kind open, and one more, with nothing else.
func TestNestMost(t *testing.T) {
	for _, open := range []string{"(", "a[", "f(", "-", "!", "~"} {
		for _, n := range []int{1, 28, 29, 30, 31, 200} {
			before := "int f(){x=" + strings.Repeat(open, n)
			first := int64(10 + 29*len(open) + len(open) - 1)
			if n <= 29 {
				refused(t, before+";", impl.SynToken, int64(len(before)))
				refused(t, before+"$", impl.SynLex, int64(len(before)))
			} else {
				refused(t, before+";", impl.SynNest, first)
			}
		}
	}
	for n, err := range map[int]int64{29: impl.SynToken, 30: impl.SynNest} {
		text := "int f(){" + strings.Repeat("if(1){", n)
		at := len(text)
		if err == impl.SynNest {
			at = 8 + 29*6 + 2
			refused(t, strings.Replace(text, "if(1){", "if(1){if((1)){}", 1), err, int64(at+9))
		}
		refused(t, text, err, int64(at))
	}
	accepted(t, "int f(int a, int b){}"+strings.Repeat("int a[1];", 49)+strings.Repeat("int f(){x=(1);}", 40))
}
