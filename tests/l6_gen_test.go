package tests

import (
	"fmt"
	"strings"
	"testing"

	"loop.example/s01725/impl"
)

// around is what stands around the expressions of these tests: v is the one word of
// main's frame ahead of its places, so place d has the word 4+4*d; the functions are 0 to
// 3, their ends 4 to 7, and the first label of an expression is 8.
const around = "int g;int a[3];int h;int f(int x,int y){}int n(){}int k(int p,int q,int r,int s,int u,int w){}int main(){int v=1;"

// partAt gives the items of an expression whose value comes into place d. It is the last
// right operand of d subtractions, whose items are counted off.
func partAt(t *testing.T, e string, d int) []impl.Item {
	t.Helper()
	items := impl.Gen(treeOf(t, around+"out("+deep("0-(", d, e, ")")+");}"))
	begin := 0
	for i, x := range items {
		if x == (impl.Item{Kind: impl.ItLabel, Label: 3}) {
			begin = i + 5
		}
	}
	end := len(items) - 8
	for j := range d {
		begin++
		end--
		if j >= 5 {
			begin, end = begin+1, end-2
		}
		if j+1 >= 5 {
			end--
		}
	}
	if begin >= end {
		t.Fatalf("%s at %d: %d items", e, d, len(items))
	}
	return items[begin:end]
}

// What is saved around a call below four and below five places.
const (
	save4 = "sw x5,4(x2); sw x6,8(x2); sw x7,12(x2); sw x28,16(x2); "
	back4 = "lw x5,4(x2); lw x6,8(x2); lw x7,12(x2); lw x28,16(x2); "
	save5 = save4 + "sw x29,20(x2); "
	back5 = back4 + "lw x29,20(x2); "
)

func TestGenExpressionsAtPlaces(t *testing.T) {
	element := "lui x31,256; addi x31,x31,4; "
	rows := []struct {
		e    string
		d    int
		want string
	}{
		{"7", 0, "addi x5,x0,7"}, {"7", 1, "addi x6,x0,7"}, {"7", 2, "addi x7,x0,7"}, {"7", 3, "addi x28,x0,7"}, {"7", 4, "addi x29,x0,7"}, {"7", 5, "addi x30,x0,7; sw x30,24(x2)"}, {"7", 6, "addi x30,x0,7; sw x30,28(x2)"}, {"7", 9, "addi x30,x0,7; sw x30,40(x2)"},
		{"5000", 0, "lui x5,1; addi x5,x5,904"}, {"5000", 4, "lui x29,1; addi x29,x29,904"}, {"5000", 5, "lui x30,1; addi x30,x30,904; sw x30,24(x2)"}, {"8192", 6, "lui x30,2; sw x30,28(x2)"},
		{"v", 0, "lw x5,0(x2)"}, {"v", 4, "lw x29,0(x2)"}, {"v", 5, "lw x30,0(x2); sw x30,24(x2)"}, {"v", 7, "lw x30,0(x2); sw x30,32(x2)"},
		{"g", 0, "lui x31,256; lw x5,0(x31)"}, {"g", 4, "lui x31,256; lw x29,0(x31)"}, {"g", 5, "lui x31,256; lw x30,0(x31); sw x30,24(x2)"}, {"g", 6, "lui x31,256; lw x30,0(x31); sw x30,28(x2)"},
		{"h", 0, "lui x31,256; addi x31,x31,16; lw x5,0(x31)"}, {"h", 3, "lui x31,256; addi x31,x31,16; lw x28,0(x31)"}, {"h", 5, "lui x31,256; addi x31,x31,16; lw x30,0(x31); sw x30,24(x2)"},
		{"a[v]", 0, "lw x5,0(x2); slli x5,x5,2; " + element + "add x31,x31,x5; lw x5,0(x31)"},
		{"a[v]", 4, "lw x29,0(x2); slli x29,x29,2; " + element + "add x31,x31,x29; lw x29,0(x31)"},
		{"a[v]", 5, "lw x30,0(x2); sw x30,24(x2); lw x30,24(x2); slli x30,x30,2; " + element + "add x31,x31,x30; lw x30,0(x31); sw x30,24(x2)"},
		{"a[v]", 6, "lw x30,0(x2); sw x30,28(x2); lw x30,28(x2); slli x30,x30,2; " + element + "add x31,x31,x30; lw x30,0(x31); sw x30,28(x2)"},
		{"in()", 0, "addi x17,x0,2; ecall; addi x5,x10,0"}, {"in()", 4, "addi x17,x0,2; ecall; addi x29,x10,0"}, {"in()", 5, "addi x17,x0,2; ecall; sw x10,24(x2)"}, {"in()", 6, "addi x17,x0,2; ecall; sw x10,28(x2)"},
		{"-v", 0, "lw x5,0(x2); sub x5,x0,x5"}, {"-v", 4, "lw x29,0(x2); sub x29,x0,x29"}, {"-v", 5, "lw x30,0(x2); sw x30,24(x2); lw x30,24(x2); sub x30,x0,x30; sw x30,24(x2)"},
		{"!v", 0, "lw x5,0(x2); sltiu x5,x5,1"}, {"!v", 4, "lw x29,0(x2); sltiu x29,x29,1"}, {"!v", 6, "lw x30,0(x2); sw x30,28(x2); lw x30,28(x2); sltiu x30,x30,1; sw x30,28(x2)"},
		{"~v", 0, "lw x5,0(x2); xori x5,x5,-1"}, {"~v", 4, "lw x29,0(x2); xori x29,x29,-1"}, {"~v", 5, "lw x30,0(x2); sw x30,24(x2); lw x30,24(x2); xori x30,x30,-1; sw x30,24(x2)"},
		{"v&&2", 0, "lw x5,0(x2); beq x5,x0,8; addi x5,x0,2; label 8; sltu x5,x0,x5"},
		{"v||2", 0, "lw x5,0(x2); bne x5,x0,8; addi x5,x0,2; label 8; sltu x5,x0,x5"},
		{"v&&2", 4, "lw x29,0(x2); beq x29,x0,8; addi x29,x0,2; label 8; sltu x29,x0,x29"},
		{"v||2", 4, "lw x29,0(x2); bne x29,x0,8; addi x29,x0,2; label 8; sltu x29,x0,x29"},
		{"v&&2", 5, "lw x30,0(x2); sw x30,24(x2); lw x30,24(x2); beq x30,x0,8; addi x30,x0,2; sw x30,24(x2); label 8; lw x30,24(x2); sltu x30,x0,x30; sw x30,24(x2)"},
		{"v||2", 6, "lw x30,0(x2); sw x30,28(x2); lw x30,28(x2); bne x30,x0,8; addi x30,x0,2; sw x30,28(x2); label 8; lw x30,28(x2); sltu x30,x0,x30; sw x30,28(x2)"},
		{"n()", 0, "call 1; addi x5,x10,0"}, {"n()", 1, "sw x5,4(x2); call 1; lw x5,4(x2); addi x6,x10,0"},
		{"n()", 4, save4 + "call 1; " + back4 + "addi x29,x10,0"}, {"n()", 5, save5 + "call 1; " + back5 + "sw x10,24(x2)"}, {"n()", 6, save5 + "call 1; " + back5 + "sw x10,28(x2)"},
		{"f(1,v)", 0, "addi x5,x0,1; lw x6,0(x2); addi x10,x5,0; addi x11,x6,0; call 0; addi x5,x10,0"},
		{"f(1,v)", 3, "addi x28,x0,1; lw x29,0(x2); sw x5,4(x2); sw x6,8(x2); sw x7,12(x2); addi x10,x28,0; addi x11,x29,0; call 0; lw x5,4(x2); lw x6,8(x2); lw x7,12(x2); addi x28,x10,0"},
		{"f(1,v)", 4, "addi x29,x0,1; lw x30,0(x2); sw x30,24(x2); " + save4 + "addi x10,x29,0; lw x11,24(x2); call 0; " + back4 + "addi x29,x10,0"},
		{"f(1,v)", 5, "addi x30,x0,1; sw x30,24(x2); lw x30,0(x2); sw x30,28(x2); " + save5 + "lw x10,24(x2); lw x11,28(x2); call 0; " + back5 + "sw x10,24(x2)"},
		{"f(1,v)", 7, "addi x30,x0,1; sw x30,32(x2); lw x30,0(x2); sw x30,36(x2); " + save5 + "lw x10,32(x2); lw x11,36(x2); call 0; " + back5 + "sw x10,32(x2)"},
	}
	for _, r := range rows {
		sameItems(t, fmt.Sprintf("%s at %d", r.e, r.d), partAt(t, r.e, r.d), itemsOf(t, r.want))
	}
}

func TestGenBinaryOperatorsAtPlaces(t *testing.T) {
	rows := [][2]string{
		{"*", "mul R,A,B"}, {"/", "div R,A,B"}, {"%", "rem R,A,B"}, {"+", "add R,A,B"}, {"-", "sub R,A,B"}, {"<<", "sll R,A,B"}, {">>", "sra R,A,B"},
		{"<", "slt R,A,B"}, {"<=", "slt R,B,A; xori R,R,1"}, {">", "slt R,B,A"}, {">=", "slt R,A,B; xori R,R,1"}, {"==", "sub R,A,B; sltiu R,R,1"}, {"!=", "sub R,A,B; sltu R,x0,R"},
		{"&", "and R,A,B"}, {"^", "xor R,A,B"}, {"|", "or R,A,B"},
	}
	places := []struct {
		d                      int
		before, a, b, r, after string
	}{
		{0, "lw x5,0(x2); addi x6,x0,2; ", "x5", "x6", "x5", ""},
		{1, "lw x6,0(x2); addi x7,x0,2; ", "x6", "x7", "x6", ""},
		{2, "lw x7,0(x2); addi x28,x0,2; ", "x7", "x28", "x7", ""},
		{3, "lw x28,0(x2); addi x29,x0,2; ", "x28", "x29", "x28", ""},
		{4, "lw x29,0(x2); addi x30,x0,2; sw x30,24(x2); lw x31,24(x2); ", "x29", "x31", "x29", ""},
		{5, "lw x30,0(x2); sw x30,24(x2); addi x30,x0,2; sw x30,28(x2); lw x30,24(x2); lw x31,28(x2); ", "x30", "x31", "x30", "; sw x30,24(x2)"},
		{6, "lw x30,0(x2); sw x30,28(x2); addi x30,x0,2; sw x30,32(x2); lw x30,28(x2); lw x31,32(x2); ", "x30", "x31", "x30", "; sw x30,28(x2)"},
	}
	for _, r := range rows {
		for _, p := range places {
			work := r[1]
			for _, reg := range [][2]string{{"R", p.r}, {"A", p.a}, {"B", p.b}} {
				work = strings.ReplaceAll(work, reg[0], reg[1])
			}
			sameItems(t, fmt.Sprintf("%s at %d", r[0], p.d), partAt(t, "v"+r[0]+"2", p.d), itemsOf(t, p.before+work+p.after))
		}
	}
}

func TestGenCallsWithinExpressions(t *testing.T) {
	six := "addi x5,x0,1; addi x6,x0,2; addi x7,x0,3; addi x28,x0,4; addi x29,x0,5; addi x30,x0,6; sw x30,24(x2); " +
		"addi x10,x5,0; addi x11,x6,0; addi x12,x7,0; addi x13,x28,0; addi x14,x29,0; lw x15,24(x2); call 2; addi x5,x10,0"
	six2 := "addi x7,x0,1; addi x28,x0,2; addi x29,x0,3; addi x30,x0,4; sw x30,24(x2); addi x30,x0,5; sw x30,28(x2); addi x30,x0,6; sw x30,32(x2); " +
		"sw x5,4(x2); sw x6,8(x2); addi x10,x7,0; addi x11,x28,0; addi x12,x29,0; lw x13,24(x2); lw x14,28(x2); lw x15,32(x2); call 2; lw x5,4(x2); lw x6,8(x2); addi x7,x10,0"
	six5 := "addi x30,x0,1; sw x30,24(x2); addi x30,x0,2; sw x30,28(x2); addi x30,x0,3; sw x30,32(x2); addi x30,x0,4; sw x30,36(x2); addi x30,x0,5; sw x30,40(x2); addi x30,x0,6; sw x30,44(x2); " +
		save5 + "lw x10,24(x2); lw x11,28(x2); lw x12,32(x2); lw x13,36(x2); lw x14,40(x2); lw x15,44(x2); call 2; " + back5 + "sw x10,24(x2)"
	one := "sw x5,4(x2); call 1; lw x5,4(x2); addi x6,x10,0"
	rows := []struct {
		e    string
		d    int
		want string
	}{
		{"k(1,2,3,4,5,6)", 0, six}, {"k(1,2,3,4,5,6)", 2, six2}, {"k(1,2,3,4,5,6)", 5, six5},
		{"v+n()", 0, "lw x5,0(x2); " + one + "; add x5,x5,x6"},
		{"n()+v", 0, "call 1; addi x5,x10,0; lw x6,0(x2); add x5,x5,x6"},
		{"n()-n()", 0, "call 1; addi x5,x10,0; " + one + "; sub x5,x5,x6"},
		{"v+n()", 4, "lw x29,0(x2); " + save5 + "call 1; " + back5 + "sw x10,24(x2); lw x31,24(x2); add x29,x29,x31"},
		{"n()+n()", 4, save4 + "call 1; " + back4 + "addi x29,x10,0; " + save5 + "call 1; " + back5 + "sw x10,24(x2); lw x31,24(x2); add x29,x29,x31"},
		{"n()+n()", 5, save5 + "call 1; " + back5 + "sw x10,24(x2); " + save5 + "call 1; " + back5 + "sw x10,28(x2); lw x30,24(x2); lw x31,28(x2); add x30,x30,x31; sw x30,24(x2)"},
		{"n()&&n()", 0, "call 1; addi x5,x10,0; beq x5,x0,8; call 1; addi x5,x10,0; label 8; sltu x5,x0,x5"},
		{"v||n()", 1, "lw x6,0(x2); bne x6,x0,8; " + one + "; label 8; sltu x6,x0,x6"},
		{"f(n(),n())", 0, "call 1; addi x5,x10,0; " + one + "; addi x10,x5,0; addi x11,x6,0; call 0; addi x5,x10,0"},
		{"f(f(1,2),3)", 0, "addi x5,x0,1; addi x6,x0,2; addi x10,x5,0; addi x11,x6,0; call 0; addi x5,x10,0; addi x6,x0,3; addi x10,x5,0; addi x11,x6,0; call 0; addi x5,x10,0"},
		{"f(1,f(2,3))", 0, "addi x5,x0,1; addi x6,x0,2; addi x7,x0,3; sw x5,4(x2); addi x10,x6,0; addi x11,x7,0; call 0; lw x5,4(x2); addi x6,x10,0; addi x10,x5,0; addi x11,x6,0; call 0; addi x5,x10,0"},
		{"f(v,n())", 4, "lw x29,0(x2); " + save5 + "call 1; " + back5 + "sw x10,24(x2); " + save4 + "addi x10,x29,0; lw x11,24(x2); call 0; " + back4 + "addi x29,x10,0"},
		{"a[n()]", 1, one + "; slli x6,x6,2; lui x31,256; addi x31,x31,4; add x31,x31,x6; lw x6,0(x31)"},
		{"-n()", 0, "call 1; addi x5,x10,0; sub x5,x0,x5"},
	}
	for _, r := range rows {
		sameItems(t, fmt.Sprintf("%s at %d", r.e, r.d), partAt(t, r.e, r.d), itemsOf(t, r.want))
	}
}

// mainItems gives the items of a tree whose one function is main, without its beginning
// and its end.
func mainItems(t *testing.T, tree impl.Tree) []impl.Item {
	t.Helper()
	items := impl.Gen(tree)
	if len(items) < 11 {
		t.Fatalf("%d items", len(items))
	}
	frame := impl.Frames(tree)[0]
	begin := fmt.Sprintf("call 0; addi x17,x0,10; ecall; label 0; addi x2,x2,-%d; sw x1,%d(x2)", frame, frame-4)
	end := fmt.Sprintf("addi x10,x0,0; label 1; lw x1,%d(x2); addi x2,x2,%d; jalr x0,0(x1)", frame-4, frame)
	last := len(items) - 5
	sameItems(t, "the beginning", items[:6], itemsOf(t, begin))
	sameItems(t, "the end", items[last:], itemsOf(t, end))
	return items[6:last]
}

func TestGenNumbers(t *testing.T) {
	rows := []struct {
		v    int64
		want string
	}{
		{0, "addi x5,x0,0"}, {1, "addi x5,x0,1"}, {-1, "addi x5,x0,-1"}, {2047, "addi x5,x0,2047"}, {-2048, "addi x5,x0,-2048"},
		{2048, "lui x5,1; addi x5,x5,-2048"}, {2049, "lui x5,1; addi x5,x5,-2047"}, {-2049, "lui x5,1048575; addi x5,x5,2047"}, {-2050, "lui x5,1048575; addi x5,x5,2046"},
		{4095, "lui x5,1; addi x5,x5,-1"}, {4096, "lui x5,1"}, {4097, "lui x5,1; addi x5,x5,1"}, {-4095, "lui x5,1048575; addi x5,x5,1"}, {-4096, "lui x5,1048575"}, {-4097, "lui x5,1048575; addi x5,x5,-1"},
		{6143, "lui x5,1; addi x5,x5,2047"}, {6144, "lui x5,2; addi x5,x5,-2048"}, {-6144, "lui x5,1048575; addi x5,x5,-2048"}, {-6145, "lui x5,1048574; addi x5,x5,2047"},
		{8192, "lui x5,2"}, {-8192, "lui x5,1048574"}, {1048576, "lui x5,256"}, {1 << 30, "lui x5,262144"}, {-(1 << 30), "lui x5,786432"}, {524287 * 4096, "lui x5,524287"},
		{maxWord, "lui x5,524288; addi x5,x5,-1"}, {maxWord - 2047, "lui x5,524288; addi x5,x5,-2048"}, {maxWord - 2048, "lui x5,524287; addi x5,x5,2047"}, {maxWord - 4095, "lui x5,524287"},
		{minWord, "lui x5,524288"}, {minWord + 1, "lui x5,524288; addi x5,x5,1"}, {minWord + 2047, "lui x5,524288; addi x5,x5,2047"}, {minWord + 2048, "lui x5,524289; addi x5,x5,-2048"}, {minWord + 4096, "lui x5,524289"},
	}
	for _, r := range rows {
		tree := impl.Tree{Funcs: []impl.Func{{Name: "main", Body: []impl.Stmt{{Kind: impl.SReturn, E: nodes(num(r.v))}}}}}
		sameItems(t, fmt.Sprint(r.v), mainItems(t, tree), itemsOf(t, r.want+"; addi x10,x5,0; jump 1"))
	}
}

// TestGenNumbersAsTheyAreRun: what loads a number gives it, whatever it is.
func TestGenNumbersAsTheyAreRun(t *testing.T) {
	var vals []int64
	for _, w := range edgeWords {
		vals = append(vals, int64(int32(w)))
	}
	for _, near := range []int64{0, 2048, -2048, 4096, -4096, 1 << 20, -(1 << 20), 1 << 30, minWord + 4096, maxWord - 4096} {
		for off := int64(-2); off <= 2; off++ {
			vals = append(vals, near+off, near+2048+off)
		}
	}
	n := &numbers{5}
	for range 300 {
		vals = append(vals, int64(int32(n.next())))
	}
	for _, v := range vals {
		tree := impl.Tree{Funcs: []impl.Func{{Name: "main", Body: []impl.Stmt{{Kind: impl.SReturn, E: nodes(num(v))}}}}}
		c := impl.RunCpu(imageOf(tree), nil, 40)
		if c.Status != impl.Halted || int64(int32(c.Regs[10])) != v {
			t.Errorf("%d: x10 is %d", v, int32(c.Regs[10]))
		}
	}
}

func TestGenAddressesOfGlobals(t *testing.T) {
	rows := []struct{ globals, want string }{
		{"int x;", "lui x31,256"}, {"int b;int x;", "lui x31,256; addi x31,x31,4"}, {"int x;int b[9];", "lui x31,256"}, {"int b[1];int x;", "lui x31,256; addi x31,x31,4"}, {"int b[9];int x;", "lui x31,256; addi x31,x31,36"},
		{"int b;int c[2];int d;int x;int e;", "lui x31,256; addi x31,x31,16"},
		{"int b[511];int x;", "lui x31,256; addi x31,x31,2044"}, {"int b[512];int x;", "lui x31,257; addi x31,x31,-2048"}, {"int b[1023];int x;", "lui x31,257; addi x31,x31,-4"}, {"int b[1024];int x;", "lui x31,257"}, {"int b[1025];int x;", "lui x31,257; addi x31,x31,4"},
		{"int b[4000];int c[4000];int d[4000];int e[4000];int x;", "lui x31,272; addi x31,x31,-1536"}, {"int b[4000];int c[4000];int d[4000];int e[4000];int z[4000];int x;", "lui x31,276; addi x31,x31,-1920"},
	}
	for _, r := range rows {
		what := r.globals
		tree := treeOf(t, r.globals+"int main(){x=x;}")
		sameItems(t, what, mainItems(t, tree), itemsOf(t, r.want+"; lw x5,0(x31); "+r.want+"; sw x5,0(x31)"))
		tree = treeOf(t, strings.Replace(r.globals, "int x;", "int x[7];", 1)+"int main(){x[1]=x[2];}")
		at := func(reg string) string {
			return "slli " + reg + "," + reg + ",2; " + r.want + "; add x31,x31," + reg + "; "
		}
		want := "addi x5,x0,1; addi x6,x0,2; " + at("x6") + "lw x6,0(x31); " + at("x5") + "sw x6,0(x31)"
		sameItems(t, what, mainItems(t, tree), itemsOf(t, want))
	}
}

func TestGenStatements(t *testing.T) {
	rows := []struct{ text, want string }{
		{"int main(){}", ""},
		{"int main(){int x=7;}", "addi x5,x0,7; sw x5,0(x2)"},
		{"int main(){int x=7;int y=8;y=x;x=y;}", "addi x5,x0,7; sw x5,0(x2); addi x5,x0,8; sw x5,4(x2); lw x5,0(x2); sw x5,4(x2); lw x5,4(x2); sw x5,0(x2)"},
		{"int main(){if(1){int x=2;}int y=3;while(4){int z=y;}}", "addi x5,x0,1; beq x5,x0,2; addi x5,x0,2; sw x5,0(x2); label 2; addi x5,x0,3; sw x5,4(x2); label 3; addi x5,x0,4; beq x5,x0,4; lw x5,4(x2); sw x5,8(x2); jump 3; label 4"},
		{"int x;int main(){x=7;}", "addi x5,x0,7; lui x31,256; sw x5,0(x31)"},
		{"int b;int x;int main(){x=b;}", "lui x31,256; lw x5,0(x31); lui x31,256; addi x31,x31,4; sw x5,0(x31)"},
		{"int a[9];int main(){a[7]=8;}", "addi x5,x0,7; addi x6,x0,8; slli x5,x5,2; lui x31,256; add x31,x31,x5; sw x6,0(x31)"},
		{"int b;int a[9];int main(){a[in()]=in();}", "addi x17,x0,2; ecall; addi x5,x10,0; addi x17,x0,2; ecall; addi x6,x10,0; slli x5,x5,2; lui x31,256; addi x31,x31,4; add x31,x31,x5; sw x6,0(x31)"},
		{"int main(){return 7;}", "addi x5,x0,7; addi x10,x5,0; jump 1"},
		{"int main(){return 7;return 8;}", "addi x5,x0,7; addi x10,x5,0; jump 1; addi x5,x0,8; addi x10,x5,0; jump 1"},
		{"int main(){out(7);}", "addi x5,x0,7; addi x10,x5,0; addi x17,x0,1; ecall"},
		{"int main(){if(1){}}", "addi x5,x0,1; beq x5,x0,2; label 2"},
		{"int main(){if(1){out(2);}}", "addi x5,x0,1; beq x5,x0,2; addi x5,x0,2; addi x10,x5,0; addi x17,x0,1; ecall; label 2"},
		{"int main(){if(1){}else{}}", "addi x5,x0,1; beq x5,x0,2; label 2"},
		{"int main(){if(1){}else{return 2;}}", "addi x5,x0,1; beq x5,x0,2; jump 3; label 2; addi x5,x0,2; addi x10,x5,0; jump 1; label 3"},
		{"int main(){if(1){return 2;}else{return 3;}return 4;}", "addi x5,x0,1; beq x5,x0,2; addi x5,x0,2; addi x10,x5,0; jump 1; jump 3; label 2; addi x5,x0,3; addi x10,x5,0; jump 1; label 3; addi x5,x0,4; addi x10,x5,0; jump 1"},
		{"int main(){while(1){}}", "label 2; addi x5,x0,1; beq x5,x0,3; jump 2; label 3"},
		{"int main(){while(in()){return 2;}}", "label 2; addi x17,x0,2; ecall; addi x5,x10,0; beq x5,x0,3; addi x5,x0,2; addi x10,x5,0; jump 1; jump 2; label 3"},
	}
	for _, r := range rows {
		sameItems(t, r.text, mainItems(t, treeOf(t, r.text)), itemsOf(t, r.want))
	}
}

func TestGenFunctions(t *testing.T) {
	text := "int g;int f(int a,int b,int c){int x=a;return b+x;}int main(){f(1,2,3);g=k();}int k(){return g;}"
	want := `call 1; addi x17,x0,10; ecall
		label 0; addi x2,x2,-32; sw x1,28(x2); sw x10,0(x2); sw x11,4(x2); sw x12,8(x2)
		lw x5,0(x2); sw x5,12(x2); lw x5,4(x2); lw x6,12(x2); add x5,x5,x6; addi x10,x5,0; jump 3
		addi x10,x0,0; label 3; lw x1,28(x2); addi x2,x2,32; jalr x0,0(x1)
		label 1; addi x2,x2,-16; sw x1,12(x2)
		addi x5,x0,1; addi x6,x0,2; addi x7,x0,3; addi x10,x5,0; addi x11,x6,0; addi x12,x7,0; call 0; addi x5,x10,0
		call 2; addi x5,x10,0; lui x31,256; sw x5,0(x31)
		addi x10,x0,0; label 4; lw x1,12(x2); addi x2,x2,16; jalr x0,0(x1)
		label 2; addi x2,x2,-16; sw x1,12(x2)
		lui x31,256; lw x5,0(x31); addi x10,x5,0; jump 5
		addi x10,x0,0; label 5; lw x1,12(x2); addi x2,x2,16; jalr x0,0(x1)`
	sameItems(t, text, impl.Gen(treeOf(t, text)), itemsOf(t, want))
	six := "int main(){}int f(int a,int b,int c,int d,int e,int h){return h;}"
	want = `call 0; addi x17,x0,10; ecall
		label 0; addi x2,x2,-16; sw x1,12(x2); addi x10,x0,0; label 2; lw x1,12(x2); addi x2,x2,16; jalr x0,0(x1)
		label 1; addi x2,x2,-32; sw x1,28(x2); sw x10,0(x2); sw x11,4(x2); sw x12,8(x2); sw x13,12(x2); sw x14,16(x2); sw x15,20(x2)
		lw x5,20(x2); addi x10,x5,0; jump 3
		addi x10,x0,0; label 3; lw x1,28(x2); addi x2,x2,32; jalr x0,0(x1)`
	sameItems(t, six, impl.Gen(treeOf(t, six)), itemsOf(t, want))
	// Names of functions and of variables do not get into each other's way.
	names := "int main(){int f=1;f(f);}int f(int main){return main;}"
	want = `call 0; addi x17,x0,10; ecall
		label 0; addi x2,x2,-16; sw x1,12(x2)
		addi x5,x0,1; sw x5,0(x2); lw x5,0(x2); addi x10,x5,0; call 1; addi x5,x10,0
		addi x10,x0,0; label 2; lw x1,12(x2); addi x2,x2,16; jalr x0,0(x1)
		label 1; addi x2,x2,-16; sw x1,12(x2); sw x10,0(x2)
		lw x5,0(x2); addi x10,x5,0; jump 3
		addi x10,x0,0; label 3; lw x1,12(x2); addi x2,x2,16; jalr x0,0(x1)`
	sameItems(t, names, impl.Gen(treeOf(t, names)), itemsOf(t, want))
}

// TestGenLabels: only the items that have a label, in order.
func TestGenLabels(t *testing.T) {
	rows := []struct{ text, want string }{
		{"int main(){return in()&&(in()||in())&&in();}", "beq x5,x0,3; bne x5,x0,4; label 4; label 3; beq x5,x0,2; label 2; jump 1"},
		{"int main(){return (in()||in())&&(in()&&in());}", "bne x5,x0,3; label 3; beq x5,x0,2; beq x5,x0,4; label 4; label 2; jump 1"},
		{"int main(){return in()+(in()&&in())+(in()||in());}", "beq x6,x0,2; label 2; bne x6,x0,3; label 3; jump 1"},
		{"int main(){if(in()){if(in()){out(1);}else{out(2);}}else{if(in()){out(3);}out(4);}}", "beq x5,x0,2; beq x5,x0,4; jump 5; label 4; label 5; jump 3; label 2; beq x5,x0,6; label 6; label 3"},
		{"int main(){while(in()){while(in()&&in()){if(in()||in()){}}}while(in()){}}", "label 2; beq x5,x0,3; label 4; beq x5,x0,6; label 6; beq x5,x0,5; bne x5,x0,8; label 8; beq x5,x0,7; label 7; jump 4; label 5; jump 2; label 3; label 9; beq x5,x0,10; jump 9; label 10"},
		{"int main(){if(in()&&in()){return in()||in();}else{while(in()){}}}", "beq x5,x0,4; label 4; beq x5,x0,2; bne x5,x0,5; label 5; jump 1; jump 3; label 2; label 6; beq x5,x0,7; jump 6; label 7; label 3"},
		{"int a[2];int main(){a[in()&&in()]=in()||in();}", "beq x5,x0,2; label 2; bne x6,x0,3; label 3"},
	}
	labelled := func(items []impl.Item) []impl.Item {
		var left []impl.Item
		for _, x := range items {
			if x.Kind != impl.ItInst {
				left = append(left, x)
			}
		}
		return left
	}
	for _, r := range rows {
		sameItems(t, r.text, labelled(mainItems(t, treeOf(t, r.text))), itemsOf(t, r.want))
	}
	text := "int f(){if(in()){}}int k(){}int main(){while(f()){k();}return f()&&k();}int last(){return in()||in();}"
	want := `call 2
		label 0; beq x5,x0,5; label 5; label 4
		label 1; label 6
		label 2; label 8; call 0; beq x5,x0,9; call 1; jump 8; label 9; call 0; beq x5,x0,10; call 1; label 10; jump 7; label 7
		label 3; bne x5,x0,12; label 12; jump 11; label 11`
	sameItems(t, text, labelled(impl.Gen(treeOf(t, text))), itemsOf(t, want))
}
