package tests

import (
	"strconv"
	"testing"

	"loop.example/s01725/impl"
)

// everyRun is sound and has every kind of global, statement and node; functions are
// called several deep, loops stand within loops, and inputs are read.
const everyRun = `int g;
int arr[5];
int leaf(int a, int b) {
g = g + 1;
arr[g % 5] = a * b;
return arr[g % 5] - -b;
}
int branch(int n) {
int sum = 0;
while (n > 0) {
int m = n;
while (m) {
sum = sum + leaf(m, n);
m = m - 1;
}
if (n == 2 && sum) {
out(sum);
} else {
if (!n || ~n) {
out(0 - sum);
}
}
n = n - 1;
}
return sum;
}
int nothing() {
}
int main() {
int x = in();
nothing();
out(branch(x) + nothing());
branch(in());
if (g > 6) {
out(arr[0]);
return g;
}
out(0 - 1);
}
`

func TestEvalStatements(t *testing.T) {
	rows := []struct {
		text string
		in   []int64
		want impl.EvalRes
	}{
		{"int main(){}", nil, done(0, 0)},
		{"int main(){return 7;}", nil, done(7, 2)},
		{"int main(){out(7);}", nil, done(0, 2, 7)},
		{"int main(){int x=5;out(x);x=6;out(x);}", nil, done(0, 8, 5, 6)},
		{"int g;int main(){out(g);g=3;out(g);return g;}", nil, done(3, 8, 0, 3)},
		{"int a[3];int main(){a[2]=9;out(a[2]);out(a[0]);}", nil, done(0, 9, 9, 0)},
		{"int main(){if(in()){out(1);}else{out(2);}}", []int64{5}, done(0, 4, 1)},
		{"int main(){if(in()){out(1);}else{out(2);}}", []int64{-5}, done(0, 4, 1)},
		{"int main(){if(in()){out(1);}else{out(2);}}", []int64{0}, done(0, 4, 2)},
		{"int main(){if(in()){out(1);}}", []int64{0}, done(0, 2)},
		{"int main(){if(in()){}else{out(2);}out(3);}", []int64{1}, done(0, 4, 3)},
		{"int main(){if(in()){}else{out(2);}out(3);}", []int64{0}, done(0, 6, 2, 3)},
		{"int main(){while(in()){out(1);}}", []int64{3, -2, 0, 1}, done(0, 10, 1, 1)},
		{"int main(){while(in()){}}", []int64{1, 1}, done(0, 6)},
		{"int main(){while(0){out(1);}out(2);}", nil, done(0, 4, 2)},
		{"int f(){out(4);return 5;}int main(){f();out(6);}", nil, done(0, 8, 4, 6)},
		{"int f(){}int main(){return f()+1;}", nil, done(1, 4)},
		{"int f(int a){if(a){return 8;}}int main(){out(f(1));out(f(0));}", nil, done(0, 12, 8, 0)},
	}
	for _, r := range rows {
		gives(t, r.text, r.in, r.want)
	}
}

func TestEvalNodes(t *testing.T) {
	rows := []struct {
		e    string
		in   []int64
		exit int64
		used int64
	}{
		{"3", nil, 3, 2}, {"x", nil, 40, 2}, {"g", nil, 50, 2}, {"a[1]", nil, 60, 3}, {"in()", []int64{70}, 70, 2}, {"two()", nil, 2, 4}, {"less(9,4)", nil, 5, 8},
		{"-in()", []int64{5}, -5, 3}, {"-in()", []int64{minWord}, minWord, 3}, {"-in()", []int64{maxWord}, -maxWord, 3}, {"-in()", nil, 0, 3},
		{"!in()", []int64{0}, 1, 3}, {"!in()", []int64{1}, 0, 3}, {"!in()", []int64{minWord}, 0, 3},
		{"~in()", []int64{0}, -1, 3}, {"~in()", []int64{minWord}, maxWord, 3}, {"~in()", []int64{maxWord}, minWord, 3},
		{"in()-in()", []int64{9, 4}, 5, 4}, {"in()-in()-in()", []int64{9, 4, 1}, 4, 6}, {"in()-(in()-in())", []int64{9, 4, 1}, 6, 6},
		{"less(in(),in())", []int64{9, 4}, 5, 8}, {"a[in()]-in()", []int64{1, 4}, 56, 5}, {"less(two(),a[1])", nil, -58, 11},
		{"in()&&in()", []int64{2, 4}, 1, 5}, {"in()&&in()", []int64{2, 0}, 0, 5}, {"in()&&in()", []int64{0, 4}, 0, 3}, {"in()&&in()", []int64{minWord, -1}, 1, 5},
		{"in()||in()", []int64{2, 4}, 1, 3}, {"in()||in()", []int64{0, 4}, 1, 5}, {"in()||in()", []int64{0, 0}, 0, 5}, {"in()||in()", []int64{0, minWord}, 1, 5},
		{"(in()&&in())+in()", []int64{0, 5}, 5, 5}, {"(in()||in())+in()", []int64{3, 5}, 6, 5},
		{"in()&&in()&&in()", []int64{0, 1, 1}, 0, 4}, {"in()&&in()&&in()", []int64{1, 0, 1}, 0, 6}, {"in()&&in()&&in()", []int64{1, 1, 6}, 1, 8},
		{"in()||in()||in()", []int64{7, 1, 1}, 1, 4}, {"in()||in()||in()", []int64{0, 7, 1}, 1, 6}, {"in()||in()||in()", []int64{0, 0, 0}, 0, 8},
		{"in()&&(in()||in())", []int64{1, 0, 9}, 1, 8}, {"in()&&(in()||in())", []int64{1, 9}, 1, 6}, {"in()&&(in()||in())", []int64{0}, 0, 3},
		{"in()||in()&&in()", []int64{0, 2, 3}, 1, 8}, {"in()||in()&&in()", []int64{0, 0, 3}, 0, 6}, {"in()||in()&&in()", []int64{4}, 1, 3},
	}
	const before = 9
	for _, r := range rows {
		text := "int g;int a[2];int two(){return 2;}int less(int p,int q){return p-q;}int main(){int x=40;g=50;a[1]=60;y();return " + r.e + ";}int y(){}"
		gives(t, text, r.in, done(r.exit, before+r.used))
	}
}

func TestEvalOperatorsAtTheEndsOfWords(t *testing.T) {
	for op := int64(impl.BinMul); op <= impl.BinOr; op++ {
		tree := impl.Tree{Funcs: []impl.Func{{Name: "main", Body: []impl.Stmt{{Kind: impl.SReturn, E: nodes(ask, ask, bin(op))}}}}}
		for _, a := range edgeWords {
			for _, b := range edgeWords {
				x, y := int64(int32(a)), int64(int32(b))
				want := done(applyWant(op, x, y), 4)
				if got := impl.EvalC(tree, []int64{x, y}, 4, []int64{0}); !sameEval(got, want) {
					t.Fatalf("op %d of %d and %d: %+v, want %+v", op, x, y, got, want)
				}
			}
		}
	}
	for _, v := range []int64{minWord, minWord + 1, -1, 0, 1, maxWord} {
		tree := impl.Tree{Funcs: []impl.Func{{Name: "main", Body: []impl.Stmt{{Kind: impl.SReturn, E: nodes(num(v))}}}}}
		if got := impl.EvalC(tree, nil, 2, []int64{0}); !sameEval(got, done(v, 2)) {
			t.Errorf("the ENum %d: %+v", v, got)
		}
	}
}

func TestEvalFromLeftToRight(t *testing.T) {
	const tell = "int g;int a[9];int t(int v){out(v);g=g*10+v;return v;}int three(int p,int q,int r){return p*100+q*10+r;}"
	rows := []struct {
		text string
		in   []int64
		want []int64
	}{
		{"int main(){out(t(1)-t(2));}", nil, []int64{1, 2, -1}},
		{"int main(){out(t(1)*t(2)+t(3)*(t(4)-t(5)));}", nil, []int64{1, 2, 3, 4, 5, -1}},
		{"int main(){out(three(t(1),t(2),t(3)));}", nil, []int64{1, 2, 3, 123}},
		{"int main(){out(three(in(),in(),in()));}", []int64{4, 5, 6}, []int64{456}},
		{"int main(){a[t(1)]=t(2);out(a[1]);}", nil, []int64{1, 2, 2}},
		{"int main(){a[in()]=in();out(a[3]);out(a[7]);}", []int64{3, 7}, []int64{7, 0}},
		{"int main(){out(g+t(1));out(t(2)+g);}", nil, []int64{1, 1, 2, 14}},
		{"int main(){out(a[t(1)]+t(2));}", nil, []int64{1, 2, 2}},
		{"int main(){a[g]=t(3);out(a[0]);out(a[3]);}", nil, []int64{3, 3, 0}},
		{"int main(){out(t(0)&&t(1));out(t(2)&&t(3));out(t(4)||t(5));out(t(0)||t(6));}", nil, []int64{0, 0, 2, 3, 1, 4, 1, 0, 6, 1}},
		{"int main(){t(t(1)+t(2));if(t(0)){t(8);}else{t(9);}while(t(0)){t(7);}return t(4);}", nil, []int64{1, 2, 3, 0, 9, 0, 4}},
	}
	for _, r := range rows {
		tells(t, tell+r.text, r.in, r.want...)
	}
}

func TestEvalInputsAtTheirEnd(t *testing.T) {
	const text = "int main(){out(in());out(in());out(in());out(in());return in();}"
	tells(t, text, nil, 0, 0, 0, 0)
	tells(t, text, []int64{7}, 7, 0, 0, 0)
	tells(t, text, []int64{minWord, maxWord, 0}, minWord, maxWord, 0, 0)
	gives(t, text, []int64{1, 2, 3, 4, 5, 6}, done(5, 10, 1, 2, 3, 4))
	tells(t, "int f(){return in();}int main(){out(f());out(in());out(f());}", []int64{1, 2, 3}, 1, 2, 3)
}

func TestEvalReturns(t *testing.T) {
	rows := []struct {
		text string
		in   []int64
		want impl.EvalRes
	}{
		{"int main(){return 1;out(2);return 3;}", nil, done(1, 2)},
		{"int main(){while(1){return 4;out(5);}out(6);}", nil, done(4, 4)},
		{"int main(){while(1){while(1){if(in()){return 4;}}out(5);}out(6);}", []int64{0, 0, 1}, done(4, 16)},
		{"int main(){if(1){if(0){return 1;}else{return 2;}out(3);}out(4);}", nil, done(2, 6)},
		{"int main(){if(0){}else{return 2;}out(4);}", nil, done(2, 4)},
		{"int f(){while(1){return 3;}}int main(){out(f());out(f()+f());}", nil, done(0, 18, 3, 6)},
		{"int f(){return 3;out(9);}int main(){f();f();out(1);return f();}", nil, done(3, 14, 1)},
		{"int f(){return g()+1;}int g(){return h()+1;out(1);}int h(){while(1){if(1){return 1;}}}int main(){out(f());return 5;}", nil, done(5, 18, 3)},
		{"int f(int a){while(a){if(a==3){return a*2;}a=a-1;}return 0-1;}int main(){out(f(5));out(f(2));}", nil, done(0, 62, 6, -1)},
		{"int f(){return 1;}int main(){while(1){f();out(2);if(f()){return f()+7;}}}", nil, done(8, 18, 2)},
	}
	for _, r := range rows {
		gives(t, r.text, r.in, r.want)
	}
}

func TestEvalIndexes(t *testing.T) {
	for _, size := range []int64{1, 3, 4000} {
		globals := "int b[4000];int a[" + strconv.FormatInt(size, 10) + "];int c[4000];"
		for _, at := range []int64{minWord, -1, 0, size - 1, size, size + 1, maxWord} {
			read, write := undefined(5, 1), undefined(5, 1)
			if at >= 0 && at < size {
				read, write = done(0, 5, 1), done(8, 8, 1)
			}
			gives(t, globals+"int main(){out(1);return a[in()];}", []int64{at}, read)
			gives(t, globals+"int main(){out(1);a[in()]=in();return a[in()];}", []int64{at, 8, at}, write)
		}
	}
	gives(t, "int a[2];int f(){out(5);return 1;}int main(){a[2]=f();out(6);}", nil, undefined(7, 5))
	gives(t, "int a[2];int f(){out(5);return 1;}int main(){out(a[0-f()]);out(6);}", nil, undefined(9, 5))
	gives(t, "int a[2];int f(){return a[2];}int main(){out(1);out(f());out(2);}", nil, undefined(7, 1))
	gives(t, "int a[2];int f(){a[2]=1;}int main(){while(1){out(1);f();}}", nil, undefined(9, 1))
	gives(t, "int a[2];int main(){out(0&&a[2]);out(1||a[2]);a[0]=a[1]+a[2];}", nil, undefined(12, 0, 1))
	gives(t, "int a[2];int main(){if(a[2]){out(1);}else{out(2);}}", nil, undefined(3))
	gives(t, "int a[2];int f(int x,int y){out(x);}int main(){f(a[2],in());}", nil, undefined(3))
	gives(t, "int a[2];int main(){a[0]=7;a[1]=8;out(a[a[a[0]-7]-6]);out(a[0-a[0]]);}", nil, undefined(21, 8))
}

func TestEvalGlobalsAndVariables(t *testing.T) {
	tells(t, "int g;int a[3];int main(){out(g);out(a[0]);out(a[1]);out(a[2]);}", nil, 0, 0, 0, 0)
	tells(t, "int g;int a[3];int f(){g=g+5;a[1]=g;return g;}int main(){f();out(g);out(a[1]);g=1;out(f());out(a[1]+a[0]);}", nil, 5, 5, 6, 6)
	tells(t, "int g;int f(){return g;}int main(){g=4;out(f());g=f()+1;out(f());}", nil, 4, 5)
	tells(t, "int f(int a){a=a+1;return a;}int main(){int a=5;out(f(a));out(a);out(f(f(a)));out(a);}", nil, 6, 5, 7, 5)
	tells(t, "int f(int a,int b){int c=a;a=b;b=c;out(a);out(b);}int main(){int b=1;int a=2;f(a,b);f(b,a);out(a*10+b);}", nil, 1, 2, 2, 1, 21)
	tells(t, "int main(){int i=3;while(i){int x=i;out(x);x=x+10;out(x);i=i-1;}}", nil, 3, 13, 2, 12, 1, 11)
	tells(t, "int main(){int i=2;while(i){if(i==2){int x=7;out(x);}else{int y=8;out(y);}i=i-1;}}", nil, 7, 8)
	tells(t, "int f(int n){int x=n;if(n){x=g(n);}return x;}int g(int n){int x=n*2;n=0;return x;}int main(){int x=1;int n=9;out(f(3));out(x);out(n);}", nil, 6, 1, 9)
	tells(t, "int f(){}int main(){int f=1;out(f);out(f()+f);int main=2;out(main);}", nil, 1, 1, 2)
	tells(t, "int x;int y[1];int z;int main(){x=1;y[0]=2;z=3;out(x);out(y[0]);out(z);y[x-1]=z;out(y[0]);}", nil, 1, 2, 3, 3)
	tells(t, "int f(int a,int b,int c,int d,int e,int g){return a-b-c-d-e-g;}int main(){out(f(100,1,2,4,8,16));}", nil, 69)
	gives(t, everyRun, []int64{3, 2}, done(9, 442, -27, 37, -39, 39, 10, -12, 2))
}

func TestEvalDeep(t *testing.T) {
	const text = "int a(){out(1);}int b(){a();return 2;}int c(int n){if(n){b();}return 3;}int main(){c(in());a();if(in()){b();}out(4);}"
	rows := []struct {
		in, frames []int64
		want       int64
	}{
		{nil, []int64{1, 10, 100, 1000}, 1100},
		{nil, []int64{500, 10, 100, 1000}, 1500},
		{[]int64{1, 0}, []int64{1, 10, 100, 1000}, 1111},
		{[]int64{0, 1}, []int64{1, 10, 100, 1000}, 1100},
		{[]int64{0, 1}, []int64{1, 10, 0, 1000}, 1011},
		{[]int64{0, 1}, []int64{1, 10, 0, 0}, 11},
		{[]int64{1, 1}, []int64{0, 0, 0, 7}, 7},
		{[]int64{1, 1}, []int64{0, 0, 0, 0}, 0},
		{[]int64{1, 1}, []int64{impl.BoundMax, impl.BoundMax, impl.BoundMax, impl.BoundMax}, 4 * impl.BoundMax},
	}
	for _, r := range rows {
		tree := treeOf(t, text)
		if got := impl.EvalC(tree, r.in, plenty, r.frames); got.Status != impl.EvDone || got.Deep != r.want {
			t.Errorf("%d with frames %d: %+v, want %d", r.in, r.frames, got, r.want)
		}
	}
	one := treeOf(t, "int f(int a,int b){return a;}int g(){return 1;}int main(){return f(g(),g())+f(1,2);}")
	for _, frames := range [][]int64{{0, 5, 3}, {5, 0, 3}, {2, 5, 0}, {5, 2, 1}} {
		want := frames[2] + max(frames[0], frames[1])
		if got := impl.EvalC(one, nil, plenty, frames); got.Deep != want {
			t.Errorf("arguments are known before the call: frames %d give %d, want %d", frames, got.Deep, want)
		}
	}
	for fuel := range int64(8) {
		tree := treeOf(t, "int a[1];int f(){return a[1];}int main(){out(2);out(f());}")
		got := impl.EvalC(tree, nil, fuel, []int64{30, 4})
		want := int64(4)
		if fuel >= 4 {
			want = 34
		}
		if got.Deep != want || got.Status == impl.EvDone {
			t.Errorf("fuel %d: %+v, want Deep %d", fuel, got, want)
		}
	}
}
