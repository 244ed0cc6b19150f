package tests

import (
	"fmt"
	"slices"
	"strings"
	"testing"

	"loop.example/s01725/impl"
)

// program is a sound tree, its frames and its image.
type program struct {
	what   string
	tree   impl.Tree
	frames []int64
	m      impl.Image
}

// compiled gives what Compile makes of a text, with the simplified tree.
func compiled(t *testing.T, text string) program {
	t.Helper()
	r := impl.Compile([]byte(text))
	if r.Stage != impl.CcOk {
		t.Fatalf("%.600q: stage %d, error %d at %d", text, r.Stage, r.Err, r.At)
	}
	tree := impl.Simplify(treeOf(t, text))
	return program{text, tree, impl.Frames(tree), r.Image}
}

// related says whether one is a beginning of the other.
func related(a, b []int64) bool { return isBeginning(a, b) || isBeginning(b, a) }

// walk goes step by step, up to most steps, and checks promise 12 after each; it gives
// the cpu at the end.
func (p program) walk(t *testing.T, in []int64, most int64, e impl.EvalRes) impl.Cpu {
	t.Helper()
	c := impl.Boot(p.m, in)
	for i := range most + 1 {
		if c.Status == impl.Faulted || !related(c.Out, e.Out) {
			t.Fatalf("%.600s of %d: after %d steps %+v, and EvalC gives %s", p.what, in, i, brief(c), short(e))
		}
		if c.Status == impl.Halted || i == most {
			break
		}
		c = impl.StepCpu(p.m, c)
	}
	return c
}

// hold checks promises 10 to 12 at one run, and gives what EvalC says of it. Up to so
// many steps are looked at one by one, and others here and there.
func (p program) hold(t *testing.T, in []int64, fuel, steps int64) impl.EvalRes {
	t.Helper()
	e := impl.EvalC(p.tree, in, fuel, p.frames)
	most := e.Used
	if e.Status == impl.EvDone {
		most = 40*e.Used + 40
		p.holdDone(t, in, most, e)
	}
	if e.Status == impl.EvDone || e.Status == impl.EvFuel {
		p.walk(t, in, min(most, steps), e)
		for _, part := range []int64{most, most / 2, most / 3, most / 40, most - 1} {
			part = min(max(part, 0), impl.StepMax)
			if c := impl.RunCpu(p.m, in, part); len(c.Regs) == 0 || c.Status == impl.Faulted || !related(c.Out, e.Out) {
				t.Fatalf("%.600s of %d: after %d steps %+v, and EvalC gives %s", p.what, in, part, brief(c), short(e))
			}
		}
	}
	return e
}

// holdDone checks a run that comes to its end.
func (p program) holdDone(t *testing.T, in []int64, most int64, e impl.EvalRes) {
	t.Helper()
	if e.Deep > p.m.Bound {
		t.Fatalf("%.600s of %d: deep %d, bound %d", p.what, in, e.Deep, p.m.Bound)
	}
	if most > impl.StepMax {
		return
	}
	c := impl.RunCpu(p.m, in, most)
	if c.Status != impl.Halted || !slices.Equal(c.Out, e.Out) || int64(int32(c.Regs[10])) != e.Exit {
		t.Fatalf("%.600s of %d: %+v within %d steps, and EvalC gives %s", p.what, in, brief(c), most, short(e))
	}
	if got := int64(impl.StackTop - c.Low); got != e.Deep {
		t.Fatalf("%.600s of %d: %d bytes of stack, and EvalC gives %s", p.what, in, got, short(e))
	}
	if c.Regs[2] != impl.StackTop {
		t.Fatalf("%.600s of %d: at the end x2 is %d", p.what, in, c.Regs[2])
	}
}

const sorting = `int a[20];
int swap(int i, int j) { int x = a[i]; a[i] = a[j]; a[j] = x; return 1; }
int pass(int n) { int i = 0; int done = 1; while (i + 1 < n) { if (a[i] > a[i + 1]) { done = !swap(i, i + 1); } i = i + 1; } return done; }
int main() { int n = in(); int i = 0; while (i < n) { a[i] = in(); i = i + 1; } while (!pass(n)) { } i = 0; while (i < n) { out(a[i]); i = i + 1; } return n; }`

const primes = `int not[60];
int main() { int i = 2; int found = 0; int most = in(); while (i < most && i < 60) { if (!not[i]) { found = found + 1; out(i); int j = i * i; while (j < 60) { not[j] = 1; j = j + i; } } i = i + 1; } return found; }`

const divisor = `int gcd(int a, int b) { while (b) { int c = a % b; a = b; b = c; } return a; }
int power(int x, int n) { int p = 1; while (n > 0) { if (n & 1) { p = p * x; } x = x * x; n = n >> 1; } return p; }
int main() { int a = in(); int b = in(); out(gcd(a, b)); out(power(a, b)); return gcd(power(2, 10), power(6, 5)); }`

const crowded = `int n; int next() { n = n + 1; return n; }
int mix(int a, int b, int c, int d, int e, int f) { out(a); out(f); return a - b + c * d - e + f; }
int main() { int x = in(); out(1 + (2 - (3 + (4 - (5 + (6 - (next() + mix(x, 2, next(), 4, next(), 6)))))))); return x - (x * (x + (x - (x + mix(next(), next(), mix(1, 2, 3, 4, 5, next()), next(), next(), next()))))); }`

const circuits = `int n; int told(int v) { n = n + 1; out(v); return v; }
int main() { out(told(0) && told(1)); out(told(2) && told(-1)); out(told(3) || told(1)); out(told(0) || told(4)); out(told(0) || told(0)); out(1 + (2 + (3 + (4 + (told(5) && (told(6) || told(7))))))); if (told(in()) && !told(in()) || told(9)) { return n; } return -n; }`

const arithmetic = `int main() { int a = in(); int b = in(); out(a * b); out(a / b); out(a % b); out(a + b); out(a - b); out(a << b); out(a >> b); out(a < b); out(a <= b); out(a > b); out(a >= b); out(a == b); out(a != b); out(a & b); out(a ^ b); out(a | b); out(-a); out(!a); out(~a); out(a && b); out(a || b); return a; }`

// ordinary are programs with inputs, and what they tell and give.
var ordinary = []struct {
	text string
	in   []int64
	out  []int64
	exit int64
}{
	{"int main(){}", nil, nil, 0},
	{"int main(){return in();}", []int64{minWord}, nil, minWord},
	{"int f(int x){if(x){return 8;}}int main(){out(f(1));out(f(0));return -1;}", nil, []int64{8, 0}, -1},
	{sorting, []int64{6, 5, -3, 9, 0, maxWord, minWord}, []int64{minWord, -3, 0, 5, 9, maxWord}, 6},
	{sorting, []int64{1, 4}, []int64{4}, 1},
	{sorting, nil, nil, 0},
	{primes, []int64{60}, []int64{2, 3, 5, 7, 11, 13, 17, 19, 23, 29, 31, 37, 41, 43, 47, 53, 59}, 17},
	{primes, []int64{8}, []int64{2, 3, 5, 7}, 4},
	{divisor, []int64{12, 18}, []int64{6, 0}, 32},
	{divisor, []int64{10, 9}, []int64{1, 1000000000}, 32},
	{divisor, []int64{-7, 3}, []int64{-1, -343}, 32},
	{crowded, []int64{3}, []int64{3, 6, -6, 1, 6, 4, 9}, 246},
	{circuits, []int64{1, 0}, []int64{0, 0, 2, -1, 1, 3, 1, 0, 4, 1, 0, 0, 0, 5, 6, 11, 1, 0}, 12},
	{circuits, []int64{0}, []int64{0, 0, 2, -1, 1, 3, 1, 0, 4, 1, 0, 0, 0, 5, 6, 11, 0, 9}, 12},
	{arithmetic, []int64{7, -2}, []int64{-14, -3, 1, 5, 9, -1073741824, 0, 0, 0, 1, 1, 0, 1, 6, -7, -1, -7, 0, -8, 1, 1}, 7},
	{arithmetic, []int64{minWord, -1}, []int64{minWord, minWord, 0, maxWord, minWord + 1, 0, -1, 1, 1, 0, 0, 0, 1, minWord, maxWord, -1, minWord, 0, maxWord, 1, 1}, minWord},
	{arithmetic, []int64{5, 0}, []int64{0, -1, 5, 5, 5, 5, 5, 0, 0, 1, 1, 0, 1, 0, 5, 5, -5, 0, -6, 0, 1}, 5},
}

func TestRunOrdinaryPrograms(t *testing.T) {
	for i, r := range ordinary {
		p := compiled(t, r.text)
		e := p.hold(t, r.in, impl.FuelMax, 6000)
		if e.Status != impl.EvDone || !slices.Equal(e.Out, r.out) || e.Exit != r.exit {
			t.Errorf("row %d: %.200q of %d: %s, want %d and %d", i, r.text, r.in, short(e), r.out, r.exit)
		}
		c := impl.Execute([]byte(r.text), r.in, impl.StepMax)
		if c.Status != impl.Halted || !slices.Equal(c.Out, r.out) || int64(int32(c.Regs[10])) != r.exit {
			t.Errorf("row %d: %.200q of %d: %+v, want %d and %d", i, r.text, r.in, brief(c), r.out, r.exit)
		}
	}
}

// TestRunEveryFuel: with each fuel up to what is used, the machine goes on without a
// fault, and what it tells fits.
func TestRunEveryFuel(t *testing.T) {
	ends := map[int64]int{}
	for _, text := range []string{sorting, primes, divisor, crowded, circuits, everyRun, "int main(){while(1){out(in());}}", "int a[3];int main(){int i=0;while(1){a[i]=i;out(a[i]);i=i+1;}}", "int a[1];int main(){out(1);out(a[in()]);out(2);}"} {
		p := compiled(t, text)
		for _, in := range [][]int64{nil, {3, 2, 1, 4}, {1, 0, 5}, {-1, 7}} {
			used := min(impl.EvalC(p.tree, in, plenty, p.frames).Used, 250)
			for fuel := range used + 1 {
				ends[p.hold(t, in, fuel, 300).Status]++
			}
		}
	}
	if ends[impl.EvDone] < 5 || ends[impl.EvFuel] < 1000 || ends[impl.EvUndef] < 1 {
		t.Errorf("the runs end so often in each way: %v", ends)
	}
}

// TestRunBeforeAFault: what EvalC does not define may fault, but not before its time.
func TestRunBeforeAFault(t *testing.T) {
	for _, at := range []int64{maxWord, minWord, 1 << 28, -1 << 20} {
		p := compiled(t, "int a[3];int main(){out(5);a[1]=6;out(a[1]);out(a[in()]);out(7);}")
		in := []int64{at}
		end := impl.EvalC(p.tree, in, plenty, p.frames)
		if end.Status != impl.EvUndef {
			t.Fatalf("%d: %s", at, short(end))
		}
		for fuel := range end.Used {
			if e := p.hold(t, in, fuel, fuel); e.Status != impl.EvFuel {
				t.Errorf("%d: with fuel %d %s", at, fuel, short(e))
			}
		}
	}
}

// TestRunDeep: what is used of the stack hangs on the way that is taken, and the bound is
// just enough.
func TestRunDeep(t *testing.T) {
	text := "int c(int x){return x+1;}int b(int x){int y=c(x);int z=y;return z*2;}int a(int x){if(x){return b(x);}return 9;}int main(){return a(in());}"
	p := compiled(t, text)
	if p.m.Bound != 16+32+16+16 {
		t.Fatalf("bound %d, frames %d", p.m.Bound, p.frames)
	}
	for _, r := range []struct{ in, exit, deep int64 }{{0, 9, 32}, {5, 12, 80}} {
		e := p.hold(t, []int64{r.in}, plenty, 1000)
		if e.Status != impl.EvDone || e.Exit != r.exit || e.Deep != r.deep {
			t.Errorf("of %d: %s", r.in, short(e))
		}
		less := p.m
		less.Bound -= 16
		c := impl.RunCpu(less, []int64{r.in}, 1000)
		if (c.Status == impl.Faulted) != (r.deep == p.m.Bound) {
			t.Errorf("of %d with 16 bytes less: status %d", r.in, c.Status)
		}
	}
	// One frame after the other is no deeper than the largest.
	p = compiled(t, "int l(int x){out(x);}int m(int a,int b,int c,int d){out(a+b+c+d);}int main(){l(1);m(1,2,3,4);l(2);m(5,6,7,8);}")
	if e := p.hold(t, nil, plenty, 1000); e.Deep != p.m.Bound || e.Deep != 32+32 {
		t.Errorf("one after the other: %s, bound %d", short(e), p.m.Bound)
	}
}

// farText has branches over so many statements, and jumps back over them.
func farText(count int) string {
	lines := strings.Repeat("s=s*3+i;", count)
	return "int s;int main(){int i=in();while(i){if(i&1){" + lines + "}else{" + lines + "}if(s<0&&i>2||i==1){" + lines + "}i=i-1;out(s);}return s;}"
}

// TestRunLongBranches: code in which branches take two words does the same.
func TestRunLongBranches(t *testing.T) {
	seen := map[int]int{}
	for _, count := range []int{1, 40, 41, 42, 43, 60, 125, 126, 127, 128, 129, 131} {
		text := farText(count)
		items := impl.Gen(impl.Simplify(treeOf(t, text)))
		long := assembles(t, fmt.Sprintf("%d statements", count), items)
		seen[long]++
		p := compiled(t, text)
		for _, in := range []int64{0, 1, 2, 5} {
			if e := p.hold(t, []int64{in}, impl.FuelMax, 2000); e.Status != impl.EvDone || int64(len(e.Out)) != in {
				t.Errorf("%d statements of %d: %s", count, in, short(e))
			}
		}
	}
	// None, that of the while, and those of the two ifs.
	if len(seen) != 3 || seen[0] == 0 || seen[1] == 0 || seen[3] == 0 {
		t.Errorf("so many are long: %v", seen)
	}
}

// TestRunMadeTrees takes made trees as they are, simplified, and by way of their text.
func TestRunMadeTrees(t *testing.T) {
	ends, texts, deepest := map[int64]int{}, 0, int64(0)
	for seed := range uint64(900) {
		m := newMaker(seed*43 + 21)
		tree := m.soundTree(7)
		if seed%4 > 0 {
			m.sink(&tree, 8)
		}
		if seed%8 > 0 {
			tame(&tree)
		}
		var in []int64
		for range m.below(8) {
			in = append(in, pick(m.numbers, []int64{0, 1, 2, -1, 5, minWord, maxWord}))
		}
		less := impl.Simplify(tree)
		writable(&tree)
		programs := []program{{string(impl.PrintC(tree)), tree, impl.Frames(tree), imageOf(tree)}, {"simplified " + string(impl.PrintC(less)), less, impl.Frames(less), imageOf(less)}}
		if text := impl.PrintC(tree); impl.Compile(text).Stage == impl.CcOk {
			programs = append(programs, compiled(t, string(text)))
			texts++
		}
		for _, p := range programs {
			for _, fuel := range []int64{3000, m.below(200)} {
				e := p.hold(t, in, fuel, 400)
				ends[e.Status]++
				deepest = max(deepest, e.Deep)
			}
		}
	}
	if ends[impl.EvDone] < 500 || ends[impl.EvFuel] < 500 || texts < 400 || deepest < 150 {
		t.Errorf("the runs end so often in each way: %v; %d texts; deepest %d", ends, texts, deepest)
	}
}

// TestRunTheDeepest: a chain of all the functions there may be, with wide frames.
func TestRunTheDeepest(t *testing.T) {
	var text strings.Builder
	text.WriteString("int fa(int x){return x;}")
	for i := 1; i < 48; i++ {
		fmt.Fprintf(&text, "int f%s(int x){int y=x;return x+(y+(x+(y+(x+(y+f%s(x+1))))));}", name(i), name(i-1))
	}
	text.WriteString("int main(){return f" + name(47) + "(in());}")
	p := compiled(t, text.String())
	e := p.hold(t, []int64{1}, impl.FuelMax, 3000)
	if e.Status != impl.EvDone || e.Deep != p.m.Bound || e.Deep != 47*48+16+16 {
		t.Errorf("%s, bound %d", short(e), p.m.Bound)
	}
}

// name gives letters for a number, the first of them one letter.
func name(i int) string {
	if i < 26 {
		return string(rune('a' + i))
	}
	return name2(i)
}

func TestExecute(t *testing.T) {
	text := []byte("int g;int main(){out(in());g=in();out(g);return 7;}")
	p := compiled(t, string(text))
	in := []int64{4, 5, 6}
	for _, steps := range []int64{0, 1, 2, 5, 20, 100, impl.StepMax - 1, impl.StepMax} {
		got := impl.Execute(text, in, steps)
		if want := impl.RunCpu(p.m, in, steps); !sameCpu(got, want) || len(got.Regs) != 32 {
			t.Errorf("%d steps: %+v, want %+v", steps, brief(got), brief(want))
		}
	}
	if c := impl.Execute(text, in, 0); c.Status != impl.Running || c.Pc != impl.CodeBase || !slices.Equal(c.In, in) || len(c.Data) != 4 || len(c.Stack) != 16 {
		t.Errorf("no step: %+v", brief(c))
	}
	for _, steps := range []int64{-1, impl.StepMax + 1, -1 << 63, 1<<63 - 1} {
		if c := impl.Execute(text, in, steps); !zeroCpu(c) {
			t.Errorf("%d steps: %+v", steps, brief(c))
		}
	}
	many := make([]int64, impl.InMax)
	for _, r := range []struct {
		in   []int64
		runs bool
	}{{nil, true}, {[]int64{maxWord, minWord}, true}, {[]int64{maxWord + 1}, false}, {[]int64{0, 0, minWord - 1}, false}, {many, true}, {append(many, 0), false}} {
		if c := impl.Execute(text, r.in, 100); zeroCpu(c) == r.runs {
			t.Errorf("%d inputs: %+v", len(r.in), brief(c))
		}
	}
	for _, text := range []string{"", "int main(){", "int main(){x=1;}", "int main(){" + wideBody(490, 18, "in()") + "}", "int a[4000];int b[4000];int c[4000];int d[4000];int e[385];int main(){}"} {
		for _, steps := range []int64{-1, 0, 1, 100} {
			if c := impl.Execute([]byte(text), nil, steps); !zeroCpu(c) {
				t.Errorf("%.100q: %+v", text, brief(c))
			}
		}
	}
	forever := impl.Execute([]byte("int main(){while(1){}}"), nil, impl.StepMax)
	if forever.Status != impl.Running || len(forever.Out) != 0 {
		t.Errorf("forever: %+v", brief(forever))
	}
}
