package tests

import (
	"slices"
	"strings"
	"testing"

	"loop.example/s01725/impl"
)

// becomes checks the print of what is left of a text, and that nothing more is left out
// when that is simplified again.
func becomes(t *testing.T, text, want string) {
	t.Helper()
	first := impl.Simplify(treeOf(t, text))
	if got := string(impl.PrintC(first)); got != want {
		t.Errorf("%.300q: got %.300q, want %.300q", text, got, want)
	}
	if again := impl.Simplify(first); !sameTree(again, first) {
		t.Errorf("%.300q: the second time %.300q, the first %.300q", text, impl.PrintC(again), impl.PrintC(first))
	}
}

// inMain gives the text of a main with these statements, each of its lines by itself.
func inMain(lines string) string {
	if lines == "" {
		return "int main() {\n}\n"
	}
	return "int main() {\n" + strings.ReplaceAll(lines, "|", "\n") + "\n}\n"
}

func TestSimplifyStatements(t *testing.T) {
	rows := [][2]string{
		{"", ""},
		{"out(1+2);", "out(3);"},
		{"int x=1+2;x=x+(3+4);return x*(1+1);", "int x = 3;|x = x + 7;|return x * 2;"},
		{"if(1){out(1);}", "out(1);"}, {"if(-7){out(1);}", "out(1);"}, {"if(0){out(1);}", ""}, {"if(1){}", ""}, {"if(0){}", ""},
		{"if(1){out(1);}else{out(2);}", "out(1);"}, {"if(0){out(1);}else{out(2);}", "out(2);"}, {"if(1){}else{out(2);}", ""}, {"if(0){}else{out(2);}", "out(2);"},
		{"if(2-2||3){out(1);}else{out(2);}out(3);", "out(1);|out(3);"}, {"if(0&&in()){out(1);}out(3);", "out(3);"}, {"if(1&&in()){out(1);}", "if (in() != 0) {|out(1);|}"},
		{"if(in()){out(1);}else{out(2);}", "if (in()) {|out(1);|} else {|out(2);|}"}, {"if(in()){}else{}", "if (in()) {|}"}, {"if(in()){}", "if (in()) {|}"},
		{"if(in()){if(0){out(1);}}else{out(2);}", "if (in()) {|} else {|out(2);|}"}, {"if(in()){out(1);}else{if(0){out(2);}}", "if (in()) {|out(1);|}"}, {"if(in()){while(0){}}else{while(0){}}", "if (in()) {|}"},
		{"if(1){if(1){out(1);}else{out(2);}if(0){out(3);}else{if(1){out(4);}}}out(5);", "out(1);|out(4);|out(5);"},
		{"if(1){if(in()){if(1){out(1);}}}else{if(in()){out(2);}}", "if (in()) {|out(1);|}"},
		{"if(0){if(in()){out(1);}}else{while(in()){if(0){out(2);}else{out(3);}out(4);}}", "while (in()) {|out(3);|out(4);|}"},
		{"while(0){out(1);}", ""}, {"while(1-1){out(1);}out(2);", "out(2);"}, {"while(0&&in()){out(1);}", ""}, {"while(1){out(1);}", "while (1) {|out(1);|}"}, {"while(-1){}out(1);", "while (-1) {|}|out(1);"}, {"while(0||5){out(1+1);}", "while (1) {|out(2);|}"},
		{"while(in()){if(1){out(1);}while(0){out(2);}while(in()*0){if(0){out(3);}}}", "while (in()) {|out(1);|while (in() * 0) {|}|}"},
		{"return 1;", "return 1;"}, {"return 1;out(2);", "return 1;"}, {"return 1;return 2;out(3);return 4;", "return 1;"}, {"out(0);return in();if(in()){out(1);}else{out(2);}out(3);", "out(0);|return in();"},
		{"if(in()){return 1;out(2);}out(3);", "if (in()) {|return 1;|}|out(3);"}, {"if(in()){return 1;out(2);}else{return 3;out(4);}out(5);", "if (in()) {|return 1;|} else {|return 3;|}|out(5);"},
		{"while(in()){return 1;out(2);}out(3);", "while (in()) {|return 1;|}|out(3);"}, {"while(1){return 1;}out(3);", "while (1) {|return 1;|}|out(3);"},
		{"if(1){return 1;}out(3);", "return 1;"}, {"if(0){return 1;}out(3);", "out(3);"}, {"if(0){}else{return 1;out(2);}out(3);", "return 1;"}, {"if(1){out(0);return 1;out(2);}else{out(3);}out(4);", "out(0);|return 1;"},
		{"if(1){if(1){if(1){return 1;}out(2);}out(3);}out(4);", "return 1;"}, {"if(1){if(in()){return 1;}}out(4);", "if (in()) {|return 1;|}|out(4);"}, {"if(1){while(in()){return 1;}}out(4);", "while (in()) {|return 1;|}|out(4);"},
		{"while(in()){if(1){return 1;}out(2);}out(3);", "while (in()) {|return 1;|}|out(3);"}, {"if(in()){if(1){return 1;}out(2);}else{if(0){return 3;}out(4);}out(5);", "if (in()) {|return 1;|} else {|out(4);|}|out(5);"},
		{"return 1;if(1){out(2);}while(0){}", "return 1;"}, {"while(0){return 1;}out(2);", "out(2);"}, {"if(1){}else{return 1;}out(2);", "out(2);"}, {"while(0){}if(0){}if(1){}", ""},
		{"if(1){int x=1;out(x);}int y=2;out(y);", "int x = 1;|out(x);|int y = 2;|out(y);"}, {"if(0){int x=1;out(x);}else{int y=2;out(y);}int z=3;", "int y = 2;|out(y);|int z = 3;"},
		{"int x=1;while(0){int y=x;x=y;}return x;int z=1;out(z);", "int x = 1;|return x;"}, {"while(in()){if(1){int x=1;out(x);}return 2;int y=3;}", "while (in()) {|int x = 1;|out(x);|return 2;|}"},
	}
	for _, r := range rows {
		becomes(t, "int main(){"+r[0]+"}", inMain(r[1]))
		becomes(t, "int f(int a){"+strings.ReplaceAll(r[0], "in()", "a")+"}int main(){f(1);}",
			strings.ReplaceAll(strings.Replace(inMain(r[1]), "main()", "f(int a)", 1), "in()", "a")+inMain("f(1);"))
	}
}

func TestSimplifyFunctions(t *testing.T) {
	rows := [][2]string{
		{"int f(){} int main(){}", ""}, {"int main(){} int f(){}", ""}, {"int f(){} int main(){} int g(){}", ""},
		{"int f(){} int main(){f();} int g(){}", "f main"}, {"int f(){} int main(){g();} int g(){}", "main g"}, {"int f(){g();} int g(){h();} int h(){} int main(){f();}", "f g h main"},
		{"int f(){g();} int g(){h();} int h(){} int main(){g();}", "g h main"}, {"int f(){g();} int g(){h();} int h(){} int main(){}", ""}, {"int f(){g();} int g(){f();} int h(){h();} int main(){}", ""},
		{"int f(){g();} int g(){f();} int main(){h();} int h(){}", "main h"}, {"int f(){main();} int main(){g();} int g(){}", "main g"},
		{"int f(){} int main(){if(0){f();}}", ""}, {"int f(){} int main(){while(0){f();}}", ""}, {"int f(){} int main(){return 1;f();}", ""}, {"int f(){} int main(){return 0&&f();}", ""}, {"int f(){} int main(){return 1||f();}", ""}, {"int f(){} int main(){if(1){}else{f();}}", ""},
		{"int f(){g();} int g(){} int main(){if(0){f();}else{g();}}", "g main"}, {"int f(){return 1;g();} int g(){} int main(){f();}", "f main"}, {"int f(){if(0){g();}h();} int g(){h();} int h(){} int main(){f();}", "f h main"},
		{"int f(){} int main(){return in()&&f();}", "f main"}, {"int f(){} int main(){return 1&&f();}", "f main"}, {"int f(){} int main(){while(1){}f();}", "f main"}, {"int f(){} int main(){return in()*0*f();}", "f main"}, {"int f(){} int main(){int f=1;out(f);}", ""},
		{"int a(int x){} int b(int x){} int c[3]; int main(){c[a(1)]=b(2);}", "a b main"}, {"int a(int x){} int b(int x){} int main(){a(b(1));}", "a b main"}, {"int a(){} int b(){} int main(){int x=0&&a()||b();}", "b main"},
	}
	for _, r := range rows {
		want := strings.Fields(r[1])
		if len(want) == 0 {
			want = []string{"main"}
		}
		first := impl.Simplify(treeOf(t, r[0]))
		var got []string
		for _, f := range first.Funcs {
			got = append(got, f.Name)
		}
		if !slices.Equal(got, want) {
			t.Errorf("%s: left are %s, want %s", r[0], got, want)
		}
		if !sameTree(impl.Simplify(first), first) {
			t.Errorf("%s: the second time something changes", r[0])
		}
	}
}

func TestSimplifyGlobalsStay(t *testing.T) {
	becomes(t, "int x;int a[4000];int y;int main(){}", "int x;\nint a[4000];\nint y;\nint main() {\n}\n")
	becomes(t, "int x;int f(){x=1;}int main(){if(0){x=2;}}int y[1];", "int x;\nint y[1];\nint main() {\n}\n")
	becomes(t, "int g;int f(int a,int b){return a-b;}int main(){g=f(1+1,g);}", "int g;\nint f(int a, int b) {\nreturn a - b;\n}\nint main() {\ng = f(2, g);\n}\n")
}

func TestSimplifyOfWhatIsNotSound(t *testing.T) {
	texts := []string{
		"", "int x;", "int f(){}", "int main(int a){}", "int main(){main();}", "int f(){g();}int g(){f();}int main(){f();}", "int main(){x=1;}", "int x;int x;int main(){}", "int main(){}int main(){}",
		"int main(){if(0){x=1;}}", "int main(){return 1;f();}", "int f(){y=1;}int main(){}", "int main(){if(0){main();}}", "int main(){while(0){int x=1;int x=2;}}", "int main(){out(0&&f(1));}int f(){}", "int a[1];int main(){out(1||a);}",
	}
	for _, text := range texts {
		if got := impl.Simplify(treeOf(t, text)); !zeroTree(got) {
			t.Errorf("%s: %s", text, short(got))
		}
	}
	tree := treeOf(t, "int main(){out(1);}")
	for what, e := range map[string][]impl.Node{"no expression": nil, "two": nodes(num(1), num(2)), "no word": nodes(num(1 << 31)), "no operand": nodes(un(0))} {
		other := cloneTree(tree)
		other.Funcs[0].Body[0].E = e
		if got := impl.Simplify(other); !zeroTree(got) {
			t.Errorf("%s: %s", what, short(got))
		}
	}
	circle := treeOf(t, "int f(){f();}int main(){out(1+1);}")
	if got := string(impl.PrintC(impl.Simplify(circle))); got != inMain("out(2);") {
		t.Errorf("a circle that main does not come to: %s", got)
	}
}

// TestSimplifyOfTheLargest takes bodies as long and as deep as may be.
func TestSimplifyOfTheLargest(t *testing.T) {
	deepest := func(kind int64, e impl.Node) impl.Tree {
		var list []impl.Stmt
		for i := range int64(impl.StmtMax - 1) {
			list = append(list, impl.Stmt{Kind: kind, E: nodes(e), Then: impl.StmtMax - 1 - i})
		}
		list = append(list, impl.Stmt{Kind: impl.SOut, E: nodes(num(3))})
		return impl.Tree{Funcs: []impl.Func{{Name: "main", Body: list}}}
	}
	one := impl.Tree{Funcs: []impl.Func{{Name: "main", Body: []impl.Stmt{{Kind: impl.SOut, E: nodes(num(3))}}}}}
	for what, r := range map[string][2]impl.Tree{
		"ifs that are true":     {deepest(impl.SIf, num(1)), one},
		"ifs that are false":    {deepest(impl.SIf, num(0)), {Funcs: []impl.Func{{Name: "main"}}}},
		"ifs that are open":     {deepest(impl.SIf, ask), deepest(impl.SIf, ask)},
		"whiles that are true":  {deepest(impl.SWhile, num(1)), deepest(impl.SWhile, num(1))},
		"whiles that are false": {deepest(impl.SWhile, num(0)), {Funcs: []impl.Func{{Name: "main"}}}},
	} {
		if got := impl.Simplify(r[0]); !sameTree(got, r[1]) {
			t.Errorf("%s: %s", what, short(got))
		}
	}
}
