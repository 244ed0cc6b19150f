package tests

import (
	"fmt"
	"slices"
	"strconv"
	"strings"
	"testing"

	"loop.example/s01725/impl"
)

// opNames are the ops as they are written, in the order of their numbers.
var opNames = strings.Fields("- lui jal jalr beq bne blt bge bltu bgeu lw sw addi slti sltiu xori ori andi slli srli srai add sub sll slt sltu xor srl sra or and mul div rem ecall")

// itemKinds are the items that have nothing but a label, as they are written.
var itemKinds = map[string]int64{"label": impl.ItLabel, "jump": impl.ItJump, "call": impl.ItCall}

// itemOf reads one item: an instruction as an assembler writes it, a branch to a label
// (beq x5,x0,3), or "label 3", "jump 3", "call 3".
func itemOf(t *testing.T, text string) impl.Item {
	t.Helper()
	words := strings.FieldsFunc(text, func(r rune) bool { return strings.ContainsRune(" ,()", r) })
	var vals []int64
	for _, w := range words[1:] {
		v, err := strconv.ParseInt(strings.TrimPrefix(w, "x"), 10, 64)
		if err != nil {
			t.Fatalf("%q is no item", text)
		}
		vals = append(vals, v)
	}
	if kind, there := itemKinds[words[0]]; there {
		return impl.Item{Kind: kind, Label: vals[0]}
	}
	op := int64(slices.Index(opNames, words[0]))
	x := impl.Item{Kind: impl.ItInst, Inst: impl.Inst{Op: op}}
	switch {
	case op <= 0:
		t.Fatalf("%q is no item", text)
	case op == impl.RvEcall:
	case op == impl.RvLui:
		x.Inst.Rd, x.Inst.Imm = vals[0], vals[1]
	case op == impl.RvSw:
		x.Inst.Rs2, x.Inst.Imm, x.Inst.Rs1 = vals[0], vals[1], vals[2]
	case op == impl.RvLw || op == impl.RvJalr:
		x.Inst.Rd, x.Inst.Imm, x.Inst.Rs1 = vals[0], vals[1], vals[2]
	case op >= impl.RvBeq && op <= impl.RvBgeu:
		x.Kind, x.Inst.Rs1, x.Inst.Rs2, x.Label = impl.ItBranch, vals[0], vals[1], vals[2]
	case op >= impl.RvAdd:
		x.Inst.Rd, x.Inst.Rs1, x.Inst.Rs2 = vals[0], vals[1], vals[2]
	default:
		x.Inst.Rd, x.Inst.Rs1, x.Inst.Imm = vals[0], vals[1], vals[2]
	}
	return x
}

// itemsOf reads items with semicolons between them.
func itemsOf(t *testing.T, text string) []impl.Item {
	t.Helper()
	var items []impl.Item
	for _, line := range strings.FieldsFunc(text, func(r rune) bool { return r == ';' || r == '\n' }) {
		if strings.TrimSpace(line) != "" {
			items = append(items, itemOf(t, strings.TrimSpace(line)))
		}
	}
	return items
}

// written gives an item as itemOf reads it, or all its fields if that would lose some.
func written(x impl.Item) string {
	for word, kind := range itemKinds {
		if x == (impl.Item{Kind: kind, Label: x.Label}) {
			return fmt.Sprintf("%s %d", word, x.Label)
		}
	}
	i := x.Inst
	if i.Op < impl.RvLui || i.Op > impl.RvEcall {
		return fmt.Sprintf("%+v", x)
	}
	name := opNames[i.Op]
	switch {
	case x.Kind == impl.ItBranch && i.Rd == 0 && i.Imm == 0:
		return fmt.Sprintf("%s x%d,x%d,%d", name, i.Rs1, i.Rs2, x.Label)
	case x.Kind != impl.ItInst || x.Label != 0 || !impl.ValidInst(i):
		return fmt.Sprintf("%+v", x)
	case i.Op == impl.RvEcall:
		return name
	case i.Op == impl.RvLui:
		return fmt.Sprintf("%s x%d,%d", name, i.Rd, i.Imm)
	case i.Op == impl.RvSw:
		return fmt.Sprintf("%s x%d,%d(x%d)", name, i.Rs2, i.Imm, i.Rs1)
	case i.Op == impl.RvLw || i.Op == impl.RvJalr:
		return fmt.Sprintf("%s x%d,%d(x%d)", name, i.Rd, i.Imm, i.Rs1)
	case i.Op >= impl.RvAdd:
		return fmt.Sprintf("%s x%d,x%d,x%d", name, i.Rd, i.Rs1, i.Rs2)
	}
	return fmt.Sprintf("%s x%d,x%d,%d", name, i.Rd, i.Rs1, i.Imm)
}

func listing(items []impl.Item) string {
	var lines []string
	for _, x := range items {
		lines = append(lines, written(x))
	}
	return strings.Join(lines, "; ")
}

// sameItems checks items against those that are wanted.
func sameItems(t *testing.T, what string, got, want []impl.Item) {
	t.Helper()
	if slices.Equal(got, want) {
		return
	}
	at := 0
	for at < min(len(got), len(want)) && got[at] == want[at] {
		at++
	}
	from := max(0, at-3)
	t.Fatalf("%.1500s:\nat item %d of %d got  .. %.300s\nof %d wanted .. %.300s", what, at, len(got), listing(got[from:]), len(want), listing(want[from:]))
}

// placesIn gives the place of each node's value when that of the whole comes into d. It
// goes from the end, where a node stands before its operands.
func placesIn(e []impl.Node, d int64) []int64 {
	places := make([]int64, len(e))
	waiting := []int64{d}
	for i := len(e) - 1; i >= 0; i-- {
		at := waiting[len(waiting)-1]
		waiting = waiting[:len(waiting)-1]
		places[i] = at
		switch e[i].Kind {
		case impl.EIndex, impl.EUn:
			waiting = append(waiting, at)
		case impl.EBin:
			waiting = append(waiting, at, at+1)
		case impl.EAnd, impl.EOr:
			waiting = append(waiting, at, at)
		case impl.ECall:
			for j := range e[i].Val {
				waiting = append(waiting, at+j)
			}
		}
	}
	return places
}

// wantFrame counts the words of a function's frame.
func wantFrame(f impl.Func) int64 {
	words, places := int64(len(f.Params)), int64(0)
	for _, s := range f.Body {
		if s.Kind == impl.SDecl {
			words++
		}
		for _, at := range placesIn(s.E, 0) {
			places = max(places, at+1)
		}
		if s.Kind == impl.SStore {
			for _, at := range placesIn(s.F, 1) {
				places = max(places, at+1)
			}
		}
	}
	size := 4 * (words + places + 1)
	for size%16 != 0 {
		size++
	}
	return size
}

func wantFrames(t impl.Tree) []int64 {
	var frames []int64
	for _, f := range t.Funcs {
		frames = append(frames, wantFrame(f))
	}
	return frames
}

// wantBound follows every path of calls from main on, one after the other.
func wantBound(t impl.Tree, frames []int64) int64 {
	var most int64
	var walk func(f int, sum int64)
	walk = func(f int, sum int64) {
		sum += frames[f]
		most = max(most, sum)
		for _, callee := range wantCalls(t, f) {
			walk(int(callee), sum)
		}
	}
	walk(firstFunc(t, "main"), 0)
	return most
}

// writer is a generator of another kind: it goes along the lists, and each node is a
// text in which R, A and B stand for registers.
type writer struct {
	tree   impl.Tree
	words  map[string]int64
	label  int64
	ending int64
	out    []string
}

var nodeTexts = map[impl.Node]string{
	un(impl.UnNeg): "readA; sub R,x0,A; write", un(impl.UnNot): "readA; sltiu R,A,1; write", un(impl.UnInv): "readA; xori R,A,-1; write",
	bin(impl.BinMul): "readA; readB; mul R,A,B; write", bin(impl.BinDiv): "readA; readB; div R,A,B; write", bin(impl.BinRem): "readA; readB; rem R,A,B; write",
	bin(impl.BinAdd): "readA; readB; add R,A,B; write", bin(impl.BinSub): "readA; readB; sub R,A,B; write",
	bin(impl.BinShl): "readA; readB; sll R,A,B; write", bin(impl.BinShr): "readA; readB; sra R,A,B; write",
	bin(impl.BinLt): "readA; readB; slt R,A,B; write", bin(impl.BinGt): "readA; readB; slt R,B,A; write",
	bin(impl.BinLe): "readA; readB; slt R,B,A; xori R,R,1; write", bin(impl.BinGe): "readA; readB; slt R,A,B; xori R,R,1; write",
	bin(impl.BinEq): "readA; readB; sub R,A,B; sltiu R,R,1; write", bin(impl.BinNe): "readA; readB; sub R,A,B; sltu R,x0,R; write",
	bin(impl.BinAnd): "readA; readB; and R,A,B; write", bin(impl.BinXor): "readA; readB; xor R,A,B; write", bin(impl.BinOr): "readA; readB; or R,A,B; write",
	both: "readA; sltu R,x0,A; write", either: "readA; sltu R,x0,A; write",
	ask: "addi x17,x0,2; ecall; result",
}

// say writes a text for place d.
func (w *writer) say(text string, d int64) {
	r, a, b := "x30", "x30", "x31"
	regs := []string{"x5", "x6", "x7", "x28", "x29"}
	if d < 5 {
		r, a = regs[d], regs[d]
	}
	if d+1 < 5 {
		b = regs[d+1]
	}
	word := func(d int64) string { return fmt.Sprintf("%d(x2)", 4*(int64(len(w.words))+d)) }
	for _, line := range strings.Split(text, "; ") {
		switch {
		case line == "readA" && d >= 5:
			line = "lw x30," + word(d)
		case line == "readB" && d+1 >= 5:
			line = "lw x31," + word(d+1)
		case line == "write" && d >= 5:
			line = "sw x30," + word(d)
		case line == "result" && d < 5:
			line = "addi " + r + ",x10,0"
		case line == "result":
			line = "sw x10," + word(d)
		case line == "readA" || line == "readB" || line == "write":
			continue
		}
		for _, reg := range [3][2]string{{"R", r}, {"A", a}, {"B", b}} {
			line = strings.ReplaceAll(line, reg[0], reg[1])
		}
		w.out = append(w.out, line)
	}
}

// number gives what loads a number: the first lui that, by trying, is near enough.
func number(v int64) string {
	if v >= -2048 && v < 2048 {
		return fmt.Sprintf("addi R,x0,%d", v)
	}
	high := v / 4096
	for high*4096 > v+2048 || v-high*4096 > 2047 {
		if v-high*4096 > 2047 {
			high++
		} else {
			high--
		}
	}
	text := fmt.Sprintf("lui R,%d", (high+1<<20)%(1<<20))
	if low := v - high*4096; low != 0 {
		text += fmt.Sprintf("; addi R,R,%d", low)
	}
	return text
}

// address gives what loads the address of a global into x31.
func (w *writer) address(name string) string {
	at := int64(impl.DataBase)
	for _, g := range w.tree.Globals {
		if g.Name == name {
			break
		}
		at += 4 * max(1, g.Size)
	}
	return strings.ReplaceAll(number(at), "R", "x31")
}

// expr writes an expression into place d. Labels are taken where EAnd and EOr begin,
// those that end later first.
func (w *writer) expr(e []impl.Node, d int64) {
	places := placesIn(e, d)
	rights := rightOnes(e)
	labels := map[int]int64{}
	for i := range e {
		for last := len(e) - 1; last > i; last-- {
			if (e[last].Kind == impl.EAnd || e[last].Kind == impl.EOr) && firstNode(e, last) == i {
				labels[last] = w.label
				w.label++
			}
		}
	}
	for i, n := range e {
		if at, there := rights[i]; there {
			op := map[int64]string{impl.EAnd: "beq", impl.EOr: "bne"}[e[at].Kind]
			w.say(fmt.Sprintf("readA; %s A,x0,%d", op, labels[at]), places[at])
		}
		switch n.Kind {
		case impl.ENum:
			w.say(number(n.Val)+"; write", places[i])
		case impl.EVar:
			w.variable(n.Name, places[i])
		case impl.EIndex:
			w.say("readA; slli A,A,2; "+w.address(n.Name)+"; add x31,x31,A; lw R,0(x31); write", places[i])
		case impl.ECall:
			w.call(n, places[i])
		case impl.EAnd, impl.EOr:
			w.say(fmt.Sprintf("label %d", labels[i]), places[i])
			fallthrough
		default:
			w.say(nodeTexts[n], places[i])
		}
	}
}

// firstNode gives the place of the first node of the expression whose last is at last.
func firstNode(e []impl.Node, last int) int {
	missing := 1
	for {
		n := e[last]
		missing += map[int64]int{impl.EIndex: 1, impl.ECall: int(n.Val), impl.EUn: 1, impl.EBin: 2, impl.EAnd: 2, impl.EOr: 2}[n.Kind] - 1
		if missing == 0 {
			return last
		}
		last--
	}
}

func (w *writer) variable(name string, d int64) {
	if word, there := w.words[name]; there {
		w.say(fmt.Sprintf("lw R,%d(x2); write", 4*word), d)
	} else {
		w.say(w.address(name)+"; lw R,0(x31); write", d)
	}
}

func (w *writer) call(n impl.Node, d int64) {
	first := int64(len(w.words))
	kept := func(op string) {
		for j, r := range []string{"x5", "x6", "x7", "x28", "x29"} {
			if int64(j) < d {
				w.say(fmt.Sprintf("%s %s,%d(x2)", op, r, 4*(first+int64(j))), 0)
			}
		}
	}
	kept("sw")
	for i := range n.Val {
		if d+i < 5 {
			w.say(fmt.Sprintf("addi x%d,A,0", 10+i), d+i)
		} else {
			w.say(fmt.Sprintf("lw x%d,%d(x2)", 10+i, 4*(first+d+i)), d+i)
		}
	}
	w.say(fmt.Sprintf("call %d", firstFunc(w.tree, n.Name)), d)
	kept("lw")
	w.say("result", d)
}

// statements goes along a body; what stands behind a block waits until the block ends.
func (w *writer) statements(list []impl.Stmt) {
	ends := map[int][]string{}
	take := func() int64 { w.label++; return w.label - 1 }
	behind := func(at int, lines ...string) { ends[at] = append(lines, ends[at]...) }
	for i, s := range list {
		w.out = append(w.out, ends[i]...)
		then := i + 1 + int(s.Then)
		switch s.Kind {
		case impl.SIf:
			n := take()
			if s.Else == 0 {
				behind(then, fmt.Sprintf("label %d", n))
			} else {
				m := take()
				behind(then+int(s.Else), fmt.Sprintf("label %d", m))
				behind(then, fmt.Sprintf("jump %d", m), fmt.Sprintf("label %d", n))
			}
			w.expr(s.E, 0)
			w.say(fmt.Sprintf("beq A,x0,%d", n), 0)
		case impl.SWhile:
			n, m := take(), take()
			behind(then, fmt.Sprintf("jump %d", n), fmt.Sprintf("label %d", m))
			w.say(fmt.Sprintf("label %d", n), 0)
			w.expr(s.E, 0)
			w.say(fmt.Sprintf("beq A,x0,%d", m), 0)
		default:
			w.plain(s)
		}
	}
	w.out = append(w.out, ends[len(list)]...)
}

func (w *writer) plain(s impl.Stmt) {
	w.expr(s.E, 0)
	word, local := w.words[s.Name]
	switch s.Kind {
	case impl.SDecl, impl.SSet:
		if local {
			w.say(fmt.Sprintf("sw A,%d(x2)", 4*word), 0)
		} else {
			w.say(w.address(s.Name)+"; sw A,0(x31)", 0)
		}
	case impl.SStore:
		w.expr(s.F, 1)
		w.say("slli A,A,2; "+w.address(s.Name)+"; add x31,x31,A; sw B,0(x31)", 0)
	case impl.SReturn:
		w.say(fmt.Sprintf("addi x10,A,0; jump %d", w.ending), 0)
	case impl.SOut:
		w.say("addi x10,A,0; addi x17,x0,1; ecall", 0)
	}
}

// wantGen is what the document says of the items of a sound tree.
func wantGen(t *testing.T, tree impl.Tree) []impl.Item {
	t.Helper()
	w := &writer{tree: tree, label: int64(len(tree.Funcs))}
	w.say(fmt.Sprintf("call %d; addi x17,x0,10; ecall", firstFunc(tree, "main")), 0)
	for i, f := range tree.Funcs {
		frame := wantFrame(f)
		w.words = map[string]int64{}
		w.ending = w.label
		w.label++
		w.say(fmt.Sprintf("label %d; addi x2,x2,-%d; sw x1,%d(x2)", i, frame, frame-4), 0)
		for j, name := range f.Params {
			w.words[name] = int64(j)
			w.say(fmt.Sprintf("sw x%d,%d(x2)", 10+j, 4*j), 0)
		}
		for _, s := range f.Body {
			if s.Kind == impl.SDecl {
				w.words[s.Name] = int64(len(w.words))
			}
		}
		w.statements(f.Body)
		w.say(fmt.Sprintf("addi x10,x0,0; label %d; lw x1,%d(x2); addi x2,x2,%d; jalr x0,0(x1)", w.ending, frame-4, frame), 0)
	}
	return itemsOf(t, strings.Join(w.out, ";"))
}

// sink puts expressions of a tree behind left operands, so that they come into places
// further on, and numbers of many sizes among them.
func (m *maker) sink(tree *impl.Tree, most int64) {
	for i := range tree.Funcs {
		for j := range tree.Funcs[i].Body {
			s := &tree.Funcs[i].Body[j]
			if s.Kind != impl.SCall && m.below(2) == 0 {
				s.E = m.sunk(s.E, m.below(most+1))
			}
			if s.Kind == impl.SStore && m.below(2) == 0 {
				s.F = m.sunk(s.F, m.below(most+1))
			}
		}
	}
}

func (m *maker) sunk(e []impl.Node, d int64) []impl.Node {
	var left, ops []impl.Node
	for range d {
		v := pick(m.numbers, []int64{0, 1, 7, 2047, 2048, -2048, -2049, 4096, 8192, 1 << 30, minWord, maxWord})
		left = append(left, pick(m.numbers, nodes(num(v), num(v), ask)))
		ops = append(ops, bin(m.below(16)))
		if m.below(4) == 0 {
			left = append(left, un(m.below(3)))
		}
	}
	return slices.Concat(left, e, ops)
}

// tame makes every index one of its array's, by a mask.
func tame(tree *impl.Tree) {
	masks := map[string]int64{}
	for _, g := range tree.Globals {
		for masks[g.Name]*2+1 < g.Size {
			masks[g.Name] = masks[g.Name]*2 + 1
		}
	}
	masked := func(e []impl.Node) []impl.Node {
		var list []impl.Node
		for _, n := range e {
			if n.Kind == impl.EIndex {
				list = append(list, num(masks[n.Name]), bin(impl.BinAnd))
			}
			list = append(list, n)
		}
		return list
	}
	for i := range tree.Funcs {
		for j := range tree.Funcs[i].Body {
			s := &tree.Funcs[i].Body[j]
			s.E, s.F = masked(s.E), masked(s.F)
			if s.Kind == impl.SStore {
				s.E = append(s.E, num(masks[s.Name]), bin(impl.BinAnd))
			}
		}
	}
}

// writable leaves no number that a text cannot have: the smallest word would be the
// negative of a NUM that is too large.
func writable(tree *impl.Tree) {
	for i := range tree.Funcs {
		for _, s := range tree.Funcs[i].Body {
			for _, e := range [2][]impl.Node{s.E, s.F} {
				for j := range e {
					if e[j] == num(minWord) {
						e[j] = num(minWord + 1)
					}
				}
			}
		}
	}
}
