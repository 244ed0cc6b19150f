package tests

import (
	"fmt"
	"slices"
	"testing"

	"loop.example/s01725/impl"
)

func noWords(t *testing.T, what string, items []impl.Item) {
	t.Helper()
	if got := impl.Assemble(items); len(got) != 0 {
		t.Errorf("%s: %d words", what, len(got))
	}
}

func TestAssembleItems(t *testing.T) {
	rows := []struct {
		items string
		want  []impl.Inst
	}{
		{"addi x5,x0,7", []impl.Inst{addi(5, 0, 7)}},
		{"label 0; ecall; label 5; lui x3,9", []impl.Inst{ecall, {Op: impl.RvLui, Rd: 3, Imm: 9}}},
		{"label 0; jump 0", []impl.Inst{{Op: impl.RvJal}}},
		{"label 0; call 0", []impl.Inst{{Op: impl.RvJal, Rd: 1}}},
		{"label 0; beq x1,x2,0", []impl.Inst{{Op: impl.RvBeq, Rs1: 1, Rs2: 2}}},
		{"jump 3; label 3", []impl.Inst{{Op: impl.RvJal, Imm: 4}}},
		{"call 3; ecall; label 3", []impl.Inst{{Op: impl.RvJal, Rd: 1, Imm: 8}, ecall}},
		{"blt x31,x0,3; ecall; ecall; label 3; ecall", []impl.Inst{{Op: impl.RvBlt, Rs1: 31, Imm: 12}, ecall, ecall, ecall}},
		{"label 1; ecall; label 2; jump 1; label 3; call 2; bgeu x0,x9,3; jump 1", []impl.Inst{ecall, {Op: impl.RvJal, Imm: -4}, {Op: impl.RvJal, Rd: 1, Imm: -4}, {Op: impl.RvBgeu, Rs2: 9, Imm: -4}, {Op: impl.RvJal, Imm: -16}}},
		{"label 9; label 8; label 7; jump 8; jump 7; jump 9; jump 6; label 6", []impl.Inst{{Op: impl.RvJal}, {Op: impl.RvJal, Imm: -4}, {Op: impl.RvJal, Imm: -8}, {Op: impl.RvJal, Imm: 4}}},
		{"label 9223372036854775807; jump 9223372036854775807", []impl.Inst{{Op: impl.RvJal}}},
	}
	for _, r := range rows {
		holdInsts(t, r.items, impl.Assemble(itemsOf(t, r.items)), r.want)
		assembles(t, r.items, itemsOf(t, r.items))
	}
}

// TestAssembleEveryInstruction: an ItInst is its word, also where it is a branch or a
// jump of its own.
func TestAssembleEveryInstruction(t *testing.T) {
	n := &numbers{77}
	rules := opRules()
	var items []impl.Item
	var want []impl.Inst
	for range 3000 {
		x := randomInst(n, rules)
		items = append(items, impl.Item{Kind: impl.ItInst, Inst: x})
		want = append(want, x)
	}
	holdInsts(t, "instructions", impl.Assemble(items), want)
}

// TestAssembleNothing takes each condition of the empty answer alone: the items around
// are right, and would have words.
func TestAssembleNothing(t *testing.T) {
	good := itemsOf(t, "label 1; ecall; beq x5,x0,1; jump 1; call 1; addi x5,x0,1; label 2")
	if len(impl.Assemble(good)) != 5 {
		t.Fatalf("what is right has %d words", len(impl.Assemble(good)))
	}
	valid := impl.Inst{Op: impl.RvBeq, Rs1: 5}
	bad := map[string]impl.Item{
		"no kind": {}, "a kind below 0": {Kind: -1}, "kind 6": {Kind: 6}, "kind 0 with an instruction": {Inst: ecall}, "kind 6 with an instruction": {Kind: 6, Inst: ecall}, "a great kind": {Kind: 1<<32 + 1, Inst: ecall},
		"ItInst without an instruction": {Kind: impl.ItInst}, "ItInst of no op": {Kind: impl.ItInst, Inst: impl.Inst{Op: 35}}, "ItInst with an Imm too large": {Kind: impl.ItInst, Inst: addi(5, 0, 2048)}, "ItInst with a register too large": {Kind: impl.ItInst, Inst: addi(32, 0, 0)}, "ItInst with an unused field": {Kind: impl.ItInst, Inst: impl.Inst{Op: impl.RvEcall, Rd: 1}},
		"ItInst with a label": {Kind: impl.ItInst, Inst: ecall, Label: 1}, "ItInst with a label below 0": {Kind: impl.ItInst, Inst: ecall, Label: -1},
		"ItBranch without an instruction": {Kind: impl.ItBranch, Label: 1}, "ItBranch of an Imm": {Kind: impl.ItBranch, Inst: impl.Inst{Op: impl.RvBeq, Imm: 4}, Label: 1}, "ItBranch of an Imm below 0": {Kind: impl.ItBranch, Inst: impl.Inst{Op: impl.RvBeq, Imm: -4}, Label: 1},
		"ItBranch of a jal": {Kind: impl.ItBranch, Inst: impl.Inst{Op: impl.RvJal}, Label: 1}, "ItBranch of a jalr": {Kind: impl.ItBranch, Inst: impl.Inst{Op: impl.RvJalr}, Label: 1}, "ItBranch of a lw": {Kind: impl.ItBranch, Inst: impl.Inst{Op: impl.RvLw}, Label: 1}, "ItBranch of an add": {Kind: impl.ItBranch, Inst: impl.Inst{Op: impl.RvAdd}, Label: 1},
		"ItBranch with an Rd": {Kind: impl.ItBranch, Inst: impl.Inst{Op: impl.RvBeq, Rd: 1}, Label: 1}, "ItBranch with a register too large": {Kind: impl.ItBranch, Inst: impl.Inst{Op: impl.RvBeq, Rs1: 32}, Label: 1}, "ItBranch with a register below 0": {Kind: impl.ItBranch, Inst: impl.Inst{Op: impl.RvBeq, Rs2: -1}, Label: 1},
		"ItBranch to a label below 0": {Kind: impl.ItBranch, Inst: valid, Label: -1}, "ItJump to a label below 0": jumpItem(-1), "ItCall to a label below 0": callItem(-1), "ItLabel below 0": labelItem(-1), "ItLabel far below 0": labelItem(-1 << 63),
		"ItLabel with an instruction": {Kind: impl.ItLabel, Inst: ecall, Label: 3}, "ItJump with an instruction": {Kind: impl.ItJump, Inst: impl.Inst{Op: impl.RvJal}, Label: 1}, "ItCall with an instruction": {Kind: impl.ItCall, Inst: impl.Inst{Op: impl.RvJal, Rd: 1}, Label: 1}, "ItJump with an Imm": {Kind: impl.ItJump, Inst: impl.Inst{Imm: 4}, Label: 1}, "ItLabel with a register": {Kind: impl.ItLabel, Inst: impl.Inst{Rd: 1}, Label: 3},
		"a second place of a label that is used": labelItem(1), "a second place of a label that is not used": labelItem(2),
		"ItBranch to no place": branchItem(impl.RvBeq, 3), "ItJump to no place": jumpItem(3), "ItCall to no place": callItem(0),
	}
	for what, x := range bad {
		for at := range len(good) + 1 {
			noWords(t, fmt.Sprintf("%s at %d", what, at), slices.Insert(slices.Clone(good), at, x))
		}
	}
	right := map[string]impl.Item{"a label that is not used": labelItem(3), "ItBranch of each register": {Kind: impl.ItBranch, Inst: impl.Inst{Op: impl.RvBgeu, Rs1: 31, Rs2: 31}, Label: 2}, "label 0": labelItem(0), "a great label": labelItem(1<<63 - 1)}
	for what, x := range right {
		for at := range len(good) + 1 {
			assembles(t, what, slices.Insert(slices.Clone(good), at, x))
		}
	}
	noWords(t, "nil", nil)
	noWords(t, "no item", []impl.Item{})
	noWords(t, "only labels", []impl.Item{labelItem(0), labelItem(1)})
}

func TestAssembleAtCodeMaxItems(t *testing.T) {
	for _, n := range []int{1, impl.CodeMax - 1, impl.CodeMax} {
		if got := len(impl.Assemble(nops(n))); got != n {
			t.Errorf("%d items have %d words", n, got)
		}
		labelled := append(nops(n-1), labelItem(4))
		if got := len(impl.Assemble(labelled)); got != n-1 {
			t.Errorf("%d items with a label have %d words", n, got)
		}
	}
	noWords(t, "one item more", nops(impl.CodeMax+1))
	noWords(t, "one label more", append(nops(impl.CodeMax), labelItem(4)))
	var labels []impl.Item
	for l := range int64(10) {
		labels = append(labels, labelItem(l))
	}
	if got := len(impl.Assemble(append(labels, nops(impl.CodeMax-10)...))); got != impl.CodeMax-10 {
		t.Errorf("with ten labels %d words", got)
	}
	noWords(t, "ten labels and one item more", append(labels, nops(impl.CodeMax-9)...))
	noWords(t, "many more", nops(3*impl.CodeMax))
}

// TestAssembleAtCodeMaxWords: there are as many items as there may be, one of them a
// label; each long branch takes one word more.
func TestAssembleAtCodeMaxWords(t *testing.T) {
	for long := range 4 {
		items := slices.Concat([]impl.Item{labelItem(0)}, nops(impl.CodeMax-1-long), slices.Repeat([]impl.Item{branchItem(impl.RvBne, 0)}, long))
		want := impl.CodeMax - 1 + long
		if want > impl.CodeMax {
			want = 0
		}
		if got := len(impl.Assemble(items)); len(items) != impl.CodeMax || got != want {
			t.Errorf("%d long branches: %d words, want %d", long, got, want)
		}
	}
	// A jump over all the code there may be.
	items := slices.Concat([]impl.Item{jumpItem(1), labelItem(0)}, nops(impl.CodeMax-5), []impl.Item{jumpItem(0), labelItem(1), callItem(0)})
	assembles(t, "jumps over all", items)
}

// branchAt gives items with a branch whose distance to its label is so many bytes while
// it takes one word.
func branchAt(op, distance int64) []impl.Item {
	words := int(distance / 4)
	if words > 0 {
		return slices.Concat(nops(3), []impl.Item{branchItem(op, 7)}, nops(words-1), []impl.Item{labelItem(7)}, nops(2))
	}
	return slices.Concat(nops(3), []impl.Item{labelItem(7)}, nops(-words), []impl.Item{branchItem(op, 7)}, nops(2))
}

func TestAssembleDistances(t *testing.T) {
	for op := int64(impl.RvBeq); op <= impl.RvBgeu; op++ {
		for _, r := range []struct {
			distance int64
			long     int
		}{
			{4, 0}, {8, 0}, {0, 0}, {-4, 0}, {-8, 0}, {2048, 0}, {-2048, 0},
			{4084, 0}, {4088, 0}, {4092, 0}, {4096, 1}, {4100, 1}, {4104, 1}, {8192, 1}, {40000, 1},
			{-4088, 0}, {-4092, 0}, {-4096, 0}, {-4100, 1}, {-4104, 1}, {-8192, 1}, {-40000, 1},
		} {
			items := branchAt(op, r.distance)
			what := fmt.Sprintf("%s at %d", opNames[op], r.distance)
			if long := assembles(t, what, items); long != r.long {
				t.Errorf("%s: %d are long", what, long)
			}
			words := impl.Assemble(items)
			at := 3
			if r.distance <= 0 {
				at += int(-r.distance / 4)
			}
			first := impl.Inst{Op: op, Rs1: 5, Rs2: 6, Imm: r.distance}
			if r.long == 1 {
				first.Op, first.Imm = opposites[op], 8
				// Forward the label has moved on by a word, as has the jal.
				jal := impl.Inst{Op: impl.RvJal, Imm: r.distance}
				if r.distance < 0 {
					jal.Imm -= 4
				}
				if got := impl.Decode(words[at+1]).Inst; got != jal {
					t.Errorf("%s: %+v, want %+v", what, got, jal)
				}
			}
			if got := impl.Decode(words[at]).Inst; got != first {
				t.Errorf("%s: %+v, want %+v", what, got, first)
			}
		}
	}
}

// TestAssemblePushes: a branch that becomes long pushes another out of reach.
func TestAssemblePushes(t *testing.T) {
	one, two := branchItem(impl.RvBlt, 1), branchItem(impl.RvBgeu, 2)
	l1, l2 := labelItem(1), labelItem(2)
	forward := func(gap int) []impl.Item { // one reaches l1 by 1023 words, two stands between
		return slices.Concat([]impl.Item{one}, nops(500), []impl.Item{two}, nops(521), []impl.Item{l1}, nops(gap), []impl.Item{l2, nop})
	}
	backward := func(gap int) []impl.Item { // from one back to l1 are 1024 words
		return slices.Concat([]impl.Item{l2}, nops(gap), []impl.Item{l1}, nops(500), []impl.Item{two}, nops(523), []impl.Item{one, nop})
	}
	for _, r := range []struct {
		what  string
		items []impl.Item
		long  int
	}{
		{"forward, near", forward(501), 0}, {"forward, pushed", forward(502), 2}, {"forward, far", forward(5000), 2},
		{"backward, near", backward(524), 0}, {"backward, pushed", backward(525), 2}, {"backward, far", backward(5000), 2},
		{"not pushed: it stands behind", slices.Concat([]impl.Item{one}, nops(1022), []impl.Item{l1, two}, nops(2000), []impl.Item{l2}), 1},
		{"not pushed: it stands before", slices.Concat([]impl.Item{two, one}, nops(1022), []impl.Item{l1}, nops(2000), []impl.Item{l2}), 1},
		{"pushed by one that leads out of it backward", slices.Concat([]impl.Item{l2}, nops(1500), []impl.Item{one}, nops(500), []impl.Item{two}, nops(521), []impl.Item{l1}), 2},
		{"two that push each other are near", slices.Concat([]impl.Item{one, two}, nops(1021), []impl.Item{l1, nop, l2}), 0},
		{"the second pushes the first", slices.Concat([]impl.Item{one, two}, nops(1021), []impl.Item{l1, nop, nop, l2}), 2},
		{"backward, pushed by one that leads forward", slices.Concat([]impl.Item{l1}, nops(1000), []impl.Item{two}, nops(23), []impl.Item{one}, nops(1000), []impl.Item{l2}), 2},
	} {
		if long := assembles(t, r.what, r.items); long != r.long {
			t.Errorf("%s: %d are long, want %d", r.what, long, r.long)
		}
	}
}

// chain gives branches each of which becomes long only when the one behind it has.
func chain(n int) []impl.Item {
	items := []impl.Item{}
	for i := range n {
		items = append(items, branchItem(impl.RvBeq+int64(i%6), int64(i)))
		items = append(items, nops(999)...)
		if i > 0 {
			// The one before has come to 1000 words, its label is 23 further on.
			at := len(items) - 1000 + 23
			items = slices.Insert(items, at, labelItem(int64(i-1)))
		}
	}
	return append(append(items, nops(24)...), labelItem(int64(n-1)))
}

func TestAssembleChains(t *testing.T) {
	for _, n := range []int{1, 2, 3, 10, 19} {
		items := chain(n)
		if long := assembles(t, fmt.Sprintf("a chain of %d", n), items); long != n {
			t.Errorf("a chain of %d: %d are long", n, long)
		}
		// With one word less behind the last one, all reach.
		if long := assembles(t, "a chain with a shorter end", slices.Delete(items, len(items)-2, len(items)-1)); long != 0 {
			t.Errorf("a chain of %d with a shorter end: %d are long", n, long)
		}
	}
}

// TestAssembleTheLongestChain: thousands of branches that become long one or two at a
// time, from the last to the first; it must not take forever.
func TestAssembleTheLongestChain(t *testing.T) {
	const count, span = 9000, 512
	var items []impl.Item
	for i := range count + span {
		if i < count {
			items = append(items, branchItem(impl.RvBne, int64(i)))
		} else {
			items = append(items, nop, nop)
		}
		if i >= span {
			items = append(items, labelItem(int64(i-span)))
		}
	}
	long := map[int]int{}
	for i, x := range items {
		if x.Kind == impl.ItBranch {
			long[i] = 1
		}
	}
	holdInsts(t, "the longest chain", impl.Assemble(items), wantInsts(items, long))
}

// TestAssembleAtRandom: branches, jumps and calls of every kind among labels.
func TestAssembleAtRandom(t *testing.T) {
	many := 0
	for seed := range uint64(60) {
		n := &numbers{seed*19 + 7}
		count := 1 + n.below(40)
		var items []impl.Item
		for l := range count {
			items = append(items, labelItem(l*3))
		}
		for range n.below(120) {
			l := 3 * n.below(count)
			items = append(items, pick(n, []impl.Item{branchItem(impl.RvBeq+n.below(6), l), branchItem(impl.RvBeq+n.below(6), l), jumpItem(l), callItem(l), {Kind: impl.ItInst, Inst: ecall}}))
		}
		for i := len(items) - 1; i > 0; i-- {
			j := n.below(int64(i + 1))
			items[i], items[j] = items[j], items[i]
		}
		var spread []impl.Item
		for _, x := range items {
			spread = append(append(spread, nops(int(n.below(1+int64(seed)*2)))...), x)
		}
		many += assembles(t, fmt.Sprint("seed ", seed), spread)
	}
	if many < 300 {
		t.Errorf("only %d are long", many)
	}
}
