package tests

import (
	"slices"
	"testing"

	"loop.example/s01725/impl"
)

// dataOf gives the bytes of the globals.
func dataOf(t impl.Tree) int64 {
	var bytes int64
	for _, g := range t.Globals {
		bytes += 4
		if g.Size > 0 {
			bytes += 4 * (g.Size - 1)
		}
	}
	return bytes
}

// imageOf gives the image of a sound tree, which is not simplified.
func imageOf(t impl.Tree) impl.Image {
	return impl.Image{Code: impl.Assemble(impl.Gen(t)), Data: dataOf(t), Bound: impl.Bound(t)}
}

// nop is an instruction that does nothing; nops are many.
var nop = impl.Item{Kind: impl.ItInst, Inst: impl.Inst{Op: impl.RvAddi}}

func nops(n int) []impl.Item { return slices.Repeat([]impl.Item{nop}, n) }

func labelItem(l int64) impl.Item { return impl.Item{Kind: impl.ItLabel, Label: l} }
func jumpItem(l int64) impl.Item  { return impl.Item{Kind: impl.ItJump, Label: l} }
func callItem(l int64) impl.Item  { return impl.Item{Kind: impl.ItCall, Label: l} }

func branchItem(op, l int64) impl.Item {
	return impl.Item{Kind: impl.ItBranch, Inst: impl.Inst{Op: op, Rs1: 5, Rs2: 6}, Label: l}
}

// opposites are the branches that are taken where the other one is not.
var opposites = map[int64]int64{
	impl.RvBeq: impl.RvBne, impl.RvBne: impl.RvBeq, impl.RvBlt: impl.RvBge, impl.RvBge: impl.RvBlt, impl.RvBltu: impl.RvBgeu, impl.RvBgeu: impl.RvBltu,
}

// layout gives the place of each item, in bytes, and of each label, with these items long.
func layout(items []impl.Item, long map[int]int) (at []int64, labels map[int64]int64) {
	labels = map[int64]int64{}
	var place int64
	for i, x := range items {
		at = append(at, place)
		if x.Kind == impl.ItLabel {
			labels[x.Label] = place
			continue
		}
		place += 4 + 4*int64(long[i])
	}
	return at, labels
}

// wantLong makes one branch long at a time, the first that does not reach its label.
func wantLong(items []impl.Item) map[int]int {
	long := map[int]int{}
	for {
		at, labels := layout(items, long)
		first := slices.IndexFunc(seq(len(items)), func(i int) bool {
			far := labels[items[i].Label] - at[i]
			return items[i].Kind == impl.ItBranch && long[i] == 0 && (far < -4096 || far > 4094)
		})
		if first < 0 {
			return long
		}
		long[first] = 1
	}
}

// seq gives the numbers below n.
func seq(n int) []int {
	var list []int
	for i := range n {
		list = append(list, i)
	}
	return list
}

// wantInsts gives the instructions of items of which these are long.
func wantInsts(items []impl.Item, long map[int]int) []impl.Inst {
	at, labels := layout(items, long)
	var list []impl.Inst
	for i, x := range items {
		far := labels[x.Label] - at[i]
		switch {
		case x.Kind == impl.ItInst:
			list = append(list, x.Inst)
		case x.Kind == impl.ItJump:
			list = append(list, impl.Inst{Op: impl.RvJal, Imm: far})
		case x.Kind == impl.ItCall:
			list = append(list, impl.Inst{Op: impl.RvJal, Rd: 1, Imm: far})
		case x.Kind == impl.ItBranch && long[i] == 0:
			near := x.Inst
			near.Imm = far
			list = append(list, near)
		case x.Kind == impl.ItBranch:
			over := x.Inst
			over.Op, over.Imm = opposites[over.Op], 8
			list = append(list, over, impl.Inst{Op: impl.RvJal, Imm: far - 4})
		}
	}
	return list
}

// holdInsts checks promise 9: each word is known, and is this instruction.
func holdInsts(t *testing.T, what string, words []uint32, want []impl.Inst) {
	t.Helper()
	if len(words) != len(want) {
		t.Fatalf("%.600s: %d words, want %d", what, len(words), len(want))
	}
	for i, w := range words {
		if got := impl.Decode(w); !got.Ok || got.Inst != want[i] {
			t.Fatalf("%.600s: word %d of %d: %+v, want %+v", what, i, len(words), got, want[i])
		}
	}
}

// assembles checks the words of items, and gives how many are long.
func assembles(t *testing.T, what string, items []impl.Item) int {
	t.Helper()
	long := wantLong(items)
	holdInsts(t, what, impl.Assemble(items), wantInsts(items, long))
	return len(long)
}
