package tests

import (
	"testing"

	"loop.example/s01725/impl"
)

// wordRows are words as a RISC-V assembler gives them.
var wordRows = []struct {
	x impl.Inst
	w uint32
}{
	{impl.Inst{Op: impl.RvLui}, 0x00000037},
	{impl.Inst{Op: impl.RvLui, Rd: 31, Imm: 1048575}, 0xffffffb7},
	{impl.Inst{Op: impl.RvLui, Rd: 5, Imm: 74565}, 0x123452b7},
	{impl.Inst{Op: impl.RvLui, Rd: 10, Imm: 524288}, 0x80000537},
	{impl.Inst{Op: impl.RvJal, Imm: -1048576}, 0x8000006f},
	{impl.Inst{Op: impl.RvJal, Rd: 31, Imm: 1048574}, 0x7fffffef},
	{impl.Inst{Op: impl.RvJal, Rd: 1, Imm: 2}, 0x002000ef},
	{impl.Inst{Op: impl.RvJal, Rd: 1, Imm: -2}, 0xfffff0ef},
	{impl.Inst{Op: impl.RvJal, Rd: 5, Imm: 2048}, 0x001002ef},
	{impl.Inst{Op: impl.RvJal, Rd: 7, Imm: 701646}, 0x4ceab3ef},
	{impl.Inst{Op: impl.RvJal, Imm: 1024}, 0x4000006f},
	{impl.Inst{Op: impl.RvJal, Imm: 4096}, 0x0000106f},
	{impl.Inst{Op: impl.RvJal, Imm: -4}, 0xffdff06f},
	{impl.Inst{Op: impl.RvJalr, Rs1: 31, Imm: -2048}, 0x800f8067},
	{impl.Inst{Op: impl.RvJalr, Rd: 31, Imm: 2047}, 0x7ff00fe7},
	{impl.Inst{Op: impl.RvJalr, Rd: 1, Rs1: 5, Imm: 1}, 0x001280e7},
	{impl.Inst{Op: impl.RvJalr, Rd: 9, Rs1: 18, Imm: -1}, 0xfff904e7},
	{impl.Inst{Op: impl.RvBeq, Rs2: 31, Imm: -4096}, 0x81f00063},
	{impl.Inst{Op: impl.RvBeq, Rs1: 31, Imm: 4094}, 0x7e0f8fe3},
	{impl.Inst{Op: impl.RvBeq, Rs1: 1, Rs2: 2, Imm: 2}, 0x00208163},
	{impl.Inst{Op: impl.RvBeq, Rs1: 17, Rs2: 10, Imm: -2}, 0xfea88fe3},
	{impl.Inst{Op: impl.RvBeq, Rs1: 3, Rs2: 4, Imm: 2048}, 0x004180e3},
	{impl.Inst{Op: impl.RvBeq, Rs1: 5, Rs2: 6, Imm: 1030}, 0x40628363},
	{impl.Inst{Op: impl.RvBeq, Rs1: 5, Rs2: 6, Imm: 32}, 0x02628063},
	{impl.Inst{Op: impl.RvBne, Rs2: 31, Imm: -4096}, 0x81f01063},
	{impl.Inst{Op: impl.RvBne, Rs1: 31, Imm: 4094}, 0x7e0f9fe3},
	{impl.Inst{Op: impl.RvBne, Rs1: 1, Rs2: 2, Imm: 2}, 0x00209163},
	{impl.Inst{Op: impl.RvBne, Rs1: 17, Rs2: 10, Imm: -2}, 0xfea89fe3},
	{impl.Inst{Op: impl.RvBne, Rs1: 3, Rs2: 4, Imm: 2048}, 0x004190e3},
	{impl.Inst{Op: impl.RvBne, Rs1: 5, Rs2: 6, Imm: 1030}, 0x40629363},
	{impl.Inst{Op: impl.RvBne, Rs1: 5, Rs2: 6, Imm: 32}, 0x02629063},
	{impl.Inst{Op: impl.RvBlt, Rs2: 31, Imm: -4096}, 0x81f04063},
	{impl.Inst{Op: impl.RvBlt, Rs1: 31, Imm: 4094}, 0x7e0fcfe3},
	{impl.Inst{Op: impl.RvBlt, Rs1: 1, Rs2: 2, Imm: 2}, 0x0020c163},
	{impl.Inst{Op: impl.RvBlt, Rs1: 17, Rs2: 10, Imm: -2}, 0xfea8cfe3},
	{impl.Inst{Op: impl.RvBlt, Rs1: 3, Rs2: 4, Imm: 2048}, 0x0041c0e3},
	{impl.Inst{Op: impl.RvBlt, Rs1: 5, Rs2: 6, Imm: 1030}, 0x4062c363},
	{impl.Inst{Op: impl.RvBlt, Rs1: 5, Rs2: 6, Imm: 32}, 0x0262c063},
	{impl.Inst{Op: impl.RvBge, Rs2: 31, Imm: -4096}, 0x81f05063},
	{impl.Inst{Op: impl.RvBge, Rs1: 31, Imm: 4094}, 0x7e0fdfe3},
	{impl.Inst{Op: impl.RvBge, Rs1: 1, Rs2: 2, Imm: 2}, 0x0020d163},
	{impl.Inst{Op: impl.RvBge, Rs1: 17, Rs2: 10, Imm: -2}, 0xfea8dfe3},
	{impl.Inst{Op: impl.RvBge, Rs1: 3, Rs2: 4, Imm: 2048}, 0x0041d0e3},
	{impl.Inst{Op: impl.RvBge, Rs1: 5, Rs2: 6, Imm: 1030}, 0x4062d363},
	{impl.Inst{Op: impl.RvBge, Rs1: 5, Rs2: 6, Imm: 32}, 0x0262d063},
	{impl.Inst{Op: impl.RvBltu, Rs2: 31, Imm: -4096}, 0x81f06063},
	{impl.Inst{Op: impl.RvBltu, Rs1: 31, Imm: 4094}, 0x7e0fefe3},
	{impl.Inst{Op: impl.RvBltu, Rs1: 1, Rs2: 2, Imm: 2}, 0x0020e163},
	{impl.Inst{Op: impl.RvBltu, Rs1: 17, Rs2: 10, Imm: -2}, 0xfea8efe3},
	{impl.Inst{Op: impl.RvBltu, Rs1: 3, Rs2: 4, Imm: 2048}, 0x0041e0e3},
	{impl.Inst{Op: impl.RvBltu, Rs1: 5, Rs2: 6, Imm: 1030}, 0x4062e363},
	{impl.Inst{Op: impl.RvBltu, Rs1: 5, Rs2: 6, Imm: 32}, 0x0262e063},
	{impl.Inst{Op: impl.RvBgeu, Rs2: 31, Imm: -4096}, 0x81f07063},
	{impl.Inst{Op: impl.RvBgeu, Rs1: 31, Imm: 4094}, 0x7e0fffe3},
	{impl.Inst{Op: impl.RvBgeu, Rs1: 1, Rs2: 2, Imm: 2}, 0x0020f163},
	{impl.Inst{Op: impl.RvBgeu, Rs1: 17, Rs2: 10, Imm: -2}, 0xfea8ffe3},
	{impl.Inst{Op: impl.RvBgeu, Rs1: 3, Rs2: 4, Imm: 2048}, 0x0041f0e3},
	{impl.Inst{Op: impl.RvBgeu, Rs1: 5, Rs2: 6, Imm: 1030}, 0x4062f363},
	{impl.Inst{Op: impl.RvBgeu, Rs1: 5, Rs2: 6, Imm: 32}, 0x0262f063},
	{impl.Inst{Op: impl.RvLw, Rs1: 31, Imm: -2048}, 0x800fa003},
	{impl.Inst{Op: impl.RvLw, Rd: 31, Imm: 2047}, 0x7ff02f83},
	{impl.Inst{Op: impl.RvLw, Rd: 1, Rs1: 5, Imm: 1}, 0x0012a083},
	{impl.Inst{Op: impl.RvLw, Rd: 9, Rs1: 18, Imm: -1}, 0xfff92483},
	{impl.Inst{Op: impl.RvSw, Rs2: 31, Imm: -2048}, 0x81f02023},
	{impl.Inst{Op: impl.RvSw, Rs1: 31, Imm: 2047}, 0x7e0fafa3},
	{impl.Inst{Op: impl.RvSw, Rs1: 2, Rs2: 1, Imm: -1}, 0xfe112fa3},
	{impl.Inst{Op: impl.RvSw, Rs1: 2, Rs2: 5, Imm: 32}, 0x02512023},
	{impl.Inst{Op: impl.RvSw, Rs1: 8, Rs2: 9, Imm: 31}, 0x00942fa3},
	{impl.Inst{Op: impl.RvAddi, Rs1: 31, Imm: -2048}, 0x800f8013},
	{impl.Inst{Op: impl.RvAddi, Rd: 31, Imm: 2047}, 0x7ff00f93},
	{impl.Inst{Op: impl.RvAddi, Rd: 7, Rs1: 9, Imm: -1}, 0xfff48393},
	{impl.Inst{Op: impl.RvSlti, Rs1: 31, Imm: -2048}, 0x800fa013},
	{impl.Inst{Op: impl.RvSlti, Rd: 31, Imm: 2047}, 0x7ff02f93},
	{impl.Inst{Op: impl.RvSlti, Rd: 7, Rs1: 9, Imm: -1}, 0xfff4a393},
	{impl.Inst{Op: impl.RvSltiu, Rs1: 31, Imm: -2048}, 0x800fb013},
	{impl.Inst{Op: impl.RvSltiu, Rd: 31, Imm: 2047}, 0x7ff03f93},
	{impl.Inst{Op: impl.RvSltiu, Rd: 7, Rs1: 9, Imm: -1}, 0xfff4b393},
	{impl.Inst{Op: impl.RvXori, Rs1: 31, Imm: -2048}, 0x800fc013},
	{impl.Inst{Op: impl.RvXori, Rd: 31, Imm: 2047}, 0x7ff04f93},
	{impl.Inst{Op: impl.RvXori, Rd: 7, Rs1: 9, Imm: -1}, 0xfff4c393},
	{impl.Inst{Op: impl.RvOri, Rs1: 31, Imm: -2048}, 0x800fe013},
	{impl.Inst{Op: impl.RvOri, Rd: 31, Imm: 2047}, 0x7ff06f93},
	{impl.Inst{Op: impl.RvOri, Rd: 7, Rs1: 9, Imm: -1}, 0xfff4e393},
	{impl.Inst{Op: impl.RvAndi, Rs1: 31, Imm: -2048}, 0x800ff013},
	{impl.Inst{Op: impl.RvAndi, Rd: 31, Imm: 2047}, 0x7ff07f93},
	{impl.Inst{Op: impl.RvAndi, Rd: 7, Rs1: 9, Imm: -1}, 0xfff4f393},
	{impl.Inst{Op: impl.RvSlli, Rs1: 31}, 0x000f9013},
	{impl.Inst{Op: impl.RvSlli, Rd: 31, Imm: 31}, 0x01f01f93},
	{impl.Inst{Op: impl.RvSlli, Rd: 7, Rs1: 9, Imm: 16}, 0x01049393},
	{impl.Inst{Op: impl.RvSrli, Rs1: 31}, 0x000fd013},
	{impl.Inst{Op: impl.RvSrli, Rd: 31, Imm: 31}, 0x01f05f93},
	{impl.Inst{Op: impl.RvSrli, Rd: 7, Rs1: 9, Imm: 16}, 0x0104d393},
	{impl.Inst{Op: impl.RvSrai, Rs1: 31}, 0x400fd013},
	{impl.Inst{Op: impl.RvSrai, Rd: 31, Imm: 31}, 0x41f05f93},
	{impl.Inst{Op: impl.RvSrai, Rd: 7, Rs1: 9, Imm: 16}, 0x4104d393},
	{impl.Inst{Op: impl.RvAdd, Rs1: 31}, 0x000f8033},
	{impl.Inst{Op: impl.RvAdd, Rd: 31, Rs2: 31}, 0x01f00fb3},
	{impl.Inst{Op: impl.RvAdd, Rd: 5, Rs1: 6, Rs2: 7}, 0x007302b3},
	{impl.Inst{Op: impl.RvSub, Rs1: 31}, 0x400f8033},
	{impl.Inst{Op: impl.RvSub, Rd: 31, Rs2: 31}, 0x41f00fb3},
	{impl.Inst{Op: impl.RvSub, Rd: 5, Rs1: 6, Rs2: 7}, 0x407302b3},
	{impl.Inst{Op: impl.RvSll, Rs1: 31}, 0x000f9033},
	{impl.Inst{Op: impl.RvSll, Rd: 31, Rs2: 31}, 0x01f01fb3},
	{impl.Inst{Op: impl.RvSll, Rd: 5, Rs1: 6, Rs2: 7}, 0x007312b3},
	{impl.Inst{Op: impl.RvSlt, Rs1: 31}, 0x000fa033},
	{impl.Inst{Op: impl.RvSlt, Rd: 31, Rs2: 31}, 0x01f02fb3},
	{impl.Inst{Op: impl.RvSlt, Rd: 5, Rs1: 6, Rs2: 7}, 0x007322b3},
	{impl.Inst{Op: impl.RvSltu, Rs1: 31}, 0x000fb033},
	{impl.Inst{Op: impl.RvSltu, Rd: 31, Rs2: 31}, 0x01f03fb3},
	{impl.Inst{Op: impl.RvSltu, Rd: 5, Rs1: 6, Rs2: 7}, 0x007332b3},
	{impl.Inst{Op: impl.RvXor, Rs1: 31}, 0x000fc033},
	{impl.Inst{Op: impl.RvXor, Rd: 31, Rs2: 31}, 0x01f04fb3},
	{impl.Inst{Op: impl.RvXor, Rd: 5, Rs1: 6, Rs2: 7}, 0x007342b3},
	{impl.Inst{Op: impl.RvSrl, Rs1: 31}, 0x000fd033},
	{impl.Inst{Op: impl.RvSrl, Rd: 31, Rs2: 31}, 0x01f05fb3},
	{impl.Inst{Op: impl.RvSrl, Rd: 5, Rs1: 6, Rs2: 7}, 0x007352b3},
	{impl.Inst{Op: impl.RvSra, Rs1: 31}, 0x400fd033},
	{impl.Inst{Op: impl.RvSra, Rd: 31, Rs2: 31}, 0x41f05fb3},
	{impl.Inst{Op: impl.RvSra, Rd: 5, Rs1: 6, Rs2: 7}, 0x407352b3},
	{impl.Inst{Op: impl.RvOr, Rs1: 31}, 0x000fe033},
	{impl.Inst{Op: impl.RvOr, Rd: 31, Rs2: 31}, 0x01f06fb3},
	{impl.Inst{Op: impl.RvOr, Rd: 5, Rs1: 6, Rs2: 7}, 0x007362b3},
	{impl.Inst{Op: impl.RvAnd, Rs1: 31}, 0x000ff033},
	{impl.Inst{Op: impl.RvAnd, Rd: 31, Rs2: 31}, 0x01f07fb3},
	{impl.Inst{Op: impl.RvAnd, Rd: 5, Rs1: 6, Rs2: 7}, 0x007372b3},
	{impl.Inst{Op: impl.RvMul, Rs1: 31}, 0x020f8033},
	{impl.Inst{Op: impl.RvMul, Rd: 31, Rs2: 31}, 0x03f00fb3},
	{impl.Inst{Op: impl.RvMul, Rd: 5, Rs1: 6, Rs2: 7}, 0x027302b3},
	{impl.Inst{Op: impl.RvDiv, Rs1: 31}, 0x020fc033},
	{impl.Inst{Op: impl.RvDiv, Rd: 31, Rs2: 31}, 0x03f04fb3},
	{impl.Inst{Op: impl.RvDiv, Rd: 5, Rs1: 6, Rs2: 7}, 0x027342b3},
	{impl.Inst{Op: impl.RvRem, Rs1: 31}, 0x020fe033},
	{impl.Inst{Op: impl.RvRem, Rd: 31, Rs2: 31}, 0x03f06fb3},
	{impl.Inst{Op: impl.RvRem, Rd: 5, Rs1: 6, Rs2: 7}, 0x027362b3},
	{impl.Inst{Op: impl.RvEcall}, 0x00000073},
}

// opRule says what the document's table says of an op. Known words have the bits of
// match where mask has ones.
type opRule struct {
	op          int64
	rd, r1, r2  bool
	low, high   int64
	step        int64
	mask, match uint32
}

func iRule(op int64, funct3 uint32, opcode uint32) opRule {
	return opRule{op, true, true, false, -2048, 2047, 1, 0x0000707f, funct3<<12 | opcode}
}

func branchRule(op int64, funct3 uint32) opRule {
	return opRule{op, false, true, true, -4096, 4094, 2, 0x0000707f, funct3<<12 | 0x63}
}

func shiftRule(op int64, match uint32) opRule {
	return opRule{op, true, true, false, 0, 31, 1, 0xfe00707f, match}
}

func rRule(op int64, match uint32) opRule {
	return opRule{op, true, true, true, 0, 0, 1, 0xfe00707f, match}
}

func opRules() []opRule {
	return []opRule{
		{impl.RvLui, true, false, false, 0, 1048575, 1, 0x7f, 0x37},
		{impl.RvJal, true, false, false, -1048576, 1048574, 2, 0x7f, 0x6f},
		iRule(impl.RvJalr, 0, 0x67),
		branchRule(impl.RvBeq, 0), branchRule(impl.RvBne, 1), branchRule(impl.RvBlt, 4),
		branchRule(impl.RvBge, 5), branchRule(impl.RvBltu, 6), branchRule(impl.RvBgeu, 7),
		iRule(impl.RvLw, 2, 0x03),
		{impl.RvSw, false, true, true, -2048, 2047, 1, 0x707f, 0x2023},
		iRule(impl.RvAddi, 0, 0x13), iRule(impl.RvSlti, 2, 0x13), iRule(impl.RvSltiu, 3, 0x13),
		iRule(impl.RvXori, 4, 0x13), iRule(impl.RvOri, 6, 0x13), iRule(impl.RvAndi, 7, 0x13),
		shiftRule(impl.RvSlli, 0x1013), shiftRule(impl.RvSrli, 0x5013), shiftRule(impl.RvSrai, 0x40005013),
		rRule(impl.RvAdd, 0x33), rRule(impl.RvSub, 0x40000033), rRule(impl.RvSll, 0x1033),
		rRule(impl.RvSlt, 0x2033), rRule(impl.RvSltu, 0x3033), rRule(impl.RvXor, 0x4033),
		rRule(impl.RvSrl, 0x5033), rRule(impl.RvSra, 0x40005033), rRule(impl.RvOr, 0x6033),
		rRule(impl.RvAnd, 0x7033), rRule(impl.RvMul, 0x02000033), rRule(impl.RvDiv, 0x02004033),
		rRule(impl.RvRem, 0x02006033),
		{impl.RvEcall, false, false, false, 0, 0, 1, 0xffffffff, 0x73},
	}
}

func usedRegs(used bool) []int64 {
	if used {
		return []int64{0, 1, 2, 15, 16, 30, 31}
	}
	return []int64{0}
}

// wantBack checks that x is valid and comes back from its word (P1).
func wantBack(t *testing.T, x impl.Inst) {
	t.Helper()
	w := impl.Encode(x)
	if back := impl.Decode(w); !impl.ValidInst(x) || w == 0 || !back.Ok || back.Inst != x {
		t.Fatalf("%+v: valid %v, word %08x, back %+v", x, impl.ValidInst(x), w, back)
	}
}

func wantBad(t *testing.T, x impl.Inst) {
	t.Helper()
	if impl.ValidInst(x) || impl.Encode(x) != 0 {
		t.Errorf("%+v is valid, word %08x", x, impl.Encode(x))
	}
}

func TestWordsOfAnAssembler(t *testing.T) {
	for _, r := range wordRows {
		if got := impl.Encode(r.x); got != r.w {
			t.Errorf("%+v: word %08x, want %08x", r.x, got, r.w)
		}
		if got := impl.Decode(r.w); !got.Ok || got.Inst != r.x {
			t.Errorf("%08x: %+v, want %+v", r.w, got, r.x)
		}
	}
}

func TestEveryOpHasARow(t *testing.T) {
	seen := [impl.RvEcall + 1]int{}
	for _, r := range wordRows {
		seen[r.x.Op]++
	}
	for i, r := range opRules() {
		if r.op != int64(i+1) || seen[r.op] == 0 {
			t.Errorf("op %d: %d rows", r.op, seen[r.op])
		}
	}
}

func TestInstructionsComeBack(t *testing.T) {
	for _, r := range opRules() {
		mid := (r.low + r.high) / 4 * 2
		for _, rd := range usedRegs(r.rd) {
			for _, r1 := range usedRegs(r.r1) {
				for _, r2 := range usedRegs(r.r2) {
					for _, imm := range []int64{r.low, mid, r.high} {
						wantBack(t, impl.Inst{Op: r.op, Rd: rd, Rs1: r1, Rs2: r2, Imm: imm})
					}
				}
			}
		}
	}
}

func TestEveryImmComesBack(t *testing.T) {
	for _, r := range opRules() {
		x := impl.Inst{Op: r.op}
		if r.rd {
			x.Rd = 21
		}
		if r.r1 {
			x.Rs1 = 10
		}
		if r.r2 {
			x.Rs2 = 21
		}
		for x.Imm = r.low; x.Imm <= r.high; x.Imm += r.step {
			wantBack(t, x)
		}
	}
}

func TestEveryRegisterComesBack(t *testing.T) {
	for _, r := range opRules() {
		for i := int64(0); i < 32; i++ {
			x := impl.Inst{Op: r.op}
			if r.rd {
				x.Rd = i
			}
			if r.r1 {
				x.Rs1 = (i + 11) % 32
			}
			if r.r2 {
				x.Rs2 = (i + 23) % 32
			}
			wantBack(t, x)
		}
	}
}

func TestOpsThatAreNone(t *testing.T) {
	for _, op := range []int64{0, -1, 35, 36, 64, 1 << 32, 1<<32 + 12, -1 << 63, 1<<63 - 1} {
		wantBad(t, impl.Inst{Op: op})
		wantBad(t, impl.Inst{Op: op, Rd: 1, Rs1: 1, Imm: 4})
	}
}

func TestRegistersThatAreNone(t *testing.T) {
	for _, r := range opRules() {
		for _, bad := range []int64{-1, 32, 33, 63, 64, -32, 1 << 32, 1<<32 + 1, -1 << 63, 1<<63 - 1} {
			wantBad(t, impl.Inst{Op: r.op, Rd: bad})
			wantBad(t, impl.Inst{Op: r.op, Rs1: bad})
			wantBad(t, impl.Inst{Op: r.op, Rs2: bad})
		}
	}
}

func TestUnusedFieldsAreZero(t *testing.T) {
	for _, r := range opRules() {
		for _, v := range []int64{1, 2, 31} {
			if !r.rd {
				wantBad(t, impl.Inst{Op: r.op, Rd: v})
			}
			if !r.r1 {
				wantBad(t, impl.Inst{Op: r.op, Rs1: v})
			}
			if !r.r2 {
				wantBad(t, impl.Inst{Op: r.op, Rs2: v})
			}
		}
	}
}

func TestImmOutOfItsBounds(t *testing.T) {
	for _, r := range opRules() {
		out := []int64{
			r.low - 1, r.low - 2, r.low - 4, r.high + 1, r.high + 2, r.high + 4, 2*r.low - 2, 2*r.high + 2,
			r.low + 1<<32, r.high + 1<<32, r.low - 1<<32, r.high - 1<<32, 1 << 32, -1 << 63, 1<<63 - 2,
		}
		for _, imm := range out {
			wantBad(t, impl.Inst{Op: r.op, Imm: imm})
		}
		if r.step == 2 {
			for _, imm := range []int64{r.low + 1, -3, -1, 1, 3, r.high - 1} {
				wantBad(t, impl.Inst{Op: r.op, Imm: imm})
			}
		}
	}
}

// ruleOf gives the number of the op whose word w is, 0 if there is none.
func ruleOf(rules []opRule, w uint32) int64 {
	for _, r := range rules {
		if w&r.mask == r.match {
			return r.op
		}
	}
	return 0
}

// wantWord checks that w is known as the op that the table names, or not at all, and
// that a known one comes back (P1).
func wantWord(t *testing.T, rules []opRule, w uint32) {
	t.Helper()
	got := impl.Decode(w)
	op := ruleOf(rules, w)
	if op == 0 {
		if got != (impl.InstRes{}) {
			t.Fatalf("%08x is no instruction: %+v", w, got)
		}
		return
	}
	if !got.Ok || got.Inst.Op != op || !impl.ValidInst(got.Inst) || impl.Encode(got.Inst) != w {
		t.Fatalf("%08x is of op %d: %+v, back %08x", w, op, got, impl.Encode(got.Inst))
	}
}

func TestWordsOfEveryHead(t *testing.T) {
	rules := opRules()
	for opcode := uint32(0); opcode < 128; opcode++ {
		for funct3 := uint32(0); funct3 < 8; funct3++ {
			for funct7 := uint32(0); funct7 < 128; funct7++ {
				head := opcode | funct3<<12 | funct7<<25
				wantWord(t, rules, head)
				wantWord(t, rules, head|0x01ff8f80)
			}
		}
	}
}

func TestWordsAtRandom(t *testing.T) {
	rules := opRules()
	n := numbers{1}
	for i := 0; i < 200000; i++ {
		w := n.next()
		wantWord(t, rules, w)
		r := rules[n.below(int64(len(rules)))]
		wantWord(t, rules, w&^r.mask|r.match)
	}
}

func TestWordsNearEcall(t *testing.T) {
	rules := opRules()
	wantWord(t, rules, 0x73)
	for bit := 0; bit < 32; bit++ {
		wantWord(t, rules, 0x73^1<<bit)
		wantWord(t, rules, 1<<bit)
		wantWord(t, rules, ^uint32(0)^1<<bit)
	}
}
