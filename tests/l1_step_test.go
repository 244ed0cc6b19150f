package tests

import (
	"math/big"
	"testing"

	"loop.example/s01725/impl"
)

// aluWant is what the document says of an op on two words, by numbers without bounds.
func aluWant(op int64, a, b uint32) uint32 {
	sa, sb := big.NewInt(int64(int32(a))), big.NewInt(int64(int32(b)))
	two := big.NewInt(1 << (b & 31))
	r := new(big.Int)
	switch op {
	case impl.RvAdd, impl.RvAddi:
		r.Add(sa, sb)
	case impl.RvSub:
		r.Sub(sa, sb)
	case impl.RvMul:
		r.Mul(sa, sb)
	case impl.RvSll, impl.RvSlli:
		r.Mul(sa, two)
	case impl.RvSrl, impl.RvSrli:
		r.Div(big.NewInt(int64(a)), two)
	case impl.RvSra, impl.RvSrai:
		r.Div(sa, two) // Euclid's: downward, as two is above 0
	case impl.RvSlt, impl.RvSlti:
		r.SetInt64(int64(max(0, sb.Cmp(sa))))
	case impl.RvSltu, impl.RvSltiu:
		r.SetInt64(int64(max(0, big.NewInt(int64(b)).Cmp(big.NewInt(int64(a))))))
	case impl.RvXor, impl.RvXori:
		r.Xor(sa, sb)
	case impl.RvOr, impl.RvOri:
		r.Or(sa, sb)
	case impl.RvAnd, impl.RvAndi:
		r.And(sa, sb)
	case impl.RvDiv:
		r.SetInt64(-1)
		if b != 0 {
			r.Quo(sa, sb)
		}
	case impl.RvRem:
		r.Set(sa)
		if b != 0 {
			r.Rem(sa, sb)
		}
	}
	return uint32(r.And(r, big.NewInt(0xffffffff)).Uint64())
}

func nextPc(c *impl.Cpu) { c.Pc += 4 }

func TestRegisterOps(t *testing.T) {
	for op := int64(impl.RvAdd); op <= impl.RvRem; op++ {
		for _, a := range edgeWords {
			for _, b := range edgeWords {
				stepOne(t, impl.Inst{Op: op, Rd: 7, Rs1: 5, Rs2: 31},
					func(c *impl.Cpu) { c.Regs[5], c.Regs[31], c.Regs[7] = a, b, 77 },
					func(c *impl.Cpu) { nextPc(c); c.Regs[7] = aluWant(op, a, b) })
			}
		}
	}
}

func TestImmOps(t *testing.T) {
	for op := int64(impl.RvAddi); op <= impl.RvSrai; op++ {
		imms := []int64{-2048, -2047, -1, 0, 1, 31, 1365, 2047}
		if op >= impl.RvSlli {
			imms = []int64{0, 1, 2, 15, 16, 30, 31}
		}
		for _, a := range edgeWords {
			for _, imm := range imms {
				stepOne(t, impl.Inst{Op: op, Rd: 31, Rs1: 5, Imm: imm},
					func(c *impl.Cpu) { c.Regs[5], c.Regs[31] = a, 77 },
					func(c *impl.Cpu) { nextPc(c); c.Regs[31] = aluWant(op, a, uint32(imm)) })
			}
		}
	}
}

func TestDivisionAndShiftsAtTheirEdges(t *testing.T) {
	rows := []struct {
		op         int64
		a, b, want uint32
	}{
		{impl.RvDiv, 7, 0, 0xffffffff}, {impl.RvRem, 7, 0, 7}, {impl.RvDiv, 0, 0, 0xffffffff}, {impl.RvRem, 0, 0, 0},
		{impl.RvDiv, 0x80000000, 0, 0xffffffff}, {impl.RvRem, 0x80000000, 0, 0x80000000},
		{impl.RvDiv, 0x80000000, 0xffffffff, 0x80000000}, {impl.RvRem, 0x80000000, 0xffffffff, 0},
		{impl.RvDiv, 0xfffffff9, 2, 0xfffffffd}, {impl.RvRem, 0xfffffff9, 2, 0xffffffff},
		{impl.RvDiv, 7, 0xfffffffe, 0xfffffffd}, {impl.RvRem, 7, 0xfffffffe, 1},
		{impl.RvSll, 1, 31, 0x80000000}, {impl.RvSll, 1, 32, 1}, {impl.RvSll, 1, 33, 2}, {impl.RvSll, 3, 0xffffffff, 0x80000000},
		{impl.RvSrl, 0x80000000, 31, 1}, {impl.RvSrl, 0x80000000, 32, 0x80000000}, {impl.RvSrl, 0x80000000, 0xffffffe1, 0x40000000},
		{impl.RvSra, 0x80000000, 31, 0xffffffff}, {impl.RvSra, 0x80000000, 64, 0x80000000}, {impl.RvSra, 0x80000000, 0xffffffe1, 0xc0000000},
		{impl.RvMul, 65536, 65536, 0}, {impl.RvMul, 0xffffffff, 0xffffffff, 1}, {impl.RvMul, 0x80000000, 3, 0x80000000},
		{impl.RvSlt, 0xffffffff, 0, 1}, {impl.RvSltu, 0xffffffff, 0, 0}, {impl.RvSltu, 0, 0xffffffff, 1},
	}
	for _, r := range rows {
		stepOne(t, impl.Inst{Op: r.op, Rd: 1, Rs1: 3, Rs2: 4},
			func(c *impl.Cpu) { c.Regs[3], c.Regs[4] = r.a, r.b },
			func(c *impl.Cpu) { nextPc(c); c.Regs[1] = r.want })
	}
}

func TestUnsignedLessThanANegativeImm(t *testing.T) {
	for a, want := range map[uint32]uint32{0: 1, 5: 1, 0xfffffffe: 1, 0xffffffff: 0} {
		stepOne(t, impl.Inst{Op: impl.RvSltiu, Rd: 1, Rs1: 3, Imm: -1},
			func(c *impl.Cpu) { c.Regs[3] = a },
			func(c *impl.Cpu) { nextPc(c); c.Regs[1] = want })
	}
}

func TestOneRegisterForAll(t *testing.T) {
	for op := int64(impl.RvAdd); op <= impl.RvRem; op++ {
		for _, a := range edgeWords {
			stepOne(t, impl.Inst{Op: op, Rd: 9, Rs1: 9, Rs2: 9},
				func(c *impl.Cpu) { c.Regs[9] = a },
				func(c *impl.Cpu) { nextPc(c); c.Regs[9] = aluWant(op, a, a) })
		}
	}
}

func TestLui(t *testing.T) {
	for imm, want := range map[int64]uint32{0: 0, 1: 4096, 256: 1048576, 0x80000: 0x80000000, 1048575: 0xfffff000} {
		stepOne(t, impl.Inst{Op: impl.RvLui, Rd: 31, Imm: imm},
			func(c *impl.Cpu) { c.Regs[31] = 0xfff },
			func(c *impl.Cpu) { nextPc(c); c.Regs[31] = want })
	}
}

func TestJal(t *testing.T) {
	for _, imm := range []int64{-1048576, -4098, -4096, -4, -2, 0, 2, 4, 8, 1048574} {
		stepOne(t, impl.Inst{Op: impl.RvJal, Rd: 1, Imm: imm},
			func(c *impl.Cpu) {},
			func(c *impl.Cpu) { c.Pc = uint32(4096 + imm); c.Regs[1] = 4100 })
	}
}

func TestJalr(t *testing.T) {
	rows := []struct {
		a    uint32
		imm  int64
		want uint32
	}{
		{4096, 0, 4096}, {4096, 1, 4096}, {4097, 0, 4096}, {4097, 1, 4098}, {4096, -1, 4094}, {4096, 2047, 6142}, {4096, -2048, 2048},
		{0, -1, 0xfffffffe}, {0xffffffff, 2, 0}, {0xfffffffe, 1, 0xfffffffe}, {0x80000000, 4, 0x80000004},
	}
	for _, r := range rows {
		for _, rd := range []int64{1, 6, 5} {
			stepOne(t, impl.Inst{Op: impl.RvJalr, Rd: rd, Rs1: 5, Imm: r.imm},
				func(c *impl.Cpu) { c.Regs[5] = r.a },
				func(c *impl.Cpu) { c.Pc = r.want; c.Regs[rd] = 4100 })
		}
	}
}

func takenWant(op int64, a, b uint32) bool {
	signed := int64(int32(a)) < int64(int32(b))
	unsigned := int64(a) < int64(b)
	return map[int64]bool{
		impl.RvBeq: a == b, impl.RvBne: a != b, impl.RvBlt: signed, impl.RvBge: !signed, impl.RvBltu: unsigned, impl.RvBgeu: !unsigned,
	}[op]
}

func TestBranches(t *testing.T) {
	for op := int64(impl.RvBeq); op <= impl.RvBgeu; op++ {
		for i, a := range edgeWords {
			for j, b := range edgeWords {
				imm := []int64{-4096, -2, 0, 2, 8, 4094}[(i+j)%6]
				stepOne(t, impl.Inst{Op: op, Rs1: 31, Rs2: 1, Imm: imm},
					func(c *impl.Cpu) { c.Regs[31], c.Regs[1] = a, b },
					func(c *impl.Cpu) {
						nextPc(c)
						if takenWant(op, a, b) {
							c.Pc = uint32(4096 + imm)
						}
					})
			}
		}
	}
}

func TestWritesToX0AreLost(t *testing.T) {
	set := func(c *impl.Cpu) { c.Regs[5], c.Regs[6] = impl.DataBase, 3; c.Data[0] = 9 }
	for _, r := range opRules() {
		if !r.rd || r.op == impl.RvJal || r.op == impl.RvJalr {
			continue
		}
		x := impl.Inst{Op: r.op, Imm: min(4, r.high)}
		if r.r1 {
			x.Rs1 = 5
		}
		if r.r2 {
			x.Rs2 = 6
		}
		stepOne(t, x, set, nextPc)
	}
	stepOne(t, impl.Inst{Op: impl.RvJal, Imm: 8}, set, func(c *impl.Cpu) { c.Pc = 4104 })
	stepOne(t, impl.Inst{Op: impl.RvJalr, Rs1: 6, Imm: 9}, set, func(c *impl.Cpu) { c.Pc = 12 })
	stepOne(t, impl.Inst{Op: impl.RvLw, Imm: 4}, set, faulted)
}

func TestPcThatIsNoWordOfCode(t *testing.T) {
	add := impl.Inst{Op: impl.RvAddi, Rd: 1, Imm: 1}
	m := image(8, 16, add, add, add)
	for _, pc := range []uint32{0, 1, 4, 4092, 4094, 4095, 4097, 4098, 4099, 4101, 4106, 4108, 4112, 8192, impl.DataBase, impl.StackTop - 16, 0x80001000, 0xfffff000, 0xfffffffc} {
		stepFrom(t, m, func(c *impl.Cpu) { c.Pc = pc }, faulted)
	}
	for _, pc := range []uint32{4096, 4100, 4104} {
		stepFrom(t, m, func(c *impl.Cpu) { c.Pc = pc }, func(c *impl.Cpu) { nextPc(c); c.Regs[1] = 1 })
	}
	full := impl.Image{Code: make([]uint32, 20000)}
	full.Code[19999] = impl.Encode(add)
	stepFrom(t, full, func(c *impl.Cpu) { c.Pc = 4096 + 79996 }, func(c *impl.Cpu) { nextPc(c); c.Regs[1] = 1 })
	stepFrom(t, full, func(c *impl.Cpu) { c.Pc = 4096 + 80000 }, faulted)
}

func TestWordsThatAreNoInstruction(t *testing.T) {
	for _, w := range []uint32{0, 0xffffffff, 7, 0x13 | 1<<12 | 1<<25, 0x00100073, 0x000000f3, 0x02001033, 0x00000003, 0x00000023, 0x00002063} {
		stepFrom(t, impl.Image{Code: []uint32{w}, Data: 8, Bound: 16}, func(c *impl.Cpu) { c.Regs[2] -= 16 }, faulted)
	}
}

// A jump to where no word stands is done; the step behind it is the fault.
func TestJumpOutOfTheCode(t *testing.T) {
	m := image(0, 0, impl.Inst{Op: impl.RvJal, Rd: 1, Imm: 2}, impl.Inst{Op: impl.RvAddi, Rd: 1, Imm: 9})
	c := impl.StepCpu(m, impl.Boot(m, nil))
	if c.Status != impl.Running || c.Pc != 4098 || c.Regs[1] != 4100 {
		t.Errorf("the jump: %+v", c)
	}
	d := impl.StepCpu(m, c)
	faulted(&c)
	if !sameCpu(c, d) {
		t.Errorf("behind it: %+v", d)
	}
}

func TestLow(t *testing.T) {
	down := impl.Inst{Op: impl.RvAddi, Rd: 2, Rs1: 2, Imm: -16}
	stepOne(t, down, func(c *impl.Cpu) {}, func(c *impl.Cpu) { nextPc(c); c.Regs[2] -= 16; c.Low -= 16 })
	stepOne(t, down, func(c *impl.Cpu) { c.Low -= 16 }, func(c *impl.Cpu) { nextPc(c); c.Regs[2] -= 16 })
	stepOne(t, down, func(c *impl.Cpu) { c.Low -= 32 }, func(c *impl.Cpu) { nextPc(c); c.Regs[2] -= 16 })
	up := impl.Inst{Op: impl.RvAddi, Rd: 2, Rs1: 2, Imm: 16}
	stepOne(t, up, func(c *impl.Cpu) {}, func(c *impl.Cpu) { nextPc(c); c.Regs[2] += 16 })
	zero := impl.Inst{Op: impl.RvLui, Rd: 2}
	stepOne(t, zero, func(c *impl.Cpu) {}, func(c *impl.Cpu) { nextPc(c); c.Regs[2] = 0; c.Low = 0 })
	high := impl.Inst{Op: impl.RvLui, Rd: 2, Imm: 0xfffff}
	stepOne(t, high, func(c *impl.Cpu) {}, func(c *impl.Cpu) { nextPc(c); c.Regs[2] = 0xfffff000 })
	below := func(n uint32) func(c *impl.Cpu) { return func(c *impl.Cpu) { c.Regs[2] -= 4; c.Regs[17] = n } }
	call := impl.Inst{Op: impl.RvEcall}
	stepOne(t, call, below(10), func(c *impl.Cpu) { c.Status = impl.Halted; c.Low -= 4 })
	stepOne(t, call, below(2), func(c *impl.Cpu) { nextPc(c); c.Low -= 4 })
	stepOne(t, call, below(3), faulted)
	stepOne(t, impl.Inst{Op: impl.RvLw, Rd: 1}, below(0), faulted)
}
