package tests

import (
	"testing"

	"loop.example/s01725/impl"
)

var ecall = impl.Inst{Op: impl.RvEcall}

func TestTelling(t *testing.T) {
	for _, v := range edgeWords {
		stepOne(t, ecall,
			func(c *impl.Cpu) { c.Regs[17], c.Regs[10], c.Out = 1, v, []int64{4, minWord} },
			func(c *impl.Cpu) { nextPc(c); c.Out = append(c.Out, int64(int32(v))) })
	}
}

func TestTellingAtItsLimit(t *testing.T) {
	full := func(n int, call uint32) func(c *impl.Cpu) {
		return func(c *impl.Cpu) { c.Regs[17], c.Regs[10], c.Out = call, 6, make([]int64, n) }
	}
	stepOne(t, ecall, full(999999, 1), func(c *impl.Cpu) { nextPc(c); c.Out = append(c.Out, 6) })
	stepOne(t, ecall, full(1000000, 1), faulted)
	stepOne(t, ecall, full(1000000, 2), func(c *impl.Cpu) { nextPc(c); c.Regs[10] = 0 })
	stepOne(t, ecall, full(1000000, 10), func(c *impl.Cpu) { c.Status = impl.Halted })
	stepOne(t, ecall, full(1000001, 1), func(c *impl.Cpu) { *c = impl.Cpu{} })
}

func TestAsking(t *testing.T) {
	ask := func(in ...int64) func(c *impl.Cpu) {
		return func(c *impl.Cpu) { c.Regs[17], c.Regs[10], c.In = 2, 77, in }
	}
	stepOne(t, ecall, ask(), func(c *impl.Cpu) { nextPc(c); c.Regs[10] = 0 })
	stepOne(t, ecall, ask(-1), func(c *impl.Cpu) { nextPc(c); c.Regs[10] = 0xffffffff; c.In = nil })
	stepOne(t, ecall, ask(minWord, 5, 6), func(c *impl.Cpu) { nextPc(c); c.Regs[10] = 0x80000000; c.In = []int64{5, 6} })
	stepOne(t, ecall, ask(maxWord, 5), func(c *impl.Cpu) { nextPc(c); c.Regs[10] = 0x7fffffff; c.In = []int64{5} })
	stepOne(t, ecall, ask(make([]int64, 1000)...), func(c *impl.Cpu) { nextPc(c); c.Regs[10] = 0; c.In = make([]int64, 999) })
	stepOne(t, ecall, ask(make([]int64, 1001)...), func(c *impl.Cpu) { *c = impl.Cpu{} })
}

func TestHalting(t *testing.T) {
	stepOne(t, ecall,
		func(c *impl.Cpu) { c.Regs[17], c.Regs[10], c.In, c.Out = 10, 3, []int64{1}, []int64{2} },
		func(c *impl.Cpu) { c.Status = impl.Halted })
}

func TestCallsThatAreNone(t *testing.T) {
	for _, n := range []uint32{0, 3, 4, 5, 9, 11, 12, 64, 93, 0x80000001, 0x8000000a, 0xffffffff, 0x10001, 0x102} {
		stepOne(t, ecall,
			func(c *impl.Cpu) { c.Regs[17], c.Regs[10], c.In, c.Out = n, 3, []int64{1}, []int64{2} },
			faulted)
	}
}
