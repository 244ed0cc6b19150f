package tests

import (
	"slices"
	"testing"

	"loop.example/s01725/impl"
)

// roomy gives a list with the same values and spare room behind them, where an append
// that does not copy would be seen.
func roomy[T any](xs []T, spare T) []T {
	long := slices.Grow(slices.Clone(xs), 4)
	for i := len(xs); i < cap(long); i++ {
		long[:cap(long)][i] = spare
	}
	return long[:len(xs)]
}

func roomyCpu(c impl.Cpu) impl.Cpu {
	c.Regs = roomy(c.Regs, 99)
	c.Data = roomy(c.Data, 99)
	c.Stack = roomy(c.Stack, 99)
	c.In = roomy(c.In, 99)
	c.Out = roomy(c.Out, 99)
	return c
}

// whole gives the values of a list and of the room behind it.
func whole[T any](xs []T) []T { return slices.Clone(xs[:cap(xs)]) }

func wholeCpu(c impl.Cpu) impl.Cpu {
	c.Regs = whole(c.Regs)
	c.Data = whole(c.Data)
	c.Stack = whole(c.Stack)
	c.In = whole(c.In)
	c.Out = whole(c.Out)
	return c
}

func scribble[T any](xs []T, v T) {
	for i := range xs[:cap(xs)] {
		xs[:cap(xs)][i] = v
	}
}

// scribbleCpu writes over all that c holds, list after list; what is written into one
// list must not be seen in another.
func scribbleCpu(t *testing.T, c impl.Cpu) {
	t.Helper()
	scribble(c.Regs, 0xdeadbeef)
	scribble(c.Data, 0x11)
	scribble(c.Stack, 0x22)
	scribble(c.In, 0x33)
	scribble(c.Out, 0x44)
	if slices.Contains(c.Data, 0x22) || slices.Contains(c.In, 0x44) {
		t.Errorf("two lists of one answer share memory")
	}
}

// callCases are images with cpus at which a step does each kind of thing.
func callCases() map[string]struct {
	m impl.Image
	c impl.Cpu
} {
	cases := map[string]struct {
		m impl.Image
		c impl.Cpu
	}{}
	add := func(name string, x impl.Inst, set func(c *impl.Cpu)) {
		m := image(16, 16, x)
		m.Code = roomy(m.Code, 99)
		c := impl.Boot(m, []int64{1, 2})
		c.Out = []int64{3}
		set(&c)
		cases[name] = struct {
			m impl.Image
			c impl.Cpu
		}{m, roomyCpu(c)}
	}
	add("register", addi(5, 0, 7), func(c *impl.Cpu) {})
	add("data", impl.Inst{Op: impl.RvSw, Rs1: 5, Rs2: 2}, func(c *impl.Cpu) { c.Regs[5] = impl.DataBase })
	add("stack", impl.Inst{Op: impl.RvSw, Rs1: 2, Rs2: 2, Imm: -4}, func(c *impl.Cpu) {})
	add("tell", ecall, func(c *impl.Cpu) { c.Regs[17] = 1 })
	add("ask", ecall, func(c *impl.Cpu) { c.Regs[17] = 2 })
	add("halt", ecall, func(c *impl.Cpu) { c.Regs[17] = 10 })
	add("fault", ecall, func(c *impl.Cpu) { c.Regs[17] = 11 })
	add("halted", ecall, func(c *impl.Cpu) { c.Status = impl.Halted })
	add("faulted", ecall, func(c *impl.Cpu) { c.Status = impl.Faulted })
	add("not valid", ecall, func(c *impl.Cpu) { c.Status = 3 })
	return cases
}

func TestStepSharesNothing(t *testing.T) {
	for name, k := range callCases() {
		code, cpu := whole(k.m.Code), wholeCpu(k.c)
		got := impl.StepCpu(k.m, k.c)
		if !slices.Equal(whole(k.m.Code), code) || !sameCpu(wholeCpu(k.c), cpu) {
			t.Errorf("%s: the step writes into its arguments", name)
		}
		scribbleCpu(t, got)
		if !slices.Equal(whole(k.m.Code), code) || !sameCpu(wholeCpu(k.c), cpu) {
			t.Errorf("%s: the answer shares memory with an argument", name)
		}
	}
}

func TestBootAndRunShareNothing(t *testing.T) {
	m := sumProgram()
	m.Code = roomy(m.Code, 99)
	in := roomy([]int64{4, 5, 0}, 99)
	code, before := whole(m.Code), whole(in)
	same := func() bool { return slices.Equal(whole(m.Code), code) && slices.Equal(whole(in), before) }
	for _, steps := range []int64{-1, 0, 1, 8, 9, 1000} {
		c := impl.RunCpu(m, in, steps)
		if !same() {
			t.Errorf("%d steps write into the arguments", steps)
		}
		scribbleCpu(t, c)
		if !same() {
			t.Errorf("%d steps: the answer shares memory with an argument", steps)
		}
	}
	scribbleCpu(t, impl.Boot(m, in))
	if !same() {
		t.Errorf("Boot writes into its arguments or shares memory with them")
	}
}

func TestNothingIsKept(t *testing.T) {
	for name, k := range callCases() {
		first := impl.StepCpu(k.m, k.c)
		kept := cloneCpu(first)
		second := impl.StepCpu(k.m, k.c)
		if !sameCpu(first, second) {
			t.Errorf("%s: the second answer is another", name)
		}
		scribbleCpu(t, second)
		if !sameCpu(first, kept) || !sameCpu(impl.StepCpu(k.m, k.c), kept) {
			t.Errorf("%s: two answers share memory", name)
		}
	}
	if a, b := impl.RunCpu(sumProgram(), []int64{1, 0}, 99), impl.RunCpu(sumProgram(), []int64{1, 0}, 99); !sameCpu(a, b) {
		t.Errorf("two runs differ: %+v, %+v", a, b)
	}
}
