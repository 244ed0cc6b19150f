package tests

import (
	"testing"

	"loop.example/s01725/impl"
)

func addi(rd, rs1, imm int64) impl.Inst {
	return impl.Inst{Op: impl.RvAddi, Rd: rd, Rs1: rs1, Imm: imm}
}

// sumProgram adds inputs up to the first 0, in a function with a frame, and tells and
// gives the sum.
func sumProgram() impl.Image {
	return image(4, 16,
		impl.Inst{Op: impl.RvJal, Rd: 1, Imm: 12},
		addi(17, 0, 10),
		ecall,
		addi(2, 2, -16),
		impl.Inst{Op: impl.RvSw, Rs1: 2, Rs2: 1, Imm: 12},
		addi(5, 0, 0),
		addi(17, 0, 2),
		ecall,
		impl.Inst{Op: impl.RvBeq, Rs1: 10, Imm: 12},
		impl.Inst{Op: impl.RvAdd, Rd: 5, Rs1: 5, Rs2: 10},
		impl.Inst{Op: impl.RvJal, Imm: -16},
		addi(10, 5, 0),
		addi(17, 0, 1),
		ecall,
		impl.Inst{Op: impl.RvLw, Rd: 1, Rs1: 2, Imm: 12},
		addi(2, 2, 16),
		impl.Inst{Op: impl.RvJalr, Rs1: 1},
	)
}

func TestSumProgram(t *testing.T) {
	c := impl.RunCpu(sumProgram(), []int64{5, -7, maxWord, 0, 9}, 1000)
	if c.Status != impl.Halted || c.Pc != 4104 || len(c.Out) != 1 || c.Out[0] != maxWord-2 || c.Regs[10] != maxWord-2 || c.Low != impl.StackTop-16 || len(c.In) != 1 || c.In[0] != 9 {
		t.Errorf("got %+v", c)
	}
	m := sumProgram()
	m.Bound = 0
	if c := impl.RunCpu(m, nil, 1000); c.Status != impl.Faulted || c.Pc != 4096+16 || c.Low != impl.StackTop-16 {
		t.Errorf("without a stack: %+v", c)
	}
}

// checkRun compares RunCpu of 0 to most steps with as many StepCpus, and Low with the
// smallest x2 that was seen (P2).
func checkRun(t *testing.T, m impl.Image, in []int64, most int64) {
	t.Helper()
	c := impl.Boot(m, in)
	low := uint32(impl.StackTop)
	for n := int64(0); n <= most; n++ {
		if run := impl.RunCpu(m, in, n); !sameCpu(run, c) {
			t.Fatalf("%d steps: run %+v, steps %+v", n, brief(run), brief(c))
		}
		low = min(low, c.Regs[2])
		if c.Low > c.Regs[2] || c.Low != low || c.Regs[0] != 0 {
			t.Fatalf("%d steps: Low %d, seen %d: %+v", n, c.Low, low, brief(c))
		}
		c = impl.StepCpu(m, c)
	}
}

func TestRunIsManySteps(t *testing.T) {
	checkRun(t, sumProgram(), []int64{5, -7, 0}, 60)
	checkRun(t, sumProgram(), nil, 60)
	checkRun(t, image(0, 0, addi(1, 1, 1)), nil, 5)
	checkRun(t, image(0, 0, impl.Inst{Op: impl.RvJal}), nil, 20)
	checkRun(t, image(0, 0, impl.Inst{Op: impl.RvLui, Rd: 2, Imm: 0xfffff}, impl.Inst{Op: impl.RvLui, Rd: 2}, addi(2, 2, -1)), nil, 5)
	checkRun(t, impl.Image{Code: []uint32{0xffffffff}}, nil, 3)
}

// randomInst gives an instruction that tends to stay in the code and in memory, so that
// runs of them go on for a while.
func randomInst(n *numbers, rules []opRule) impl.Inst {
	r := rules[n.below(int64(len(rules)))]
	x := impl.Inst{Op: r.op}
	if r.rd {
		x.Rd = n.below(32)
	}
	if r.r1 {
		x.Rs1 = []int64{0, 2, 3, 3, 4, n.below(32)}[n.below(6)]
	}
	if r.r2 {
		x.Rs2 = n.below(32)
	}
	if r.high > r.low {
		near := n.below(16)*4 - 24
		x.Imm = min(max(near, r.low), r.high)
	}
	return x
}

func randomImage(n *numbers, rules []opRule) impl.Image {
	xs := []impl.Inst{addi(2, 2, -32), {Op: impl.RvLui, Rd: 3, Imm: 256}, addi(17, 0, []int64{1, 2}[n.below(2)])}
	for i := 0; i < 40; i++ {
		xs = append(xs, randomInst(n, rules))
	}
	return image(64, 64, xs...)
}

func TestRunIsManyStepsAtRandom(t *testing.T) {
	rules := opRules()
	n := numbers{2}
	for i := 0; i < 300; i++ {
		checkRun(t, randomImage(&n, rules), []int64{1, -1, maxWord, minWord}, 60)
	}
}

func TestNumbersOfSteps(t *testing.T) {
	m := image(0, 0, addi(5, 5, 1), impl.Inst{Op: impl.RvJal, Imm: -4})
	for _, steps := range []int64{-1, -1 << 63, 1000001, 1 << 32, 1<<63 - 1} {
		if c := impl.RunCpu(m, nil, steps); !zeroCpu(c) {
			t.Errorf("%d steps: %+v", steps, c)
		}
	}
	if c := impl.RunCpu(m, []int64{4}, 0); !sameCpu(c, impl.Boot(m, []int64{4})) {
		t.Errorf("no steps: %+v", c)
	}
	for steps, want := range map[int64]uint32{1: 1, 2: 1, 3: 2, 999999: 500000, 1000000: 500000} {
		if c := impl.RunCpu(m, nil, steps); c.Status != impl.Running || c.Regs[5] != want {
			t.Errorf("%d steps: %+v", steps, c)
		}
	}
}

func TestLongRunTells(t *testing.T) {
	m := image(65536, 1000000, addi(17, 0, 1), addi(10, 10, 1), ecall, impl.Inst{Op: impl.RvJal, Imm: -8})
	c := impl.RunCpu(m, nil, 1000000)
	if c.Status != impl.Running || len(c.Out) != 333333 || c.Out[0] != 1 || c.Out[333332] != 333333 {
		t.Errorf("%d told, status %d", len(c.Out), c.Status)
	}
}

func TestRunStopsAtTheEnd(t *testing.T) {
	halt := image(0, 0, addi(17, 0, 10), ecall, addi(1, 0, 1))
	for _, steps := range []int64{2, 3, 1000, 1000000} {
		if c := impl.RunCpu(halt, nil, steps); c.Status != impl.Halted || c.Pc != 4100 || c.Regs[1] != 0 {
			t.Errorf("halt, %d steps: %+v", steps, c)
		}
	}
	off := image(0, 0, addi(1, 1, 1))
	for _, steps := range []int64{2, 3, 1000000} {
		if c := impl.RunCpu(off, nil, steps); c.Status != impl.Faulted || c.Pc != 4100 || c.Regs[1] != 1 {
			t.Errorf("off the end, %d steps: %+v", steps, c)
		}
	}
}
