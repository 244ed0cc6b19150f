package tests

import (
	"slices"
	"testing"

	"loop.example/s01725/impl"
)

func TestValidImages(t *testing.T) {
	rows := []struct {
		words       int
		data, bound int64
		want        bool
	}{
		{1, 0, 0, true}, {1, 4, 16, true}, {20000, 65536, 1000000, true}, {19999, 65532, 999984, true},
		{0, 0, 0, false}, {20001, 0, 0, false}, {40000, 0, 0, false},
		{1, -4, 0, false}, {1, 65540, 0, false}, {1, 1, 0, false}, {1, 2, 0, false}, {1, 3, 0, false}, {1, 65535, 0, false},
		{1, -1 << 63, 0, false}, {1, 1 << 62, 0, false}, {1, 1 << 32, 0, false},
		{1, 0, -16, false}, {1, 0, 1000016, false}, {1, 0, 8, false}, {1, 0, 4, false}, {1, 0, 15, false}, {1, 0, 17, false},
		{1, 0, -1 << 63, false}, {1, 0, 1 << 62, false}, {1, 0, 1 << 32, false},
	}
	for i, r := range rows {
		m := impl.Image{Code: make([]uint32, r.words), Data: r.data, Bound: r.bound}
		if got := impl.ValidImage(m); got != r.want {
			t.Errorf("row %d: %v", i, got)
		}
		c := impl.Boot(m, []int64{5})
		if !r.want && (!zeroCpu(c) || !zeroCpu(impl.StepCpu(m, bootLike(m))) || !zeroCpu(impl.RunCpu(m, nil, 0))) {
			t.Errorf("row %d: an image that is not valid runs", i)
		}
		if r.want && (len(c.Data) != int(r.data) || len(c.Stack) != int(r.bound)) {
			t.Errorf("row %d: %d bytes of data, %d of stack", i, len(c.Data), len(c.Stack))
		}
	}
}

// bootLike is a cpu with nothing wrong in it but the image that it is for.
func bootLike(m impl.Image) impl.Cpu {
	size := func(n int64) int64 { return min(max(n, 0), 2000000) }
	return impl.Cpu{Regs: make([]uint32, 32), Pc: impl.CodeBase, Data: make([]byte, size(m.Data)), Stack: make([]byte, size(m.Bound))}
}

func TestBoot(t *testing.T) {
	in := []int64{minWord, -1, 0, 1, maxWord}
	c := impl.Boot(image(8, 32, impl.Inst{Op: impl.RvEcall}), in)
	want := impl.Cpu{Regs: make([]uint32, 32), Pc: 4096, Data: make([]byte, 8), Stack: make([]byte, 32), In: slices.Clone(in), Low: 1073741824}
	want.Regs[2] = 1073741824
	if !sameCpu(c, want) {
		t.Errorf("got %+v", c)
	}
}

func TestInputs(t *testing.T) {
	m := image(0, 0, impl.Inst{Op: impl.RvEcall})
	if c := impl.Boot(m, make([]int64, 1000)); len(c.In) != 1000 || len(c.Regs) != 32 {
		t.Errorf("1000 inputs: %+v", brief(c))
	}
	bad := [][]int64{make([]int64, 1001), {maxWord + 1}, {minWord - 1}, {0, 0, 1 << 32}, {1 << 62, 0}, {-1 << 63}}
	for i, in := range bad {
		if !zeroCpu(impl.Boot(m, in)) || !zeroCpu(impl.RunCpu(m, in, 0)) || !zeroCpu(impl.RunCpu(m, in, 5)) {
			t.Errorf("inputs %d are taken", i)
		}
	}
}

// spoilt are cpus for m that are not valid, each by one thing.
func spoilt(m impl.Image) []impl.Cpu {
	spoil := []func(c *impl.Cpu){
		func(c *impl.Cpu) { c.Regs = nil },
		func(c *impl.Cpu) { c.Regs = c.Regs[:31] },
		func(c *impl.Cpu) { c.Regs = append(c.Regs, 0) },
		func(c *impl.Cpu) { c.Regs[0] = 1 },
		func(c *impl.Cpu) { c.Regs[0] = 0x80000000 },
		func(c *impl.Cpu) { c.Data = nil },
		func(c *impl.Cpu) { c.Data = c.Data[1:] },
		func(c *impl.Cpu) { c.Data = append(c.Data, 0) },
		func(c *impl.Cpu) { c.Stack = nil },
		func(c *impl.Cpu) { c.Stack = c.Stack[1:] },
		func(c *impl.Cpu) { c.Stack = append(c.Stack, 0) },
		func(c *impl.Cpu) { c.In = make([]int64, 1001) },
		func(c *impl.Cpu) { c.In = []int64{1, maxWord + 1} },
		func(c *impl.Cpu) { c.In = []int64{minWord - 1, 1} },
		func(c *impl.Cpu) { c.Out = make([]int64, 1000001) },
		func(c *impl.Cpu) { c.Out = []int64{1, maxWord + 1} },
		func(c *impl.Cpu) { c.Out = []int64{minWord - 1, 1} },
		func(c *impl.Cpu) { c.Status = -1 },
		func(c *impl.Cpu) { c.Status = 3 },
		func(c *impl.Cpu) { c.Status = 1 << 32 },
	}
	var cs []impl.Cpu
	for _, f := range spoil {
		c := impl.Boot(m, []int64{7})
		f(&c)
		cs = append(cs, c)
	}
	return cs
}

func TestCpusThatAreNotValid(t *testing.T) {
	m := image(8, 16, impl.Inst{Op: impl.RvAddi, Rd: 1, Imm: 1})
	for i, c := range spoilt(m) {
		if got := impl.StepCpu(m, c); !zeroCpu(got) {
			t.Errorf("cpu %d: %+v", i, brief(got))
		}
		if c.Status == impl.Running {
			c.Status = impl.Halted
			if got := impl.StepCpu(m, c); !zeroCpu(got) {
				t.Errorf("cpu %d, halted: %+v", i, brief(got))
			}
		}
	}
	if got := impl.StepCpu(m, impl.Cpu{}); !zeroCpu(got) {
		t.Errorf("the zero cpu: %+v", got)
	}
}

// What the document does not ask of a cpu is no reason to refuse it.
func TestCpusThatAreValid(t *testing.T) {
	m := image(8, 16, impl.Inst{Op: impl.RvAddi, Rd: 1, Imm: 1})
	c := impl.Boot(m, nil)
	c.In = make([]int64, 1000)
	c.Out = []int64{minWord, maxWord}
	c.Low = 0xffffffff
	c.Regs[2] = 12345
	want := cloneCpu(c)
	want.Regs[1] = 1
	want.Pc += 4
	want.Low = 12345
	if got := impl.StepCpu(m, c); !sameCpu(got, want) {
		t.Errorf("got %+v", brief(got))
	}
}

func TestNoStepWhenNotRunning(t *testing.T) {
	m := image(8, 16, impl.Inst{Op: impl.RvAddi, Rd: 1, Imm: 1})
	for _, status := range []int64{impl.Halted, impl.Faulted} {
		c := impl.Boot(m, []int64{3, 4})
		c.Status = status
		c.Out = []int64{-5}
		c.Regs[2] = 8
		c.Data[3] = 9
		if got := impl.StepCpu(m, c); !sameCpu(got, c) {
			t.Errorf("status %d: %+v", status, got)
		}
		c.Pc = 1
		if got := impl.StepCpu(m, c); !sameCpu(got, c) {
			t.Errorf("status %d, no word at Pc: %+v", status, got)
		}
	}
}
