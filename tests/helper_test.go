package tests

import (
	"slices"
	"testing"

	"loop.example/s01725/impl"
)

const (
	minWord = -2147483648
	maxWord = 2147483647
)

// edgeWords are the values at which arithmetic on words changes its ways.
var edgeWords = []uint32{
	0, 1, 2, 3, 4, 7, 30, 31, 32, 33, 63, 64, 100, 2047, 2048, 4095, 4096, 65535, 65536,
	0x7ffffffe, 0x7fffffff, 0x80000000, 0x80000001, 0xaaaaaaaa, 0x55555555,
	0xfffff7ff, 0xfffff800, 0xffffffe0, 0xffffffe1, 0xfffffff9, 0xfffffffe, 0xffffffff,
}

// numbers gives the same long row of numbers at every run.
type numbers struct{ state uint64 }

func (n *numbers) next() uint32 {
	n.state = n.state*6364136223846793005 + 1442695040888963407
	return uint32(n.state >> 32)
}

func (n *numbers) below(k int64) int64 { return int64(n.next()) % k }

func sameCpu(a, b impl.Cpu) bool {
	return slices.Equal(a.Regs, b.Regs) && a.Pc == b.Pc &&
		slices.Equal(a.Data, b.Data) && slices.Equal(a.Stack, b.Stack) &&
		slices.Equal(a.In, b.In) && slices.Equal(a.Out, b.Out) &&
		a.Low == b.Low && a.Status == b.Status
}

func zeroCpu(c impl.Cpu) bool { return sameCpu(c, impl.Cpu{}) }

func cloneCpu(c impl.Cpu) impl.Cpu {
	c.Regs = slices.Clone(c.Regs)
	c.Data = slices.Clone(c.Data)
	c.Stack = slices.Clone(c.Stack)
	c.In = slices.Clone(c.In)
	c.Out = slices.Clone(c.Out)
	return c
}

// brief leaves out what is too long to be shown.
func brief(c impl.Cpu) impl.Cpu {
	c.Data = c.Data[:min(len(c.Data), 32)]
	c.Stack = c.Stack[:min(len(c.Stack), 32)]
	c.In = c.In[:min(len(c.In), 8)]
	c.Out = c.Out[:min(len(c.Out), 8)]
	return c
}

func image(data, bound int64, xs ...impl.Inst) impl.Image {
	m := impl.Image{Data: data, Bound: bound}
	for _, x := range xs {
		m.Code = append(m.Code, impl.Encode(x))
	}
	return m
}

// stepOne checks the step of x, at the code's first word, from registers as set sets
// them: the cpu that it gives is the one before, changed by change and by nothing else.
func stepOne(t *testing.T, x impl.Inst, set, change func(c *impl.Cpu)) {
	t.Helper()
	m := image(32, 32, x)
	stepFrom(t, m, set, change)
}

func stepFrom(t *testing.T, m impl.Image, set, change func(c *impl.Cpu)) {
	t.Helper()
	c := impl.Boot(m, nil)
	set(&c)
	want := cloneCpu(c)
	change(&want)
	if got := impl.StepCpu(m, c); !sameCpu(got, want) {
		t.Errorf("%+v: got %+v, want %+v", impl.Decode(m.Code[0]).Inst, brief(got), brief(want))
	}
}

func faulted(c *impl.Cpu) { c.Status = impl.Faulted }
