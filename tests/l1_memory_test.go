package tests

import (
	"testing"

	"loop.example/s01725/impl"
)

const stored = 0x89abcdef

// place is a word of memory: which block, and where in it; none if it is neither.
type place struct {
	block  string
	offset int64
}

func placeOf(m impl.Image, address int64) place {
	switch {
	case address%4 != 0:
		return place{}
	case address >= impl.DataBase && address+4 <= impl.DataBase+m.Data:
		return place{"data", address - impl.DataBase}
	case address >= impl.StackTop-m.Bound && address+4 <= impl.StackTop:
		return place{"stack", address - (impl.StackTop - m.Bound)}
	}
	return place{}
}

func blockOf(c *impl.Cpu, p place) []byte {
	if p.block == "data" {
		return c.Data[p.offset : p.offset+4]
	}
	return c.Stack[p.offset : p.offset+4]
}

// checkAddress tries a load and a store at the address, by the base register and Imm.
func checkAddress(t *testing.T, data, bound, address, imm int64) {
	t.Helper()
	base := uint32(address - imm)
	load := image(data, bound, impl.Inst{Op: impl.RvLw, Rd: 7, Rs1: 5, Imm: imm})
	store := image(data, bound, impl.Inst{Op: impl.RvSw, Rs1: 5, Rs2: 6, Imm: imm})
	p := placeOf(load, address)
	set := func(c *impl.Cpu) {
		c.Regs[5], c.Regs[6], c.Regs[7] = base, stored, 1
		if p.block != "" {
			copy(blockOf(c, p), []byte{0x12, 0x34, 0x56, 0xf8})
		}
	}
	if p.block == "" {
		stepFrom(t, load, set, faulted)
		stepFrom(t, store, set, faulted)
		return
	}
	stepFrom(t, load, set, func(c *impl.Cpu) { nextPc(c); c.Regs[7] = 0xf8563412 })
	stepFrom(t, store, set, func(c *impl.Cpu) { nextPc(c); copy(blockOf(c, p), []byte{0xef, 0xcd, 0xab, 0x89}) })
}

func TestMemoryAtItsEnds(t *testing.T) {
	sizes := [][2]int64{{0, 0}, {4, 16}, {32, 48}, {0, 32}, {32, 0}, {65536, 1000000}}
	for _, s := range sizes {
		var ends []int64
		for _, e := range []int64{impl.DataBase, impl.DataBase + s[0], impl.StackTop - s[1], impl.StackTop} {
			for d := int64(-8); d <= 8; d++ {
				ends = append(ends, e+d)
			}
		}
		for _, address := range ends {
			checkAddress(t, s[0], s[1], address, 0)
		}
		for _, d := range []int64{-4, 0, 4} {
			checkAddress(t, s[0], s[1], impl.StackTop-s[1]+d, -2048)
			checkAddress(t, s[0], s[1], impl.DataBase+d, 2047)
			checkAddress(t, s[0], s[1], impl.DataBase+s[0]-4+d, 4)
		}
	}
}

func TestMemoryThatIsNone(t *testing.T) {
	for _, address := range []int64{0, 4, 4092, 4096, 4100, 1<<20 - 4, 1<<29 + 16, 1 << 31, 1<<31 + impl.DataBase, 1<<32 - 4, 1<<32 - 8, 1<<32 - 16} {
		checkAddress(t, 32, 32, address, 0)
		checkAddress(t, 0, 0, address, 0)
	}
}

// The address is the sum that wraps, and not what it was made of.
func TestAddressIsASum(t *testing.T) {
	m := image(8, 16, impl.Inst{Op: impl.RvLw, Rd: 1, Rs1: 5, Imm: 4})
	stepFrom(t, m, func(c *impl.Cpu) { c.Regs[5] = 0xfffffffc }, faulted)
	stepFrom(t, m, func(c *impl.Cpu) { c.Regs[5] = impl.DataBase - 4; c.Data[1] = 1 }, func(c *impl.Cpu) { nextPc(c); c.Regs[1] = 256 })
}

func TestLoadIntoItsBase(t *testing.T) {
	m := image(8, 16, impl.Inst{Op: impl.RvLw, Rd: 5, Rs1: 5, Imm: 4})
	stepFrom(t, m, func(c *impl.Cpu) { c.Regs[5] = impl.DataBase; c.Data[4] = 7 }, func(c *impl.Cpu) { nextPc(c); c.Regs[5] = 7 })
	s := image(8, 16, impl.Inst{Op: impl.RvSw, Rs1: 5, Rs2: 5, Imm: 4})
	stepFrom(t, s, func(c *impl.Cpu) { c.Regs[5] = impl.DataBase }, func(c *impl.Cpu) { nextPc(c); c.Data[6] = 16 })
}

// A load that moves x2 moves Low with it.
func TestLoadIntoX2(t *testing.T) {
	m := image(8, 16, impl.Inst{Op: impl.RvLw, Rd: 2, Rs1: 5})
	stepFrom(t, m, func(c *impl.Cpu) { c.Regs[5] = impl.DataBase; c.Data[0] = 7 }, func(c *impl.Cpu) { nextPc(c); c.Regs[2] = 7; c.Low = 7 })
}
