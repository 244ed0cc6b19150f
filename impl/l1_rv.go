package impl

import "slices"

const (
	CodeBase = 4096
	DataBase = 1048576
	StackTop = 1073741824
	CodeMax  = 20000
	DataMax  = 65536
	BoundMax = 1000000
	StepMax  = 1000000
	InMax    = 1000
)

const (
	RvLui   = 1
	RvJal   = 2
	RvJalr  = 3
	RvBeq   = 4
	RvBne   = 5
	RvBlt   = 6
	RvBge   = 7
	RvBltu  = 8
	RvBgeu  = 9
	RvLw    = 10
	RvSw    = 11
	RvAddi  = 12
	RvSlti  = 13
	RvSltiu = 14
	RvXori  = 15
	RvOri   = 16
	RvAndi  = 17
	RvSlli  = 18
	RvSrli  = 19
	RvSrai  = 20
	RvAdd   = 21
	RvSub   = 22
	RvSll   = 23
	RvSlt   = 24
	RvSltu  = 25
	RvXor   = 26
	RvSrl   = 27
	RvSra   = 28
	RvOr    = 29
	RvAnd   = 30
	RvMul   = 31
	RvDiv   = 32
	RvRem   = 33
	RvEcall = 34
)

const (
	Running = 0
	Halted  = 1
	Faulted = 2
)

type Inst struct {
	Op  int64
	Rd  int64
	Rs1 int64
	Rs2 int64
	Imm int64
}

type InstRes struct {
	Ok   bool
	Inst Inst
}

type Image struct {
	Code  []uint32
	Data  int64
	Bound int64
}

type Cpu struct {
	Regs   []uint32
	Pc     uint32
	Data   []byte
	Stack  []byte
	In     []int64
	Out    []int64
	Low    uint32
	Status int64
}

// shape is one way in which the fields of an instruction stand in a word.
// Neither method judges what it is given: what a field has no room for is lost on
// the way, so coming back unchanged is the proof that nothing was wrong.
type shape interface {
	word(x Inst) uint32
	inst(w uint32) Inst
}

type rShape struct{ opcode, funct3, funct7 uint32 }

type iShape struct{ opcode, funct3 uint32 }

// shiftShape is the I shape with an Imm so short that a funct7 stands above it.
type shiftShape struct{ opcode, funct3, funct7 uint32 }

type sShape struct{ opcode, funct3 uint32 }

type bShape struct{ opcode, funct3 uint32 }

type uShape struct{ opcode uint32 }

type jShape struct{ opcode uint32 }

// bareShape is the I shape of ecall, all of whose fields are 0.
type bareShape struct{ opcode uint32 }

// shapeTable has the shape of each op at the op's number; 0 is no op.
type shapeTable [RvEcall + 1]shape

func opShapes() shapeTable {
	return shapeTable{
		RvLui:   uShape{0x37},
		RvJal:   jShape{0x6f},
		RvJalr:  iShape{0x67, 0},
		RvBeq:   bShape{0x63, 0},
		RvBne:   bShape{0x63, 1},
		RvBlt:   bShape{0x63, 4},
		RvBge:   bShape{0x63, 5},
		RvBltu:  bShape{0x63, 6},
		RvBgeu:  bShape{0x63, 7},
		RvLw:    iShape{0x03, 2},
		RvSw:    sShape{0x23, 2},
		RvAddi:  iShape{0x13, 0},
		RvSlti:  iShape{0x13, 2},
		RvSltiu: iShape{0x13, 3},
		RvXori:  iShape{0x13, 4},
		RvOri:   iShape{0x13, 6},
		RvAndi:  iShape{0x13, 7},
		RvSlli:  shiftShape{0x13, 1, 0x00},
		RvSrli:  shiftShape{0x13, 5, 0x00},
		RvSrai:  shiftShape{0x13, 5, 0x20},
		RvAdd:   rShape{0x33, 0, 0x00},
		RvSub:   rShape{0x33, 0, 0x20},
		RvSll:   rShape{0x33, 1, 0x00},
		RvSlt:   rShape{0x33, 2, 0x00},
		RvSltu:  rShape{0x33, 3, 0x00},
		RvXor:   rShape{0x33, 4, 0x00},
		RvSrl:   rShape{0x33, 5, 0x00},
		RvSra:   rShape{0x33, 5, 0x20},
		RvOr:    rShape{0x33, 6, 0x00},
		RvAnd:   rShape{0x33, 7, 0x00},
		RvMul:   rShape{0x33, 0, 0x01},
		RvDiv:   rShape{0x33, 4, 0x01},
		RvRem:   rShape{0x33, 6, 0x01},
		RvEcall: bareShape{0x73},
	}
}

func (s rShape) word(x Inst) uint32 {
	return fixedBits(s.opcode, s.funct3, s.funct7) | putRd(x) | putRs1(x) | putRs2(x)
}

func (rShape) inst(w uint32) Inst {
	return Inst{Rd: takeRd(w), Rs1: takeRs1(w), Rs2: takeRs2(w)}
}

func (s iShape) word(x Inst) uint32 {
	return fixedBits(s.opcode, s.funct3, 0) | putRd(x) | putRs1(x) | move(uint32(x.Imm), 0, 12, 20)
}

func (iShape) inst(w uint32) Inst {
	return Inst{Rd: takeRd(w), Rs1: takeRs1(w), Imm: signExtend(move(w, 20, 12, 0), 12)}
}

func (s shiftShape) word(x Inst) uint32 {
	return fixedBits(s.opcode, s.funct3, s.funct7) | putRd(x) | putRs1(x) | move(uint32(x.Imm), 0, 5, 20)
}

func (shiftShape) inst(w uint32) Inst {
	return Inst{Rd: takeRd(w), Rs1: takeRs1(w), Imm: int64(move(w, 20, 5, 0))}
}

func (s sShape) word(x Inst) uint32 {
	imm := uint32(x.Imm)
	return fixedBits(s.opcode, s.funct3, 0) | putRs1(x) | putRs2(x) | move(imm, 0, 5, 7) | move(imm, 5, 7, 25)
}

func (sShape) inst(w uint32) Inst {
	imm := move(w, 7, 5, 0) | move(w, 25, 7, 5)
	return Inst{Rs1: takeRs1(w), Rs2: takeRs2(w), Imm: signExtend(imm, 12)}
}

func (s bShape) word(x Inst) uint32 {
	imm := uint32(x.Imm)
	spread := move(imm, 11, 1, 7) | move(imm, 1, 4, 8) | move(imm, 5, 6, 25) | move(imm, 12, 1, 31)
	return fixedBits(s.opcode, s.funct3, 0) | putRs1(x) | putRs2(x) | spread
}

func (bShape) inst(w uint32) Inst {
	imm := move(w, 7, 1, 11) | move(w, 8, 4, 1) | move(w, 25, 6, 5) | move(w, 31, 1, 12)
	return Inst{Rs1: takeRs1(w), Rs2: takeRs2(w), Imm: signExtend(imm, 13)}
}

func (s uShape) word(x Inst) uint32 {
	return s.opcode | putRd(x) | move(uint32(x.Imm), 0, 20, 12)
}

func (uShape) inst(w uint32) Inst {
	return Inst{Rd: takeRd(w), Imm: int64(move(w, 12, 20, 0))}
}

func (s jShape) word(x Inst) uint32 {
	imm := uint32(x.Imm)
	spread := move(imm, 12, 8, 12) | move(imm, 11, 1, 20) | move(imm, 1, 10, 21) | move(imm, 20, 1, 31)
	return s.opcode | putRd(x) | spread
}

func (jShape) inst(w uint32) Inst {
	imm := move(w, 12, 8, 12) | move(w, 20, 1, 11) | move(w, 21, 10, 1) | move(w, 31, 1, 20)
	return Inst{Rd: takeRd(w), Imm: signExtend(imm, 21)}
}

func (s bareShape) word(Inst) uint32 { return s.opcode }

func (bareShape) inst(uint32) Inst { return Inst{} }

// move gives the count bits of v from bit from on, set at bit to.
func move(v uint32, from, count, to uint) uint32 {
	return v >> from & (1<<count - 1) << to
}

func signExtend(v uint32, width uint) int64 {
	return int64(int32(v<<(32-width)) >> (32 - width))
}

func fixedBits(opcode, funct3, funct7 uint32) uint32 {
	return opcode | funct3<<12 | funct7<<25
}

func putRd(x Inst) uint32  { return move(uint32(x.Rd), 0, 5, 7) }
func putRs1(x Inst) uint32 { return move(uint32(x.Rs1), 0, 5, 15) }
func putRs2(x Inst) uint32 { return move(uint32(x.Rs2), 0, 5, 20) }

func takeRd(w uint32) int64  { return int64(move(w, 7, 5, 0)) }
func takeRs1(w uint32) int64 { return int64(move(w, 15, 5, 0)) }
func takeRs2(w uint32) int64 { return int64(move(w, 20, 5, 0)) }

func ValidInst(x Inst) bool {
	// No valid word is 0, as no opcode is.
	return Encode(x) != 0
}

func Encode(x Inst) uint32 {
	if x.Op < RvLui || x.Op > RvEcall {
		return 0
	}
	shapes := opShapes()
	w := shapes[x.Op].word(x)
	back := shapes[x.Op].inst(w)
	back.Op = x.Op
	if back != x {
		return 0
	}
	return w
}

func Decode(w uint32) InstRes {
	shapes := opShapes()
	return shapes.decode(w)
}

func (shapes *shapeTable) decode(w uint32) InstRes {
	for op := RvLui; op <= RvEcall; op++ {
		x := shapes[op].inst(w)
		if shapes[op].word(x) == w {
			x.Op = int64(op)
			return InstRes{Ok: true, Inst: x}
		}
	}
	return InstRes{}
}

func ValidImage(m Image) bool {
	return len(m.Code) >= 1 && len(m.Code) <= CodeMax &&
		m.Data >= 0 && m.Data <= DataMax && m.Data%4 == 0 &&
		m.Bound >= 0 && m.Bound <= BoundMax && m.Bound%16 == 0
}

func wrapped(v int64) int64 { return int64(int32(v)) }

func allWords(vs []int64) bool {
	for _, v := range vs {
		if wrapped(v) != v {
			return false
		}
	}
	return true
}

func validInput(in []int64) bool { return len(in) <= InMax && allWords(in) }

func Boot(m Image, in []int64) Cpu {
	if !ValidImage(m) || !validInput(in) {
		return Cpu{}
	}
	c := Cpu{
		Regs:  make([]uint32, 32),
		Pc:    CodeBase,
		Data:  make([]byte, m.Data),
		Stack: make([]byte, m.Bound),
		In:    slices.Clone(in),
		Low:   StackTop,
	}
	c.Regs[2] = StackTop
	return c
}

func validCpu(m Image, c Cpu) bool {
	return len(c.Regs) == 32 && c.Regs[0] == 0 &&
		int64(len(c.Data)) == m.Data && int64(len(c.Stack)) == m.Bound &&
		validInput(c.In) && len(c.Out) <= StepMax && allWords(c.Out) &&
		c.Status >= Running && c.Status <= Faulted
}

func copyCpu(c Cpu) Cpu {
	c.Regs = slices.Clone(c.Regs)
	c.Data = slices.Clone(c.Data)
	c.Stack = slices.Clone(c.Stack)
	c.In = slices.Clone(c.In)
	c.Out = slices.Clone(c.Out)
	return c
}

func StepCpu(m Image, c Cpu) Cpu {
	if !ValidImage(m) || !validCpu(m, c) {
		return Cpu{}
	}
	next := copyCpu(c)
	if next.Status == Running {
		var x InstRes
		if i, ok := wordIndex(m, next.Pc); ok {
			x = Decode(m.Code[i])
		}
		advance(&next, x)
	}
	return next
}

func RunCpu(m Image, in []int64, steps int64) Cpu {
	c := Boot(m, in)
	if len(c.Regs) == 0 || steps < 0 || steps > StepMax {
		return Cpu{}
	}
	// One cpu for all steps, and each word decoded once: a million steps must not
	// copy a megabyte each.
	f := fetcher{image: m, shapes: opShapes(), known: make([]InstRes, len(m.Code))}
	for i := int64(0); i < steps && c.Status == Running; i++ {
		advance(&c, f.fetch(c.Pc))
	}
	return c
}

// wordIndex gives the number of the word of code whose address pc is, if there is one.
func wordIndex(m Image, pc uint32) (int, bool) {
	// Below CodeBase this wraps to a number above every length.
	offset := pc - CodeBase
	i := int(offset / 4)
	return i, offset%4 == 0 && i < len(m.Code)
}

// fetcher remembers the instructions that a run has come to.
type fetcher struct {
	image  Image
	shapes shapeTable
	known  []InstRes
}

func (f *fetcher) fetch(pc uint32) InstRes {
	i, ok := wordIndex(f.image, pc)
	if !ok {
		return InstRes{}
	}
	if !f.known[i].Ok {
		f.known[i] = f.shapes.decode(f.image.Code[i])
	}
	return f.known[i]
}

// advance does one step in place; x is what stands at Pc.
func advance(c *Cpu, x InstRes) {
	if !x.Ok || !execute(c, x.Inst) {
		c.Status = Faulted
		return
	}
	c.Low = min(c.Low, c.Regs[2])
}

// execute gives false at a fault, and has then changed nothing.
func execute(c *Cpu, x Inst) bool {
	a, b, imm := c.Regs[x.Rs1], c.Regs[x.Rs2], uint32(x.Imm)
	next := c.Pc + 4
	switch x.Op {
	case RvLui:
		setReg(c, x.Rd, imm<<12)
	case RvJal:
		setReg(c, x.Rd, next)
		next = c.Pc + imm
	case RvJalr:
		setReg(c, x.Rd, next)
		next = (a + imm) &^ 1
	case RvBeq, RvBne, RvBlt, RvBge, RvBltu, RvBgeu:
		if taken(x.Op, a, b) {
			next = c.Pc + imm
		}
	case RvLw:
		at := memoryAt(c, a+imm)
		if at == nil {
			return false
		}
		setReg(c, x.Rd, readWord(at))
	case RvSw:
		at := memoryAt(c, a+imm)
		if at == nil {
			return false
		}
		writeWord(at, b)
	case RvEcall:
		if !callSystem(c) {
			return false
		}
	case RvAddi, RvSlti, RvSltiu, RvXori, RvOri, RvAndi, RvSlli, RvSrli, RvSrai:
		setReg(c, x.Rd, compute(x.Op, a, imm))
	default:
		setReg(c, x.Rd, compute(x.Op, a, b))
	}
	if c.Status == Running {
		c.Pc = next
	}
	return true
}

func setReg(c *Cpu, r int64, v uint32) {
	if r != 0 {
		c.Regs[r] = v
	}
}

func taken(op int64, a, b uint32) bool {
	switch op {
	case RvBeq:
		return a == b
	case RvBne:
		return a != b
	case RvBlt:
		return int32(a) < int32(b)
	case RvBge:
		return int32(a) >= int32(b)
	case RvBltu:
		return a < b
	default:
		return a >= b
	}
}

func compute(op int64, a, b uint32) uint32 {
	switch op {
	case RvAdd, RvAddi:
		return a + b
	case RvSub:
		return a - b
	case RvSll, RvSlli:
		return a << (b % 32)
	case RvSlt, RvSlti:
		return uint32(truth(int32(a) < int32(b)))
	case RvSltu, RvSltiu:
		return uint32(truth(a < b))
	case RvXor, RvXori:
		return a ^ b
	case RvSrl, RvSrli:
		return a >> (b % 32)
	case RvSra, RvSrai:
		return uint32(int32(a) >> (b % 32))
	case RvOr, RvOri:
		return a | b
	case RvAnd, RvAndi:
		return a & b
	case RvMul:
		return a * b
	case RvDiv:
		return uint32(divide(int32(a), int32(b)))
	default:
		return uint32(remainder(int32(a), int32(b)))
	}
}

func truth(b bool) int64 {
	if b {
		return 1
	}
	return 0
}

func divide(a, b int32) int32 {
	if b == 0 {
		return -1
	}
	// -2^31 by -1 wraps to what the document asks.
	return a / b
}

func remainder(a, b int32) int32 {
	if b == 0 {
		return a
	}
	return a % b
}

// memoryAt gives the four bytes at the address, nil if the machine may not touch them.
func memoryAt(c *Cpu, address uint32) []byte {
	if address%4 != 0 {
		return nil
	}
	if at := fourBytes(c.Data, address-DataBase); at != nil {
		return at
	}
	return fourBytes(c.Stack, address-(StackTop-uint32(len(c.Stack))))
}

// fourBytes takes an offset that has wrapped, where the address lies below the block:
// such a one is above every length, as no block is near 2^32 bytes long.
func fourBytes(block []byte, offset uint32) []byte {
	if int64(offset)+4 > int64(len(block)) {
		return nil
	}
	return block[offset : offset+4]
}

func readWord(at []byte) uint32 {
	return uint32(at[0]) | uint32(at[1])<<8 | uint32(at[2])<<16 | uint32(at[3])<<24
}

func writeWord(at []byte, v uint32) {
	for i := range at {
		at[i] = byte(v >> (8 * i))
	}
}

// callSystem does an ecall, and gives false where it is a fault.
func callSystem(c *Cpu) bool {
	switch c.Regs[17] {
	case 1:
		if len(c.Out) >= StepMax {
			return false
		}
		c.Out = append(c.Out, int64(int32(c.Regs[10])))
	case 2:
		c.Regs[10] = 0
		if len(c.In) > 0 {
			c.Regs[10] = uint32(c.In[0])
			c.In = c.In[1:]
		}
	case 10:
		c.Status = Halted
	default:
		return false
	}
	return true
}
