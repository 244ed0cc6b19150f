package impl

const FuelMax = 100000

const (
	EvBad   = 0
	EvDone  = 1
	EvFuel  = 2
	EvUndef = 3
)

type EvalRes struct {
	Status int64
	Out    []int64
	Exit   int64
	Used   int64
	Deep   int64
}

func Apply(op int64, a int64, b int64) int64 {
	x, y := int32(a), int32(b)
	shift := uint32(y) % 32
	switch op {
	case BinMul:
		return int64(x * y)
	case BinDiv:
		return int64(divide(x, y))
	case BinRem:
		return int64(remainder(x, y))
	case BinAdd:
		return int64(x + y)
	case BinSub:
		return int64(x - y)
	case BinShl:
		return int64(x << shift)
	case BinShr:
		return int64(x >> shift)
	case BinLt:
		return truth(x < y)
	case BinLe:
		return truth(x <= y)
	case BinGt:
		return truth(x > y)
	case BinGe:
		return truth(x >= y)
	case BinEq:
		return truth(x == y)
	case BinNe:
		return truth(x != y)
	case BinAnd:
		return int64(x & y)
	case BinXor:
		return int64(x ^ y)
	case BinOr:
		return int64(x | y)
	}
	return 0
}

func EvalC(t Tree, in []int64, fuel int64, frames []int64) EvalRes { return EvalRes{} }
