package tests

import (
	"math/big"
	"testing"

	"loop.example/s01725/impl"
)

func word(v *big.Int) int64 {
	return int64(int32(uint32(new(big.Int).And(v, big.NewInt(0xffffffff)).Uint64())))
}

func oneIf(b bool) *big.Int {
	if b {
		return big.NewInt(1)
	}
	return big.NewInt(0)
}

// applyWant is what the document says of an operator, by numbers without bounds.
func applyWant(op, a, b int64) int64 {
	x, y := big.NewInt(word(big.NewInt(a))), big.NewInt(word(big.NewInt(b)))
	by := uint(new(big.Int).Mod(y, big.NewInt(32)).Uint64())
	r := new(big.Int)
	switch op {
	case impl.BinMul:
		r.Mul(x, y)
	case impl.BinDiv:
		r.SetInt64(-1)
		if y.Sign() != 0 {
			r.Quo(x, y)
		}
	case impl.BinRem:
		r.Set(x)
		if y.Sign() != 0 {
			r.Rem(x, y)
		}
	case impl.BinAdd:
		r.Add(x, y)
	case impl.BinSub:
		r.Sub(x, y)
	case impl.BinShl:
		r.Lsh(x, by)
	case impl.BinShr:
		r.Rsh(x, by)
	case impl.BinLt:
		r = oneIf(x.Cmp(y) < 0)
	case impl.BinLe:
		r = oneIf(x.Cmp(y) <= 0)
	case impl.BinGt:
		r = oneIf(x.Cmp(y) > 0)
	case impl.BinGe:
		r = oneIf(x.Cmp(y) >= 0)
	case impl.BinEq:
		r = oneIf(x.Cmp(y) == 0)
	case impl.BinNe:
		r = oneIf(x.Cmp(y) != 0)
	case impl.BinAnd:
		r.And(x, y)
	case impl.BinXor:
		r.Xor(x, y)
	case impl.BinOr:
		r.Or(x, y)
	}
	return word(r)
}

func TestApplyRows(t *testing.T) {
	rows := []struct{ op, a, b, want int64 }{
		{impl.BinMul, 6, -7, -42}, {impl.BinMul, minWord, -1, minWord}, {impl.BinMul, 65536, 32768, minWord}, {impl.BinMul, maxWord, maxWord, 1},
		{impl.BinDiv, 7, 2, 3}, {impl.BinDiv, -7, 2, -3}, {impl.BinDiv, 7, -2, -3}, {impl.BinDiv, -7, -2, 3},
		{impl.BinDiv, 0, 0, -1}, {impl.BinDiv, minWord, 0, -1}, {impl.BinDiv, minWord, -1, minWord}, {impl.BinDiv, minWord, 1, minWord},
		{impl.BinRem, 7, 2, 1}, {impl.BinRem, -7, 2, -1}, {impl.BinRem, 7, -2, 1}, {impl.BinRem, -7, -2, -1},
		{impl.BinRem, 0, 0, 0}, {impl.BinRem, minWord, 0, minWord}, {impl.BinRem, -5, 0, -5}, {impl.BinRem, minWord, -1, 0},
		{impl.BinAdd, maxWord, maxWord, -2}, {impl.BinAdd, minWord, minWord, 0}, {impl.BinSub, 0, minWord, minWord}, {impl.BinSub, 3, 5, -2},
		{impl.BinShl, 1, 31, minWord}, {impl.BinShl, 1, 32, 1}, {impl.BinShl, 3, 31, minWord}, {impl.BinShl, 1, -1, minWord}, {impl.BinShl, 5, 0, 5},
		{impl.BinShr, minWord, 31, -1}, {impl.BinShr, maxWord, 31, 0}, {impl.BinShr, -1, 5, -1}, {impl.BinShr, minWord, 32, minWord}, {impl.BinShr, -8, -31, -4},
		{impl.BinLt, minWord, maxWord, 1}, {impl.BinLt, 4, 4, 0}, {impl.BinLe, 4, 4, 1}, {impl.BinLe, 5, 4, 0},
		{impl.BinGt, 0, -1, 1}, {impl.BinGt, 4, 4, 0}, {impl.BinGe, 4, 4, 1}, {impl.BinGe, -1, 0, 0},
		{impl.BinEq, -1, -1, 1}, {impl.BinEq, -1, 1, 0}, {impl.BinNe, -1, -1, 0}, {impl.BinNe, -1, 1, 1},
		{impl.BinAnd, -4, 7, 4}, {impl.BinXor, -1, 5, -6}, {impl.BinOr, minWord, 1, minWord + 1},
	}
	for _, r := range rows {
		if got := impl.Apply(r.op, r.a, r.b); got != r.want {
			t.Errorf("op %d of %d and %d: %d, want %d", r.op, r.a, r.b, got, r.want)
		}
	}
}

func TestApplyOnWordsAndBeyond(t *testing.T) {
	var values []int64
	for _, v := range edgeWords {
		s := int64(int32(v))
		values = append(values, s, int64(v), s+1<<32, s-1<<32, s+1<<62)
	}
	values = append(values, 1<<63-1, -1<<63)
	for op := int64(impl.BinMul); op <= impl.BinOr; op++ {
		for _, a := range values {
			for _, b := range values {
				if got, want := impl.Apply(op, a, b), applyWant(op, a, b); got != want {
					t.Fatalf("op %d of %d and %d: %d, want %d", op, a, b, got, want)
				}
			}
		}
	}
}

func TestApplyOfNoOperator(t *testing.T) {
	for _, op := range []int64{-1, 16, 17, 64, 1 << 32, 1<<32 + 3, -1 << 63, 1<<63 - 1} {
		for _, a := range []int64{0, 1, -1, 7, minWord, 1 << 40} {
			if got := impl.Apply(op, a, 3); got != 0 {
				t.Errorf("op %d of %d: %d", op, a, got)
			}
		}
	}
}
