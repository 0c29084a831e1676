package num

import (
	"armature/api"
	"math/big"
	"testing"
)

func samples() []int {
	return []int{0, 1, -1, 2, -2, 7, -7, 31, 32, 33, -31, 1<<31 - 1, 1 << 31, -1 << 31, -1<<31 - 1, 1 << 32, 1<<32 + 5, 1<<62 + 3, 1<<63 - 1, -1 << 63}
}

func wrapBig(x *big.Int, bits uint) int {
	m := new(big.Int).Lsh(big.NewInt(1), bits)
	r := new(big.Int).Mod(x, m)
	if r.Bit(int(bits)-1) == 1 {
		r.Sub(r, m)
	}
	return int(r.Int64())
}

func TestWrapInt32(t *testing.T) { // P1.1, P1.4
	for _, n := range samples() {
		want := wrapBig(big.NewInt(int64(n)), 32)
		if got := WrapInt32(n); got != want || WrapInt32(got) != got {
			t.Errorf("WrapInt32(%d) = %d, want %d", n, got, want)
		}
	}
}

func expected(op, a, b int) (int, api.Errno) {
	bits := uint(64)
	if op <= api.IXor {
		bits, a, b = 32, int(int32(a)), int(int32(b))
	}
	x, y := big.NewInt(int64(a)), big.NewInt(int64(b))
	r := new(big.Int)
	k := uint(((b % 32) + 32) % 32)
	switch op {
	case api.IAdd, api.LAdd:
		r.Add(x, y)
	case api.ISub, api.LSub:
		r.Sub(x, y)
	case api.IMul, api.LMul:
		r.Mul(x, y)
	case api.INeg, api.LNeg:
		r.Neg(x)
	case api.IShl:
		r.Lsh(x, k)
	case api.IShr:
		r.Rsh(x, k)
	case api.IUshr:
		r.Rsh(new(big.Int).SetUint64(uint64(uint32(a))), k)
	case api.IAnd:
		r.And(x, y)
	case api.IOr:
		r.Or(x, y)
	case api.IXor:
		r.Xor(x, y)
	case api.LCmp:
		r.SetInt64(int64(x.Cmp(y)))
	default:
		if y.Sign() == 0 {
			return 0, api.ErrDivideByZero
		}
		if op == api.IDiv || op == api.LDiv {
			r.Quo(x, y)
		} else {
			r.Rem(x, y)
		}
	}
	return wrapBig(r, bits), api.OK
}

func TestComputeAgreesWithBigNumbers(t *testing.T) { // P1.2
	for op := api.IAdd; op <= api.LCmp; op++ {
		for _, a := range samples() {
			for _, b := range samples() {
				n, e := Compute(op, a, b)
				if wn, we := expected(op, a, b); n != wn || e != we {
					t.Fatalf("Compute(%d, %d, %d) = %d, %d, want %d, %d", op, a, b, n, e, wn, we)
				}
			}
		}
	}
	for _, a := range samples() {
		for _, op := range []int{api.I2L, api.L2I} {
			if n, e := Compute(op, a, 9); n != WrapInt32(a) || e != api.OK {
				t.Error(op, a, n, e)
			}
		}
	}
	for op := -3; op < api.NumOps+3; op++ {
		if op >= api.IAdd && op <= api.L2I {
			continue
		}
		if n, e := Compute(op, 1, 1); n != 0 || e != api.ErrBadOpcode {
			t.Error(op, n, e)
		}
	}
}

func TestConditionAndCompare(t *testing.T) { // P1.3
	want := func(place int, a, b int) bool {
		return [6]bool{a == b, a != b, a < b, a >= b, a > b, a <= b}[place]
	}
	for _, a := range samples() {
		for _, b := range samples() {
			for i := range 6 {
				if y, e := Condition(api.IfEq+i, a, b); e != api.OK || y != want(i, WrapInt32(a), 0) {
					t.Error(i, a, y, e)
				}
				if y, e := Condition(api.IfICmpEq+i, a, b); e != api.OK || y != want(i, WrapInt32(a), WrapInt32(b)) {
					t.Error(i, a, b, y, e)
				}
			}
			if c := Compare(a, b); c != big.NewInt(int64(a)).Cmp(big.NewInt(int64(b))) {
				t.Error(a, b, c)
			}
		}
	}
	for op := -3; op < api.NumOps+3; op++ {
		if op >= api.IfEq && op <= api.IfICmpLe {
			continue
		}
		if y, e := Condition(op, 0, 0); y || e != api.ErrBadOpcode {
			t.Error(op, y, e)
		}
	}
}

func value(t *testing.T, op, a, b int) int {
	n, e := Compute(op, a, b)
	if e != api.OK {
		t.Fatal(op, a, b, e)
	}
	return n
}

func TestLaws(t *testing.T) { // P1.4
	for _, o := range [][5]int{{api.IAdd, api.ISub, api.IMul, api.IDiv, api.IRem}, {api.LAdd, api.LSub, api.LMul, api.LDiv, api.LRem}} {
		add, sub, mul, div, rem := o[0], o[1], o[2], o[3], o[4]
		for _, a := range samples() {
			for _, b := range samples() {
				if value(t, add, a, b) != value(t, add, b, a) || value(t, mul, a, b) != value(t, mul, b, a) {
					t.Error("not commutative", a, b)
				}
				if value(t, sub, value(t, add, a, b), b) != value(t, add, a, 0) {
					t.Error("sub does not undo add", a, b)
				}
				if value(t, mul, 3, value(t, add, a, b)) != value(t, add, value(t, mul, 3, a), value(t, mul, 3, b)) {
					t.Error("not distributive", a, b)
				}
				if q, e := Compute(div, a, b); e == api.OK && value(t, add, value(t, mul, b, q), value(t, rem, a, b)) != value(t, add, a, 0) {
					t.Error("division", a, b)
				}
				for p := api.IfICmpEq; p <= api.IfICmpLe; p += 2 {
					x, _ := Condition(p, a, b)
					y, _ := Condition(p+1, a, b)
					if x == y {
						t.Error("pair", p, a, b)
					}
				}
			}
		}
	}
}
