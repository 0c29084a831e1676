// Package num: layer 1: integer arithmetic of 32 and 64 bits with wrap-around.
package num

import (
	"armature/api"
	"cmp"
)

// WrapInt32 returns the 32-bit number that differs from n by a multiple of 2^32.
func WrapInt32(n int) int { return int(int32(n)) }

// Compute applies an arithmetic opcode to its operands.
func Compute(op, a, b int) (int, api.Errno) {
	switch {
	case op >= api.IAdd && op <= api.IXor:
		return compute32(op, WrapInt32(a), WrapInt32(b))
	case op >= api.LAdd && op <= api.LCmp:
		return compute64(op, a, b)
	case op == api.I2L || op == api.L2I:
		return WrapInt32(a), api.OK
	}
	return 0, api.ErrBadOpcode
}

// compute32 expects operands that are 32-bit numbers already.
func compute32(op, a, b int) (int, api.Errno) {
	k := uint(b & 31)
	switch op {
	case api.IAdd:
		return WrapInt32(a + b), api.OK
	case api.ISub:
		return WrapInt32(a - b), api.OK
	case api.IMul:
		return WrapInt32(a * b), api.OK
	case api.IDiv, api.IRem:
		return divide32(op, a, b)
	case api.INeg:
		return WrapInt32(-a), api.OK
	case api.IShl:
		return WrapInt32(a << k), api.OK
	case api.IShr:
		return a >> k, api.OK
	case api.IUshr:
		return WrapInt32(int(uint32(a) >> k)), api.OK
	case api.IAnd:
		return a & b, api.OK
	case api.IOr:
		return a | b, api.OK
	}
	return a ^ b, api.OK
}

func divide32(op, a, b int) (int, api.Errno) {
	if b == 0 {
		return 0, api.ErrDivideByZero
	}
	if op == api.IDiv {
		return WrapInt32(a / b), api.OK
	}
	return WrapInt32(a % b), api.OK
}

func compute64(op, a, b int) (int, api.Errno) {
	switch op {
	case api.LAdd:
		return a + b, api.OK
	case api.LSub:
		return a - b, api.OK
	case api.LMul:
		return a * b, api.OK
	case api.LNeg:
		return -a, api.OK
	case api.LCmp:
		return Compare(a, b), api.OK
	}
	if b == 0 {
		return 0, api.ErrDivideByZero
	}
	if op == api.LDiv {
		return a / b, api.OK
	}
	return a % b, api.OK
}

// Compare returns -1, 0 or 1.
func Compare(a, b int) int { return cmp.Compare(a, b) }

// Condition reports whether the condition of a branch opcode holds.
func Condition(op, a, b int) (bool, api.Errno) {
	switch {
	case op >= api.IfEq && op <= api.IfLe:
		return holds(op-api.IfEq, Compare(WrapInt32(a), 0)), api.OK
	case op >= api.IfICmpEq && op <= api.IfICmpLe:
		return holds(op-api.IfICmpEq, Compare(WrapInt32(a), WrapInt32(b))), api.OK
	}
	return false, api.ErrBadOpcode
}

// holds takes the place of a condition in the order eq, ne, lt, ge, gt, le.
func holds(place, order int) bool {
	switch place {
	case 0:
		return order == 0
	case 1:
		return order != 0
	case 2:
		return order < 0
	case 3:
		return order >= 0
	case 4:
		return order > 0
	}
	return order <= 0
}
