package machine

import (
	"forthwith/api"
	"forthwith/code"
)

// AreCells tells whether all in the list are.
func AreCells(list []int) bool {
	for _, n := range list {
		if n < api.MinCell || n > api.MaxCell {
			return false
		}
	}
	return true
}

func wrapped(n int) int { return int(int32(n)) }

func flag(holds bool) int {
	if holds {
		return -1
	}
	return 0
}

// ofTwo is what a word that makes one cell of two puts.
func ofTwo(op, a, b int) int {
	switch op {
	case code.Plus:
		return wrapped(a + b)
	case code.Minus:
		return wrapped(a - b)
	case code.Times:
		return wrapped(a * b)
	case code.And:
		return a & b
	case code.Or:
		return a | b
	case code.Xor:
		return a ^ b
	case code.Divide:
		return divided(a, b)
	case code.Mod:
		return wrapped(a - b*divided(a, b))
	case code.Equal:
		return flag(a == b)
	case code.Less:
		return flag(a < b)
	case code.Greater:
		return flag(a > b)
	case code.Min:
		return min(a, b)
	default:
		return max(a, b)
	}
}

// divided rounds down, where Go's own division rounds towards 0; by 0 it is 0, so that all of a is left.
func divided(a, b int) int {
	if b == 0 {
		return 0
	}
	quotient := a / b
	if a%b != 0 && (a < 0) != (b < 0) {
		quotient--
	}
	return wrapped(quotient)
}

// ofOne is what a word that makes one cell of one puts.
func ofOne(op, a int) int {
	switch {
	case op == code.IsZero:
		return flag(a == 0)
	case op == code.Negate || a < 0:
		return wrapped(-a)
	default:
		return a
	}
}
