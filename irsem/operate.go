package irsem

import "cupel/api"

// operate returns the result of an operation, or that it traps.
func operate(kind int, a, b int64) (v int64, trap bool) {
	switch kind {
	case api.IbAdd:
		return a + b, false
	case api.IbSub:
		return a - b, false
	case api.IbMul:
		return a * b, false
	case api.IbDiv, api.IbRem:
		return divide(kind, a, b)
	case api.IbAnd:
		return a & b, false
	case api.IbOr:
		return a | b, false
	case api.IbXor:
		return a ^ b, false
	case api.IbShl:
		return a << (b & 63), false
	case api.IbShr:
		return a >> (b & 63), false
	case api.IbEq:
		return truth(a == b), false
	case api.IbNe:
		return truth(a != b), false
	case api.IbLt:
		return truth(a < b), false
	}
	return truth(a <= b), false
}

// divide returns the quotient or the rest. Go's division of the least number by -1 wraps as well: it gives that number, and the rest 0.
func divide(kind int, a, b int64) (v int64, trap bool) {
	switch {
	case b == 0:
		return 0, true
	case kind == api.IbDiv:
		return a / b, false
	}
	return a % b, false
}

func truth(b bool) int64 {
	if b {
		return 1
	}
	return 0
}
