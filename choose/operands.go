package choose

import "cupel/api"

// operand is a register or a constant, or nothing where a function returns no result.
type operand any

type (
	register struct{ number int }
	constant struct{ value int64 }
	nothing  struct{}
)

func operandOf(o api.Opd) operand {
	if o.Reg >= 0 {
		return register{o.Reg}
	}
	return constant{o.Imm}
}

// registerFor returns the register for an operand: a new one for a constant.
func (c *chooser) registerFor(o operand) int {
	switch o := o.(type) {
	case register:
		return o.number
	case constant:
		return c.set(o.value)
	}
	return none
}

func isConstant(o operand) bool {
	_, is := o.(constant)
	return is
}

// short returns the value of an operand that may stand in an instruction by itself, and whether it is one.
func short(o operand) (int64, bool) {
	v, is := o.(constant)
	return v.value, is && isShort(v.value)
}

// isShort reports whether a number has 32 bits.
func isShort(v int64) bool { return v == int64(int32(v)) }
