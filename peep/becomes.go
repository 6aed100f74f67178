package peep

import (
	"math/bits"

	"cupel/api"
)

// What operations become by the rows of the table.

func known(x api.Instr, _ result) api.Instr {
	v, _ := calculate(x.Kind, x.A, x.B)
	return copyOf(v)
}

func turned(x api.Instr, _ result) api.Instr { return operation(x.Kind, x.B, x.A) }

func first(x api.Instr, _ result) api.Instr { return copyOf(x.A) }

func always(n int64) func(x api.Instr, of result) api.Instr {
	return func(api.Instr, result) api.Instr { return copyOf(constant(n)) }
}

func minus(x api.Instr, _ result) api.Instr { return operation(api.IbSub, constant(0), x.A) }

// plus: a sum instead of a difference. The least number is its own negative.
func plus(x api.Instr, _ result) api.Instr { return operation(api.IbAdd, x.A, constant(-x.B.Imm)) }

// shift: by n places instead of a product with, or a quotient by, 2 to the power of n.
func shift(kind int) func(x api.Instr, of result) api.Instr {
	return func(x api.Instr, _ result) api.Instr {
		return operation(kind, x.A, constant(int64(bits.TrailingZeros64(uint64(x.B.Imm)))))
	}
}

// joined: the constants of two operations are put together.
func joined(x api.Instr, of result) api.Instr {
	y := of(x.A)
	both, _ := calculate(x.Kind, y.B, x.B)
	return operation(x.Kind, y.A, both)
}

func joinedShifts(x api.Instr, of result) api.Instr {
	y := of(x.A)
	return operation(x.Kind, y.A, constant(places(y.B)+places(x.B)))
}

// inner: of 0 minus what is 0 minus something, the latter.
func inner(x api.Instr, of result) api.Instr { return copyOf(of(x.B).B) }

// opposite: the comparison that is true where the one below is false.
func opposite(x api.Instr, of result) api.Instr {
	y := of(x.A)
	switch y.Kind {
	case api.IbEq:
		return operation(api.IbNe, y.A, y.B)
	case api.IbNe:
		return operation(api.IbEq, y.A, y.B)
	case api.IbLt:
		return operation(api.IbLe, y.B, y.A)
	}
	return operation(api.IbLt, y.B, y.A)
}

// lessTurned has exchanged operands, but leaves out where they are equal.
func lessTurned(x api.Instr, of result) api.Instr {
	y := of(x.A)
	return operation(api.IbLt, y.B, y.A)
}
