package copies

import (
	"slices"

	"cupel/api"
	"cupel/parts"
)

// ruleCopy is the number of the rule that ends have as well.
const ruleCopy = 1

// rule returns what applies it to the instruction at a place, or nil where it cannot be applied.
type rule func(s *sweeper, at place) func()

// rules has those of the chapter in order; the first one has the number 1.
func rules() [6]rule {
	return [...]rule{(*sweeper).operand, (*sweeper).phi, becoming((*sweeper).same), (*sweeper).check, becoming((*sweeper).loaded), becoming((*sweeper).got)}
}

// becoming returns the rule by which an instruction becomes a copy of the operand that is found for it.
func becoming(find func(s *sweeper, at place) (of api.Opd, is bool)) rule {
	return func(s *sweeper, at place) func() {
		of, is := find(s, at)
		if !is {
			return nil
		}
		return func() { s.become(at, of) }
	}
}

// become makes the instruction at a place a copy.
func (s *sweeper) become(at place, of api.Opd) {
	x := s.instr(at)
	*x = api.Instr{Op: api.IxCopy, To: x.To, A: of}
	s.note(*x)
}

func register(r int) api.Opd { return api.Opd{Reg: r} }

// operand: a register that a copy defines becomes what it is a copy of.
func (s *sweeper) operand(at place) func() {
	x := s.instr(at)
	for i, o := range parts.Operands(x) {
		of, is := s.copied[o.Reg]
		if is && (x.Op != api.IxPhi || s.isReached(x.From[i])) {
			return func() {
				*o = of
				s.note(*x)
			}
		}
	}
	return nil
}

// phi: a phi of one operand becomes a copy, and comes after the others.
func (s *sweeper) phi(at place) func() {
	x := *s.instr(at)
	one, is := onlyArg(x)
	if !is {
		return nil
	}
	return func() {
		code, last := s.code(at.block), parts.Phis(s.f.Blocks[at.block])-1
		copy(code[at.index:last], code[at.index+1:])
		code[last] = x
		s.become(place{at.block, last}, one)
	}
}

// onlyArg returns the operand of a phi that has a single one besides itself. A register that is the only one is always defined above a block that is reached: a way that comes to the block for the first time does not have the phi's own register, so it has passed that one.
func onlyArg(x api.Instr) (one api.Opd, is bool) {
	if x.Op != api.IxPhi {
		return api.Opd{}, false
	}
	for _, o := range x.Args {
		switch {
		case o.Reg == x.To:
		case is && o != one:
			return api.Opd{}, false
		default:
			one, is = o, true
		}
	}
	return one, is
}

// same finds what an operation has as its result that is equal to this one and above it.
func (s *sweeper) same(at place) (of api.Opd, is bool) {
	y, is := s.nearest(at, api.IxBin)
	return register(y.To), is
}

// check: a check is left out if an equal one is above it.
func (s *sweeper) check(at place) func() {
	if _, is := s.nearest(at, api.IxCheck); !is {
		return nil
	}
	return func() {
		code := &s.f.Blocks[at.block].Code
		*code = slices.Delete(*code, at.index, at.index+1)
	}
}

// nearest returns the nearest instruction above a place that is equal to the one there, if that is of this kind.
func (s *sweeper) nearest(at place, op int) (api.Instr, bool) {
	x := s.instr(at)
	if x.Op != op {
		return api.Instr{}, false
	}
	for y := range s.above(at) {
		if y.Op == op && s.areEqual(*x, y) {
			return y, true
		}
	}
	return api.Instr{}, false
}

func (s *sweeper) areEqual(x, y api.Instr) bool {
	return x.Kind == y.Kind && (x.A == y.A && x.B == y.B || s.turns(x.Kind) && x.A == y.B && x.B == y.A)
}

// turns reports whether the operands of an operation may be exchanged.
func (s *sweeper) turns(kind int) bool {
	switch kind {
	case api.IbAdd, api.IbMul, api.IbAnd, api.IbOr, api.IbXor, api.IbEq, api.IbNe:
		return true
	case api.IbSub:
		return s.minus
	}
	return false
}

// loaded finds what a load has because of what was loaded or stored before it in its block.
func (s *sweeper) loaded(at place) (of api.Opd, is bool) {
	x := s.instr(at)
	if x.Op != api.IxLoad {
		return api.Opd{}, false
	}
	for _, y := range slices.Backward(s.before(at)) {
		here := y.Array == x.Array && y.A == x.A
		switch {
		case y.Op == api.IxLoad && here:
			return register(y.To), true
		case y.Op == api.IxStore && here:
			return y.B, s.keeps(y)
		case y.Op == api.IxStore && y.Array == x.Array && !s.overStore, y.Op == api.IxCall:
			return api.Opd{}, false
		}
	}
	return api.Opd{}, false
}

// keeps reports whether an array keeps what is stored as it is, and not modulo 256.
func (s *sweeper) keeps(store api.Instr) bool {
	a := s.f.Arrays[store.Array]
	isSmall := a.Small || a.Kind == api.AyGlobal && s.arrays[a.Global].Small
	return !isSmall || store.B.Reg < 0 && store.B.Imm >= 0 && store.B.Imm <= 255
}

// got finds what a get has because of what was got or put before it in its block.
func (s *sweeper) got(at place) (of api.Opd, is bool) {
	x := s.instr(at)
	if x.Op != api.IxGet {
		return api.Opd{}, false
	}
	for _, y := range slices.Backward(s.before(at)) {
		switch {
		case y.Op == api.IxGet && y.Cell == x.Cell:
			return register(y.To), true
		case y.Op == api.IxPut && y.Cell == x.Cell:
			return y.A, true
		case y.Op == api.IxCall && !s.overCall:
			return api.Opd{}, false
		}
	}
	return api.Opd{}, false
}
