package target

import (
	"iter"
	"math"

	"cupel/api"
	"cupel/texts"
)

const mostText = 600000 // bytes

// tokens returns what a text of an image consists of.
func tokens() texts.Tokens {
	return texts.Tokens{First: texts.SmallLetters, Next: texts.SmallLetters + texts.Digits, Signs: ",;()"}
}

// Parse reads an image; with an error it returns the place of the token that is wrong.
func Parse(text string) (api.Image, int, api.Errno) {
	if len(text) > mostText {
		return api.Image{}, 0, api.ErrLong
	}
	r := &reader{Reader: tokens().Reader(text), ops: opsOfWords()}
	var i api.Image
	if !r.Reads(func() { i = r.image() }) {
		return api.Image{}, r.Now.At, api.ErrForm
	}
	if e := Check(i); e != api.OK {
		return api.Image{}, 0, e
	}
	return i, 0, api.OK
}

// reader reads the text of an image.
type reader struct {
	texts.Reader
	ops map[string]int
}

func opsOfWords() map[string]int {
	ops := map[string]int{}
	for op := range api.MoBinI + api.IbLe + 1 {
		if _, known := operandsOf(op); known {
			ops[wordOf(op)] = op
		}
	}
	return ops
}

func (r *reader) image() api.Image {
	var i api.Image
	r.Expect("entry")
	i.Entry = int(r.Integer(0, api.MaxCode))
	r.Expect(";")
	for r.Accept("data") {
		i.Data = append(i.Data, r.Integer(math.MinInt64, math.MaxInt64))
		r.Expect(";")
	}
	for x := range r.instructions() {
		i.Code = appendWords(i.Code, x)
	}
	return i
}

// instructions produces those that follow, up to the end of the text.
func (r *reader) instructions() iter.Seq[api.MInstr] {
	return func(yield func(api.MInstr) bool) {
		for r.Now.Kind != texts.End && yield(r.instruction()) {
		}
	}
}

func (r *reader) instruction() api.MInstr {
	op, known := r.ops[r.Now.Text]
	r.Require(known)
	r.Take()
	x := api.MInstr{Op: op}
	l, _ := operandsOf(op)
	for i, o := range l.named() {
		if i > 0 {
			r.Expect(",")
		}
		r.operand(&x, o, l)
	}
	r.Expect(";")
	return x
}

func (r *reader) operand(x *api.MInstr, o operand, l operands) {
	switch o {
	case regD:
		x.D = r.register()
	case regA:
		x.A = r.register()
	case regB:
		x.B = r.register()
	case place:
		x.Imm = r.imm(l)
		r.Expect("(")
		x.A = r.register()
		r.Expect(")")
	default:
		x.Imm = r.imm(l)
	}
}

func (r *reader) register() int { return r.Numbered('r', api.MachRegs-1) }

func (r *reader) imm(l operands) int64 {
	least, most := l.bounds()
	return r.Integer(least.Imm, most.Imm)
}
