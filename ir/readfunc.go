package ir

import (
	"cupel/api"
	"cupel/texts"
)

func (r *reader) function() api.IFunc {
	f := api.IFunc{Name: r.declare(r.funcs)}
	r.Expect("params")
	f.Params = r.number()
	r.Expect("regs")
	f.Regs = r.number()
	f.Result = r.Accept("result")
	r.Expect("{")
	for a, ok := r.array(); ok; a, ok = r.array() {
		f.Arrays = append(f.Arrays, a)
	}
	for !r.Accept("}") {
		f.Blocks = append(f.Blocks, r.block(len(f.Blocks), f.Result))
	}
	return f
}

// array reads an array that a function names, if the current token begins one.
func (r *reader) array() (api.Array, bool) {
	var a api.Array
	switch {
	case r.Accept("local"):
		a.Kind = api.AyLocal
		a.Len, a.Small = r.size()
	case r.Accept("param"):
		a.Kind = api.AyParam
		a.Len, a.Small = r.size()
	case r.Accept("global"):
		a.Kind = api.AyGlobal
		a.Global = r.use(r.arrays)
	default:
		return a, false
	}
	r.Expect(";")
	return a, true
}

func (r *reader) block(number int, result bool) api.Block {
	n, ok := r.Now.Number('b', mostNumber)
	r.Require(ok && n == number)
	r.Take()
	r.Expect(":")
	var b api.Block
	for x, ok := r.instr(); ok; x, ok = r.instr() {
		b.Code = append(b.Code, x)
	}
	b.End = r.end(result)
	return b
}

func (r *reader) end(result bool) api.Term {
	var t api.Term
	switch {
	case r.Accept("jump"):
		t.Op = api.TmJump
		t.To = r.numbered('b')
	case r.Accept("branch"):
		t.Op = api.TmBranch
		t.A = r.opd()
		r.Expect(",")
		t.To = r.numbered('b')
		r.Expect(",")
		t.Else = r.numbered('b')
	case r.Accept("return"):
		t.Op = api.TmReturn
		if result {
			t.A = r.opd()
		}
	case r.Accept("trap"):
		t.Op = api.TmTrap
	default:
		r.Require(false)
	}
	r.Expect(";")
	return t
}

func (r *reader) opd() api.Opd {
	if r.Now.Kind == texts.Integer {
		return api.Opd{Reg: -1, Imm: r.integer()}
	}
	return api.Opd{Reg: r.numbered('r')}
}
