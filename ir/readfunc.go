package ir

import "cupel/api"

func (r *reader) function() api.IFunc {
	f := api.IFunc{Name: r.declare(r.funcs)}
	r.expect("params")
	f.Params = r.number()
	r.expect("regs")
	f.Regs = r.number()
	f.Result = r.accept("result")
	r.expect("{")
	for a, ok := r.array(); ok; a, ok = r.array() {
		f.Arrays = append(f.Arrays, a)
	}
	for !r.accept("}") {
		f.Blocks = append(f.Blocks, r.block(len(f.Blocks), f.Result))
	}
	return f
}

// array reads an array that a function names, if the current token begins one.
func (r *reader) array() (api.Array, bool) {
	var a api.Array
	switch {
	case r.accept("local"):
		a.Kind = api.AyLocal
		a.Len, a.Small = r.size()
	case r.accept("param"):
		a.Kind = api.AyParam
		a.Len, a.Small = r.size()
	case r.accept("global"):
		a.Kind = api.AyGlobal
		a.Global = r.use(r.arrays)
	default:
		return a, false
	}
	r.expect(";")
	return a, true
}

func (r *reader) block(number int, result bool) api.Block {
	if n, ok := numberBehind('b', r.now); !ok || n != number {
		panic(wrong)
	}
	r.take()
	r.expect(":")
	var b api.Block
	for x, ok := r.instr(); ok; x, ok = r.instr() {
		b.Code = append(b.Code, x)
	}
	b.End = r.end(result)
	return b
}

func (r *reader) end(result bool) api.Term {
	var t api.Term
	switch {
	case r.accept("jump"):
		t.Op = api.TmJump
		t.To = r.numbered('b')
	case r.accept("branch"):
		t.Op = api.TmBranch
		t.A = r.opd()
		r.expect(",")
		t.To = r.numbered('b')
		r.expect(",")
		t.Else = r.numbered('b')
	case r.accept("return"):
		t.Op = api.TmReturn
		if result {
			t.A = r.opd()
		}
	case r.accept("trap"):
		t.Op = api.TmTrap
	default:
		panic(wrong)
	}
	r.expect(";")
	return t
}

func (r *reader) opd() api.Opd {
	if r.now.kind == tokenInteger {
		return api.Opd{Reg: -1, Imm: r.integer()}
	}
	return api.Opd{Reg: r.numbered('r')}
}
