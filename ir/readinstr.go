package ir

import (
	"cupel/api"
	"cupel/texts"
)

// operation is what a word stands for, and how what follows the word is read.
type operation struct {
	op, kind int
	rest     func(r *reader, x *api.Instr)
}

// valueWords returns the operations that stand after "rN =".
func valueWords() map[string]operation {
	words := map[string]operation{
		"load": {op: api.IxLoad, rest: (*reader).loadRest},
		"get":  {op: api.IxGet, rest: (*reader).getRest},
		"call": {op: api.IxCall, rest: (*reader).callRest},
		"phi":  {op: api.IxPhi, rest: (*reader).phiRest},
	}
	for kind := api.IbAdd; kind <= api.IbLe; kind++ {
		words[texts.Operation(kind)] = operation{op: api.IxBin, kind: kind, rest: (*reader).pairRest}
	}
	return words
}

// actionWords returns the operations with which an instruction begins.
func actionWords() map[string]operation {
	return map[string]operation{
		"check": {op: api.IxCheck, rest: (*reader).pairRest},
		"store": {op: api.IxStore, rest: (*reader).storeRest},
		"put":   {op: api.IxPut, rest: (*reader).putRest},
		"print": {op: api.IxPrint, rest: (*reader).printRest},
		"call":  {op: api.IxCall, rest: (*reader).callRest},
	}
}

// instr reads an instruction, if the current token begins one.
func (r *reader) instr() (api.Instr, bool) {
	var x api.Instr
	if to, ok := r.Now.Number('r', mostNumber); ok {
		r.Take()
		r.Expect("=")
		x = r.value()
		x.To = to
	} else if o, ok := r.actions[r.Now.Text]; ok {
		x = r.operation(o)
	} else {
		return x, false
	}
	r.Expect(";")
	return x, true
}

func (r *reader) value() api.Instr {
	if o, ok := r.values[r.Now.Text]; ok {
		return r.operation(o)
	}
	return api.Instr{Op: api.IxCopy, A: r.opd()}
}

// operation reads an operation whose word is the current token.
func (r *reader) operation(o operation) api.Instr {
	r.Take()
	x := api.Instr{Op: o.op, Kind: o.kind, To: -1}
	o.rest(r, &x)
	return x
}

func (r *reader) pairRest(x *api.Instr) {
	x.A = r.opd()
	r.Expect(",")
	x.B = r.opd()
}

func (r *reader) loadRest(x *api.Instr) {
	x.Array = r.numbered('a')
	r.Expect("[")
	x.A = r.opd()
	r.Expect("]")
}

func (r *reader) storeRest(x *api.Instr) {
	r.loadRest(x)
	r.Expect("=")
	x.B = r.opd()
}

func (r *reader) getRest(x *api.Instr) { x.Cell = r.numbered('c') }

func (r *reader) putRest(x *api.Instr) {
	r.getRest(x)
	r.Expect("=")
	x.A = r.opd()
}

func (r *reader) printRest(x *api.Instr) { x.A = r.opd() }

func (r *reader) callRest(x *api.Instr) {
	x.Func = r.use(r.funcs)
	r.Expect("(")
	if r.Now.Text != ")" && r.Now.Text != ";" {
		x.Args = append(x.Args, r.opd())
		for r.Accept(",") {
			x.Args = append(x.Args, r.opd())
		}
	}
	if r.Accept(";") {
		x.Arrays = append(x.Arrays, r.numbered('a'))
		for r.Accept(",") {
			x.Arrays = append(x.Arrays, r.numbered('a'))
		}
	}
	r.Expect(")")
}

func (r *reader) phiRest(x *api.Instr) {
	if r.Now.Text == ";" {
		return
	}
	r.phiArg(x)
	for r.Accept(",") {
		r.phiArg(x)
	}
}

func (r *reader) phiArg(x *api.Instr) {
	x.From = append(x.From, r.numbered('b'))
	r.Expect(":")
	x.Args = append(x.Args, r.opd())
}
