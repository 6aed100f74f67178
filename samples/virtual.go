package samples

import (
	"strconv"
	"strings"

	"cupel/api"
	"cupel/texts"
)

// VirtualOp is an operation of virtual code: its Op, its word in texts, and the fields that it names, in the order of texts: the registers D, A and B, and I, which is Imm.
type VirtualOp struct {
	Op           int
	Word, Fields string
}

// VirtualOps returns all operations of virtual code.
func VirtualOps() []VirtualOp {
	list := []VirtualOp{
		{api.VcMove, "move", "DA"},
		{api.VcSet, "set", "DI"},
		{api.VcLoad, "load", "DIA"},
		{api.VcStore, "store", "IAB"},
		{api.VcLocal, "local", "DI"},
		{api.VcCheck, "check", "AB"},
		{api.VcCheckI, "checki", "AI"},
		{api.VcPrint, "print", "A"},
		{api.VcParam, "param", "DI"},
		{api.VcArg, "arg", "IA"},
		{api.VcCall, "call", "I"},
		{api.VcResult, "result", "D"},
		{api.VcZero, "zero", "AI"},
		{api.VcJump, "jump", "I"},
		{api.VcReturn, "return", "A"},
		{api.VcTrap, "trap", ""},
	}
	for kind := api.IbAdd; kind <= api.IbLe; kind++ {
		word := texts.Operation(kind)
		list = append(list, VirtualOp{api.VcBin + kind, word, "DAB"}, VirtualOp{api.VcBinI + kind, word + "i", "DAI"})
	}
	return list
}

// VirtualText writes valid virtual code, as in
//
//	words 1; data 5; main 0;
//	func args 0 regs 2 locals 3 { b0: set r0, 0; load r1, 0, r0; print r1; jump 1; b1: return; }
func VirtualText(v api.VCode) string {
	text := "words " + strconv.Itoa(v.Words) + "; data"
	for _, d := range v.Data {
		text += " " + strconv.FormatInt(d, 10)
	}
	text += "; main " + strconv.Itoa(v.Main) + ";"
	for _, f := range v.Funcs {
		text += "\nfunc args " + strconv.Itoa(f.Args) + " regs " + strconv.Itoa(f.Regs) + " locals"
		for _, length := range f.Locals {
			text += " " + strconv.Itoa(length)
		}
		text += " {"
		for b, list := range f.Blocks {
			text += "\n\tb" + strconv.Itoa(b) + ": " + VirtualCode(list...)
		}
		text += "\n}"
	}
	return text
}

// VirtualCode writes instructions.
func VirtualCode(list ...api.VInstr) string {
	words := map[int]VirtualOp{}
	for _, o := range VirtualOps() {
		words[o.Op] = o
	}
	var text strings.Builder
	for i, x := range list {
		if i > 0 {
			text.WriteString(" ")
		}
		text.WriteString(virtualInstr(words[x.Op], x))
	}
	return text.String()
}

func virtualInstr(o VirtualOp, x api.VInstr) string {
	var fields []string
	for _, field := range o.Fields {
		switch {
		case field == 'I':
			fields = append(fields, strconv.FormatInt(x.Imm, 10))
		case *registerOf(&x, field) >= 0:
			fields = append(fields, "r"+strconv.Itoa(*registerOf(&x, field)))
		}
	}
	text := o.Word
	if len(fields) > 0 {
		text += " " + strings.Join(fields, ", ")
	}
	return text + ";"
}

func registerOf(x *api.VInstr, field rune) *int {
	switch field {
	case 'D':
		return &x.D
	case 'A':
		return &x.A
	}
	return &x.B
}

// ReadVirtual returns the virtual code of a text, as VirtualText writes it; it need not be valid otherwise.
func ReadVirtual(t T, text string) api.VCode {
	t.Helper()
	words := map[string]VirtualOp{}
	for _, o := range VirtualOps() {
		words[o.Word] = o
	}
	r := virtualReader{T: t, tokens: LineOf(strings.NewReplacer("\n", " ", "\t", " ", "{", " ", "}", " ").Replace(text)).Words}
	r.want("words")
	v := api.VCode{Words: int(r.number())}
	r.want("data")
	v.Data = r.numbers()
	r.want("main")
	v.Main = int(r.number())
	for len(r.tokens) > 0 {
		v.Funcs = append(v.Funcs, r.function(words))
	}
	return v
}

// virtualReader reads the tokens of virtual code, one after the other.
type virtualReader struct {
	T
	tokens []string
}

// peek returns the next token, or nothing at the end.
func (r *virtualReader) peek() string {
	if len(r.tokens) == 0 {
		return ""
	}
	return r.tokens[0]
}

// next takes the next token, if it is what is wanted.
func (r *virtualReader) next(what string, isWanted bool) string {
	token := r.peek()
	if token == "" || !isWanted {
		r.Fatalf("virtual code has %q, not %s", token, what)
	}
	r.tokens = r.tokens[1:]
	return token
}

func (r *virtualReader) want(word string) { r.next(word, r.peek() == word) }

func (r *virtualReader) isNumber() bool {
	_, wrong := strconv.ParseInt(r.peek(), 10, 64)
	return wrong == nil
}

func (r *virtualReader) number() int64 {
	n, _ := strconv.ParseInt(r.next("a number", r.isNumber()), 10, 64)
	return n
}

// numbers reads as many as there are.
func (r *virtualReader) numbers() []int64 {
	var list []int64
	for r.isNumber() {
		list = append(list, r.number())
	}
	return list
}

func (r *virtualReader) isRegister() bool {
	digits, is := strings.CutPrefix(r.peek(), "r")
	return is && number(digits, -1) >= 0
}

func (r *virtualReader) register() int {
	return number(r.next("a register", r.isRegister())[1:], -1)
}

func (r *virtualReader) function(words map[string]VirtualOp) api.VFunc {
	var f api.VFunc
	r.want("func")
	r.want("args")
	f.Args = int(r.number())
	r.want("regs")
	f.Regs = int(r.number())
	r.want("locals")
	for _, length := range r.numbers() {
		f.Locals = append(f.Locals, int(length))
	}
	for r.peek() != "" && r.peek() != "func" {
		r.want("b" + strconv.Itoa(len(f.Blocks)))
		f.Blocks = append(f.Blocks, r.block(words))
	}
	return f
}

func (r *virtualReader) block(words map[string]VirtualOp) []api.VInstr {
	var list []api.VInstr
	for {
		o, known := words[r.peek()]
		if !known {
			return list
		}
		r.want(o.Word)
		list = append(list, r.instr(o))
	}
}

func (r *virtualReader) instr(o VirtualOp) api.VInstr {
	x := api.VInstr{Op: o.Op, D: -1, A: -1, B: -1}
	for _, field := range o.Fields {
		switch {
		case field == 'I':
			x.Imm = r.number()
		case o.Op == api.VcReturn && !r.isRegister(): // nothing is returned
		default:
			*registerOf(&x, field) = r.register()
		}
	}
	return x
}
