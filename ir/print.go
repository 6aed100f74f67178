package ir

import (
	"strconv"

	"cupel/api"
	"cupel/texts"
)

// Print returns the canonical text.
func Print(m api.Module) (string, api.Errno) {
	if e := Check(m); e != api.OK {
		return "", e
	}
	w := &writer{m: m}
	for _, c := range m.Cells {
		w.put("cell ", c.Name, " = ", strconv.FormatInt(c.Init, 10), ";\n")
	}
	for _, a := range m.Arrays {
		w.put("array ", a.Name, sizeText(a.Len, a.Small), ";\n")
	}
	w.put("main ", m.Funcs[m.Main].Name, ";\n")
	for _, f := range m.Funcs {
		w.function(f)
	}
	return string(w.text), api.OK
}

// writer writes the canonical text of a valid module.
type writer struct {
	m    api.Module
	text []byte
}

func (w *writer) put(texts ...string) {
	for _, t := range texts {
		w.text = append(w.text, t...)
	}
}

func sizeText(length int, small bool) string {
	text := "[" + strconv.Itoa(length) + "]"
	if small {
		text += " small"
	}
	return text
}

func (w *writer) function(f api.IFunc) {
	w.put("func ", f.Name, " params ", strconv.Itoa(f.Params), " regs ", strconv.Itoa(f.Regs))
	if f.Result {
		w.put(" result")
	}
	w.put(" {\n")
	for _, a := range f.Arrays {
		w.put("\t", w.arrayText(a), ";\n")
	}
	for i, b := range f.Blocks {
		w.put("\t", numberedText("b", i), ":\n")
		for _, x := range b.Code {
			w.put("\t\t")
			w.instr(x)
			w.put(";\n")
		}
		w.put("\t\t", endText(b.End, f.Result), ";\n")
	}
	w.put("}\n")
}

func (w *writer) arrayText(a api.Array) string {
	switch a.Kind {
	case api.AyLocal:
		return "local" + sizeText(a.Len, a.Small)
	case api.AyParam:
		return "param" + sizeText(a.Len, a.Small)
	}
	return "global " + w.m.Arrays[a.Global].Name
}

func endText(t api.Term, result bool) string {
	switch {
	case t.Op == api.TmJump:
		return "jump " + numberedText("b", t.To)
	case t.Op == api.TmBranch:
		return "branch " + opdText(t.A) + ", " + numberedText("b", t.To) + ", " + numberedText("b", t.Else)
	case t.Op == api.TmReturn && result:
		return "return " + opdText(t.A)
	case t.Op == api.TmReturn:
		return "return"
	}
	return "trap"
}

func numberedText(letter string, n int) string { return letter + strconv.Itoa(n) }

func opdText(o api.Opd) string {
	if o.Reg < 0 {
		return strconv.FormatInt(o.Imm, 10)
	}
	return numberedText("r", o.Reg)
}

func (w *writer) instr(x api.Instr) {
	if x.To >= 0 {
		w.put(numberedText("r", x.To), " = ")
	}
	switch x.Op {
	case api.IxCopy:
		w.put(opdText(x.A))
	case api.IxBin:
		w.put(texts.Operation(x.Kind), " ", opdText(x.A), ", ", opdText(x.B))
	case api.IxCheck:
		w.put("check ", opdText(x.A), ", ", opdText(x.B))
	case api.IxLoad:
		w.put("load ", elementText(x))
	case api.IxStore:
		w.put("store ", elementText(x), " = ", opdText(x.B))
	case api.IxGet:
		w.put("get ", numberedText("c", x.Cell))
	case api.IxPut:
		w.put("put ", numberedText("c", x.Cell), " = ", opdText(x.A))
	case api.IxPrint:
		w.put("print ", opdText(x.A))
	case api.IxCall:
		w.call(x)
	case api.IxPhi:
		w.phi(x)
	}
}

func elementText(x api.Instr) string {
	return numberedText("a", x.Array) + "[" + opdText(x.A) + "]"
}

func (w *writer) call(x api.Instr) {
	w.put("call ", w.m.Funcs[x.Func].Name, "(")
	for i, o := range x.Args {
		if i > 0 {
			w.put(", ")
		}
		w.put(opdText(o))
	}
	for i, a := range x.Arrays {
		if i > 0 {
			w.put(", ")
		} else {
			w.put("; ")
		}
		w.put(numberedText("a", a))
	}
	w.put(")")
}

func (w *writer) phi(x api.Instr) {
	w.put("phi")
	for i, o := range x.Args {
		if i > 0 {
			w.put(",")
		}
		w.put(" ", numberedText("b", x.From[i]), ": ", opdText(o))
	}
}
