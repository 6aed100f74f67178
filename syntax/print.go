package syntax

import (
	"slices"
	"strconv"

	"cupel/api"
)

// Print returns the canonical text.
func Print(p api.Program) (string, api.Errno) {
	if e := Check(p); e != api.OK {
		return "", e
	}
	return string(write(p).text), api.OK
}

// Spans returns for each node, in order, its place in the canonical text.
func Spans(p api.Program) ([]api.Span, api.Errno) {
	if e := Check(p); e != api.OK {
		return nil, e
	}
	return write(p).spans, api.OK
}

// writer writes the canonical text and keeps the spans of the nodes; path is that of the node that is being written.
type writer struct {
	text  []byte
	path  []int
	spans []api.Span
}

func write(p api.Program) *writer {
	w := &writer{}
	for _, g := range p.Globals {
		w.global(g)
	}
	for i, f := range p.Funcs {
		span := w.enter(i)
		w.function(f)
		w.leave(span, 1)
		w.put("\n")
	}
	return w
}

func (w *writer) put(texts ...string) {
	for _, t := range texts {
		w.text = append(w.text, t...)
	}
}

// enter begins the node to which the steps lead, and returns the index of its span.
func (w *writer) enter(steps ...int) int {
	w.path = append(w.path, steps...)
	w.spans = append(w.spans, api.Span{Path: slices.Clone(w.path), From: len(w.text)})
	return len(w.spans) - 1
}

// leave ends the node of a span, to which so many steps led.
func (w *writer) leave(span, steps int) {
	w.spans[span].To = len(w.text)
	w.path = w.path[:len(w.path)-steps]
}

func (w *writer) global(g api.Global) {
	w.put("global ", g.Name, ": ", typeText(g.Type))
	if g.Init != 0 {
		w.put(" = ", initText(g))
	}
	w.put(";\n")
}

func initText(g api.Global) string {
	switch g.Type.Kind {
	case api.TySmall:
		return strconv.FormatInt(g.Init, 10) + "s"
	case api.TyBool:
		return "true"
	}
	return strconv.FormatInt(g.Init, 10)
}

func typeText(t api.Type) string {
	if t.Len == 0 {
		return typeWords[t.Kind]
	}
	return typeWords[t.Kind] + "[" + strconv.Itoa(t.Len) + "]"
}

func (w *writer) function(f api.Func) {
	w.put("func ", f.Name, "(")
	for i, p := range f.Params {
		if i > 0 {
			w.put(", ")
		}
		w.put(p.Name, ": ", typeText(p.Type))
	}
	w.put(")")
	if f.Result != 0 {
		w.put(": ", typeWords[f.Result])
	}
	w.put(" {\n")
	for i, s := range f.Body {
		w.line(s, 1, i)
	}
	w.put("}")
}

// line writes a statement, to which the steps lead, in lines of its own.
func (w *writer) line(s api.Stmt, tabs int, steps ...int) {
	w.indent(tabs)
	span := w.enter(steps...)
	w.stmt(s, tabs)
	w.leave(span, len(steps))
	w.put("\n")
}

func (w *writer) indent(tabs int) {
	for range tabs {
		w.put("\t")
	}
}

func (w *writer) stmt(s api.Stmt, tabs int) {
	switch s.Kind {
	case api.StLet:
		w.letStmt(s)
	case api.StSet:
		w.put(s.Name, " = ")
		w.expr(s.Exprs[0], 2)
	case api.StPut:
		w.put(s.Name, "[")
		w.expr(s.Exprs[0], 2)
		w.put("] = ")
		w.expr(s.Exprs[1], 3)
	case api.StCall:
		w.expr(s.Exprs[0], 2)
	case api.StPrint:
		w.put("print ")
		w.expr(s.Exprs[0], 2)
	case api.StTrap:
		w.put("trap")
	case api.StBreak:
		w.put("break")
	case api.StContinue:
		w.put("continue")
	case api.StReturn:
		w.returnStmt(s)
	default:
		w.compound(s, tabs)
		return
	}
	w.put(";")
}

func (w *writer) letStmt(s api.Stmt) {
	w.put("let ", s.Name, ": ", typeText(s.Type))
	if len(s.Exprs) > 0 {
		w.put(" = ")
		w.expr(s.Exprs[0], 2)
	}
}

func (w *writer) returnStmt(s api.Stmt) {
	w.put("return")
	if len(s.Exprs) > 0 {
		w.put(" ")
		w.expr(s.Exprs[0], 2)
	}
}

func (w *writer) compound(s api.Stmt, tabs int) {
	switch s.Kind {
	case api.StIf:
		w.put("if ")
		w.expr(s.Exprs[0], 2)
	case api.StWhile:
		w.put("while ")
		w.expr(s.Exprs[0], 2)
		w.put(" upto ", strconv.Itoa(s.Bound))
	case api.StFor:
		w.put("for ", s.Name, " in ")
		w.expr(s.Exprs[0], 2)
		w.put(" .. ")
		w.expr(s.Exprs[1], 3)
	}
	w.put(" {\n")
	w.block(s.Body, tabs, 0)
	if len(s.Else) > 0 {
		w.put("} else {\n")
		w.block(s.Else, tabs, 1)
	}
	w.put("}")
}

// block writes the statements of a block and the tabs in front of what closes it.
func (w *writer) block(list []api.Stmt, tabs, step int) {
	for i, s := range list {
		w.line(s, tabs+1, step, i)
	}
	w.indent(tabs)
}

func (w *writer) expr(x api.Expr, step int) {
	span := w.enter(step)
	switch x.Kind {
	case api.ExInt:
		w.put(strconv.FormatInt(x.Int, 10))
	case api.ExSmall:
		w.put(strconv.FormatInt(x.Int, 10), "s")
	case api.ExBool:
		w.put(strconv.FormatBool(x.Int == 1))
	case api.ExName:
		w.put(x.Name)
	case api.ExIndex:
		w.put(x.Name, "[")
		w.expr(x.Args[0], 0)
		w.put("]")
	case api.ExCall:
		w.put(x.Name)
		w.enclosed(x.Args)
	case api.ExUnary:
		w.put(unarySigns[x.Op])
		w.operand(x.Args[0], 0, levelOf(x.Args[0]) < levelOperand)
	case api.ExBinary:
		w.binary(x)
	case api.ExToInt:
		w.put("int")
		w.enclosed(x.Args)
	case api.ExToSmall:
		w.put("small")
		w.enclosed(x.Args)
	}
	w.leave(span, 1)
}

func (w *writer) enclosed(args []api.Expr) {
	w.put("(")
	for i, x := range args {
		if i > 0 {
			w.put(", ")
		}
		w.expr(x, i)
	}
	w.put(")")
}

func (w *writer) binary(x api.Expr) {
	level, left, right := levelOf(x), levelOf(x.Args[0]), levelOf(x.Args[1])
	w.operand(x.Args[0], 0, left < level || left == level && level == levelCompare)
	w.put(" ", binaries[x.Op].sign, " ")
	w.operand(x.Args[1], 1, right <= level)
}

func (w *writer) operand(x api.Expr, step int, closed bool) {
	if !closed {
		w.expr(x, step)
		return
	}
	w.put("(")
	w.expr(x, step)
	w.put(")")
}

func levelOf(x api.Expr) int {
	if x.Kind == api.ExBinary {
		return binaries[x.Op].level
	}
	return levelOperand
}
