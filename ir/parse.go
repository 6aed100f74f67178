package ir

import (
	"math"

	"cupel/api"
	"cupel/texts"
)

const (
	mostText   = 60000 // bytes
	mostNumber = 1000  // in heads, lengths, and words like r7
)

// tokens returns what a text of a module consists of.
func tokens() texts.Tokens {
	const letters = texts.SmallLetters + "ABCDEFGHIJKLMNOPQRSTUVWXYZ"
	return texts.Tokens{First: letters, Next: letters + texts.Digits + "_", Signs: "=,;:()[]{}"}
}

// Parse reads a module; with an error it returns the place of the token that is wrong, or of the name.
func Parse(text string) (api.Module, int, api.Errno) {
	if len(text) > mostText {
		return api.Module{}, 0, api.ErrLong
	}
	r := newReader(text)
	var m api.Module
	if !r.Reads(func() { m = r.module() }) {
		return api.Module{}, r.Now.At, api.ErrForm
	}
	if at, e := r.link(&m); e != api.OK {
		return api.Module{}, at, e
	}
	if e := Check(m); e != api.OK {
		return api.Module{}, 0, e
	}
	return m, 0, api.OK
}

// reader reads the text of a module.
type reader struct {
	texts.Reader
	values, actions      map[string]operation
	cells, arrays, funcs names
	uses                 []use
	twice                []int // places of names that are declared again
}

func newReader(text string) *reader {
	return &reader{
		Reader:  tokens().Reader(text),
		values:  valueWords(),
		actions: actionWords(),
		cells:   names{},
		arrays:  names{},
		funcs:   names{},
	}
}

func (r *reader) module() api.Module {
	var m api.Module
	for r.Accept("cell") {
		m.Cells = append(m.Cells, r.cell())
	}
	for r.Accept("array") {
		m.Arrays = append(m.Arrays, r.globalArray())
	}
	r.Expect("main")
	m.Main = r.use(r.funcs)
	r.Expect(";")
	for r.Accept("func") {
		m.Funcs = append(m.Funcs, r.function())
	}
	r.ExpectEnd()
	return m
}

func (r *reader) integer() int64 { return r.Integer(math.MinInt64, math.MaxInt64) }

func (r *reader) number() int { return int(r.Integer(0, mostNumber)) }

// numbered reads a word that consists of a letter and a number.
func (r *reader) numbered(letter byte) int { return r.Numbered(letter, mostNumber) }

func (r *reader) cell() api.Cell {
	c := api.Cell{Name: r.declare(r.cells)}
	r.Expect("=")
	c.Init = r.integer()
	r.Expect(";")
	return c
}

func (r *reader) globalArray() api.GArray {
	a := api.GArray{Name: r.declare(r.arrays)}
	a.Len, a.Small = r.size()
	r.Expect(";")
	return a
}

func (r *reader) size() (length int, small bool) {
	r.Expect("[")
	length = r.number()
	r.Expect("]")
	return length, r.Accept("small")
}
