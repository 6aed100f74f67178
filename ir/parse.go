package ir

import (
	"strconv"

	"cupel/api"
)

const (
	mostText   = 60000 // bytes
	mostNumber = 1000  // in heads, lengths, and words like r7
)

// wrong is what a reader panics with when the current token is one with which no module goes on.
const wrong = "wrong token"

// Parse reads a module; with an error it returns the place of the token that is wrong, or of the name.
func Parse(text string) (api.Module, int, api.Errno) {
	if len(text) > mostText {
		return api.Module{}, 0, api.ErrLong
	}
	r := newReader(text)
	m, e := r.read()
	if e != api.OK {
		return api.Module{}, r.now.at, e
	}
	if at, e := r.link(&m); e != api.OK {
		return api.Module{}, at, e
	}
	if e := Check(m); e != api.OK {
		return api.Module{}, 0, e
	}
	return m, 0, api.OK
}

// reader reads a text token by token; now is the current one, the first that has not been accepted.
type reader struct {
	text                 string
	now                  token
	values, actions      map[string]operation
	cells, arrays, funcs names
	uses                 []use
	twice                []int // places of names that are declared again
}

func newReader(text string) *reader {
	return &reader{
		text:    text,
		now:     scan(text, 0),
		values:  valueWords(),
		actions: actionWords(),
		cells:   names{},
		arrays:  names{},
		funcs:   names{},
	}
}

func (r *reader) read() (m api.Module, e api.Errno) {
	defer func() {
		if recover() != nil {
			m, e = api.Module{}, api.ErrForm
		}
	}()
	for r.accept("cell") {
		m.Cells = append(m.Cells, r.cell())
	}
	for r.accept("array") {
		m.Arrays = append(m.Arrays, r.globalArray())
	}
	r.expect("main")
	m.Main = r.use(r.funcs)
	r.expect(";")
	for r.accept("func") {
		m.Funcs = append(m.Funcs, r.function())
	}
	if r.now.kind != tokenEnd {
		panic(wrong)
	}
	return m, api.OK
}

// take accepts the current token, whatever it is.
func (r *reader) take() token {
	t := r.now
	r.now = scan(r.text, t.at+len(t.text))
	return t
}

func (r *reader) accept(text string) bool {
	if r.now.text != text {
		return false
	}
	r.take()
	return true
}

func (r *reader) expect(text string) {
	if !r.accept(text) {
		panic(wrong)
	}
}

func (r *reader) integer() int64 {
	if r.now.kind != tokenInteger {
		panic(wrong)
	}
	return r.take().value
}

func (r *reader) number() int {
	if r.now.kind != tokenInteger || r.now.value < 0 || r.now.value > mostNumber {
		panic(wrong)
	}
	return int(r.take().value)
}

// numbered reads a word that consists of a letter and a number.
func (r *reader) numbered(letter byte) int {
	n, ok := numberBehind(letter, r.now)
	if !ok {
		panic(wrong)
	}
	r.take()
	return n
}

func numberBehind(letter byte, t token) (int, bool) {
	if t.kind != tokenWord || t.text[0] != letter {
		return 0, false
	}
	n, err := strconv.Atoi(t.text[1:])
	if err != nil || n > mostNumber || strconv.Itoa(n) != t.text[1:] {
		return 0, false
	}
	return n, true
}

func (r *reader) cell() api.Cell {
	c := api.Cell{Name: r.declare(r.cells)}
	r.expect("=")
	c.Init = r.integer()
	r.expect(";")
	return c
}

func (r *reader) globalArray() api.GArray {
	a := api.GArray{Name: r.declare(r.arrays)}
	a.Len, a.Small = r.size()
	r.expect(";")
	return a
}

func (r *reader) size() (length int, small bool) {
	r.expect("[")
	length = r.number()
	r.expect("]")
	return length, r.accept("small")
}
