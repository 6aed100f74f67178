package ir

import (
	"cupel/api"
	"cupel/texts"
)

// names are those that are declared of cells, of arrays or of functions, each with its index.
type names map[string]int

// use is a name that is used, and where.
type use struct {
	of   names
	name string
	at   int
}

func isNameToken(t texts.Token) bool { return t.Kind == texts.Word && len(t.Text) <= api.MaxIName }

func (r *reader) name() texts.Token {
	r.Require(isNameToken(r.Now))
	return r.Take()
}

func (r *reader) declare(of names) string {
	t := r.name()
	if _, known := of[t.Text]; known {
		r.twice = append(r.twice, t.At)
	} else {
		of[t.Text] = len(of)
	}
	return t.Text
}

// use reads a name that may be declared later. It returns the index of the use, which stands for what is named until link.
func (r *reader) use(of names) int {
	t := r.name()
	r.uses = append(r.uses, use{of: of, name: t.Text, at: t.At})
	return len(r.uses) - 1
}

// link puts the indices of what is named instead of those of the uses.
func (r *reader) link(m *api.Module) (int, api.Errno) {
	if len(r.twice) > 0 {
		return r.twice[0], api.ErrTwice
	}
	found := make([]int, len(r.uses))
	for i, u := range r.uses {
		index, known := u.of[u.name]
		if !known {
			return u.at, api.ErrNone
		}
		found[i] = index
	}
	m.Main = found[m.Main]
	for _, f := range m.Funcs {
		linkFunc(f, found)
	}
	return 0, api.OK
}

func linkFunc(f api.IFunc, found []int) {
	for i := range f.Arrays {
		if a := &f.Arrays[i]; a.Kind == api.AyGlobal {
			a.Global = found[a.Global]
		}
	}
	for _, b := range f.Blocks {
		for i := range b.Code {
			if x := &b.Code[i]; x.Op == api.IxCall {
				x.Func = found[x.Func]
			}
		}
	}
}
