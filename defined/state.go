package defined

import (
	"maps"

	"cupel/api"
	"cupel/ranges"
)

// state is what is known of the visible variables. It is replaced, never changed. A nil state is dead: the place is not reached.
type state map[string]variable

// variable is a scalar with the range of its value, or an array with one range for all its elements.
type variable struct {
	api.Type
	r api.Range
}

func (s state) dead() bool { return s == nil }

// with returns a state that is not dead with one variable more, or with another one of this name.
func (s state) with(name string, v variable) state {
	t := maps.Clone(s)
	t[name] = v
	return t
}

// holding returns a state that is not dead with another range of a variable.
func (s state) holding(name string, r api.Range) state {
	return s.with(name, variable{s[name].Type, r})
}

// within returns the state without the variables that are not in an outer one.
func (s state) within(outer state) state {
	t := maps.Clone(s)
	maps.DeleteFunc(t, func(name string, _ variable) bool {
		_, found := outer[name]
		return !found
	})
	return t
}

// together returns the state that stands for all of these.
func together(list ...state) state {
	var all state
	for _, s := range list {
		switch {
		case s.dead():
		case all.dead():
			all = s
		default:
			all = all.join(s)
		}
	}
	return all
}

// join puts two states together that are not dead.
func (s state) join(other state) state {
	both := state{}
	for name, v := range s {
		if w, found := other[name]; found {
			both[name] = variable{v.Type, join(v.r, w.r)}
		}
	}
	return both
}

// widened returns the state with the whole ranges of those variables that are not as they were before.
func (s state) widened(before state) state {
	wide := state{}
	for name, v := range s {
		if v != before[name] {
			v.r = full(v.Kind)
		}
		wide[name] = v
	}
	return wide
}

// add adds a range to the others.
func (s *spread) add(r api.Range) {
	if s.some {
		r = join(s.r, r)
	}
	s.r, s.some = r, true
}

func join(a, b api.Range) api.Range {
	r, _ := ranges.Join(a, b)
	return r
}

// full returns the range of all values of a kind, of which there is one.
func full(kind int) api.Range {
	r, _ := ranges.Full(kind)
	return r
}

func single(v int64) api.Range { return api.Range{Low: v, High: v} }
