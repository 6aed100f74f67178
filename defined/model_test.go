package defined_test

import (
	"fmt"
	"maps"

	"cupel/api"
	"cupel/ranges"
	"cupel/syntax"
	"cupel/types"
)

// The model goes through programs a second time, from the words of the chapter: states are handed on from node to node, a statement leads to four of them, and what is found out is kept by the texts of paths.
type model struct {
	p                 api.Program
	kinds             map[string]int // of expressions
	visits            int
	traps, undefineds map[string]bool
	yielded           map[string]api.Range
}

// known is a state: ranges by the names of variables. Nil is dead.
type known map[string]api.Range

// leads is where a statement leads, and the range of what its returns give: its own or none.
type leads struct {
	after, breaks, continues, returns known
	results                           []api.Range
}

const tooMany = "more than MaxVisits visits"

func newModel(p api.Program) *model {
	return &model{p: p, kinds: map[string]int{}, traps: map[string]bool{}, undefineds: map[string]bool{}, yielded: map[string]api.Range{}}
}

// run goes through the program, and reports whether that ends with ErrLong.
func (m *model) run() (long bool) {
	defer func() {
		if r := recover(); r == tooMany {
			long = true
		} else if r != nil {
			panic(r)
		}
	}()
	begin := known{}
	for _, g := range m.p.Globals {
		begin[g.Name] = one(g.Init)
	}
	m.enter("main", begin)
	return false
}

// proof is the proof that follows from what was found out.
func (m *model) proof() api.Proof {
	x := api.Proof{Defined: len(m.undefineds) == 0}
	for _, path := range paths(m.p) {
		if m.traps[fmt.Sprint(path)] {
			x.Traps = append(x.Traps, path)
		}
		if m.undefineds[fmt.Sprint(path)] && x.At == nil {
			x.At = path
		}
	}
	return x
}

func (m *model) visit() {
	if m.visits++; m.visits == api.MaxVisits+1 {
		panic(tooMany)
	}
}

func (m *model) yield(path []int, r api.Range) {
	if before, ok := m.yielded[fmt.Sprint(path)]; ok {
		r = around(before, r)
	}
	m.yielded[fmt.Sprint(path)] = r
}

func (m *model) kindOf(path []int) int {
	k := fmt.Sprint(path)
	if m.kinds[k] == 0 {
		t, _ := types.TypeOf(m.p, path)
		m.kinds[k] = t.Kind
	}
	return m.kinds[k]
}

// typeOf returns the type of a variable that is visible at the place of a statement.
func (m *model) typeOf(name string, path []int) api.Type {
	names, _ := types.Names(m.p, path)
	for _, k := range names {
		if k.Name == name {
			return k.Type
		}
	}
	panic("no variable " + name)
}

func one(n int64) api.Range { return api.Range{Low: n, High: n} }

func whole(kind int) api.Range {
	r, _ := ranges.Full(kind)
	return r
}

func around(a, b api.Range) api.Range {
	return api.Range{Low: min(a.Low, b.Low), High: max(a.High, b.High)}
}

func (s known) but(name string, r api.Range) known {
	t := maps.Clone(s)
	t[name] = r
	return t
}

func both(s, t known) known {
	if s == nil || t == nil {
		return maps.Clone(append([]known{s, t}, nil)[map[bool]int{true: 1, false: 0}[s == nil]])
	}
	all := known{}
	for name := range s {
		if r, ok := t[name]; ok {
			all[name] = around(s[name], r)
		}
	}
	return all
}

// keep leaves out variables that are not in another state.
func (s known) keep(outside known) known {
	if s == nil {
		return nil
	}
	t := known{}
	for name := range outside {
		t[name] = s[name]
	}
	return t
}

// enter goes through a function; it returns its end, and what it returns.
func (m *model) enter(name string, begin known) (known, api.Range) {
	for f, fn := range m.p.Funcs {
		if fn.Name == name {
			m.visit()
			l := m.list(fn.Body, []int{f}, begin)
			var result api.Range
			for i, r := range l.results {
				if result = around(result, r); i == 0 {
					result = r
				}
			}
			return both(l.after, l.returns), result
		}
	}
	panic("no function " + name)
}

func (m *model) list(list []api.Stmt, path []int, begin known) leads {
	all := leads{after: begin}
	for i, s := range list {
		if all.after == nil {
			break
		}
		m.visit()
		l := m.stmt(s, under(path, i), all.after)
		all = leads{l.after, both(all.breaks, l.breaks), both(all.continues, l.continues), both(all.returns, l.returns), append(all.results, l.results...)}
	}
	all.after, all.breaks, all.continues, all.returns = all.after.keep(begin), all.breaks.keep(begin), all.continues.keep(begin), all.returns.keep(begin)
	return all
}

func (m *model) stmt(s api.Stmt, path []int, in known) leads {
	switch s.Kind {
	case api.StIf:
		yes, no := m.divide(s.Exprs[0], under(path, 2), in)
		then, other := m.list(s.Body, under(path, 0), yes), m.list(s.Else, under(path, 1), no)
		return leads{both(then.after, other.after), both(then.breaks, other.breaks), both(then.continues, other.continues), both(then.returns, other.returns), append(then.results, other.results...)}
	case api.StWhile:
		return m.while(s, path, in)
	case api.StFor:
		return m.count(s, path, in)
	}
	var values []api.Range
	for k, x := range s.Exprs {
		var r api.Range
		r, in = m.eval(x, under(path, 2+k), in)
		values = append(values, r)
	}
	if in == nil {
		return leads{}
	}
	switch s.Kind {
	case api.StTrap:
		m.traps[fmt.Sprint(path)] = true
		return leads{}
	case api.StBreak:
		return leads{breaks: in}
	case api.StContinue:
		return leads{continues: in}
	case api.StReturn:
		return leads{returns: in, results: values}
	case api.StLet:
		if s.Type.Len > 0 {
			values = []api.Range{one(0)}
		}
		in = in.but(s.Name, append(values, whole(s.Type.Kind))[0])
	case api.StSet:
		in = in.but(s.Name, values[0])
	case api.StPut:
		if !m.inside(values[0], m.typeOf(s.Name, path).Len, path) {
			return leads{}
		}
		in = in.but(s.Name, around(in[s.Name], values[1]))
	}
	return leads{after: in}
}

// inside reports whether a range has an index of an array; if it has others, the place may trap.
func (m *model) inside(index api.Range, length int, path []int) bool {
	if index.Low < 0 || index.High >= int64(length) {
		m.traps[fmt.Sprint(path)] = true
	}
	return index.High >= 0 && index.Low < int64(length)
}

// rounds goes through a loop, whose rounds begin as begin says with the state before them; it returns the state before the last one, and what its Body led to in all of them.
func (m *model) rounds(s api.Stmt, path []int, before known, begin func(known) known) (known, leads) {
	var all leads
	for n := 0; ; n++ {
		l := m.list(s.Body, under(path, 0), begin(before))
		all.breaks, all.returns, all.results = both(all.breaks, l.breaks), both(all.returns, l.returns), append(all.results, l.results...)
		next := both(before, both(l.after, l.continues))
		changed := known{}
		for name := range before {
			if next[name] != before[name] {
				changed[name] = whole(m.typeOf(name, path).Kind)
			}
		}
		if len(changed) == 0 {
			all.breaks = all.breaks.keep(before)
			return before, all
		}
		if before = next.keep(before); n >= 2 {
			maps.Copy(before, changed)
		}
	}
}

func (m *model) while(s api.Stmt, path []int, in known) leads {
	var yes, no known
	_, all := m.rounds(s, path, in, func(before known) known {
		yes, no = m.divide(s.Exprs[0], under(path, 2), before)
		return yes
	})
	return leads{after: both(both(yes, no), all.breaks), returns: all.returns, results: all.results}
}

func (m *model) count(s api.Stmt, path []int, in known) leads {
	from, in := m.eval(s.Exprs[0], under(path, 2), in)
	to, in := m.eval(s.Exprs[1], under(path, 3), in)
	if in == nil || to.High <= from.Low {
		return leads{after: in}
	}
	last, all := m.rounds(s, path, in, func(before known) known {
		return before.but(s.Name, api.Range{Low: from.Low, High: to.High - 1})
	})
	return leads{after: both(last, all.breaks), returns: all.returns.keep(in), results: all.results}
}

// eval goes through an expression, unless the state is dead; it returns its range, and the state after it.
func (m *model) eval(x api.Expr, path []int, in known) (api.Range, known) {
	if in == nil {
		return api.Range{}, nil
	}
	m.visit()
	r, out := m.value(x, path, in)
	if out != nil {
		m.yield(path, r)
	}
	return r, out
}

func (m *model) value(x api.Expr, path []int, in known) (api.Range, known) {
	switch x.Kind {
	case api.ExName:
		return in[x.Name], in
	case api.ExCall:
		return m.call(x, path, in)
	case api.ExIndex:
		i, out := m.eval(x.Args[0], under(path, 0), in)
		if out == nil || !m.inside(i, m.lengthOf(x.Name, path), path) {
			return api.Range{}, nil
		}
		return out[x.Name], out
	case api.ExBinary:
		return m.binary(x, path, in)
	case api.ExInt, api.ExSmall, api.ExBool:
		return one(x.Int), in
	}
	r, out := m.eval(x.Args[0], under(path, 0), in)
	switch x.Kind {
	case api.ExUnary:
		r, _ = ranges.Unary(x.Op, m.kindOf(path), r)
	case api.ExToSmall:
		r, _ = ranges.ToSmall(r)
	}
	return r, out
}

// lengthOf returns the length of an array that is named in an expression.
func (m *model) lengthOf(name string, path []int) int { return m.typeOf(name, path).Len }

func (m *model) binary(x api.Expr, path []int, in known) (api.Range, known) {
	if x.Op == api.BiLand || x.Op == api.BiLor {
		m.visits-- // to divide it is the same visit
		yes, no := m.divide(x, path, in)
		return truth(yes, no), both(yes, no)
	}
	a, in := m.eval(x.Args[0], under(path, 0), in)
	b, in := m.eval(x.Args[1], under(path, 1), in)
	if in == nil {
		return api.Range{}, nil
	}
	effect, _ := ranges.Binary(x.Op, m.kindOf(under(path, 0)), a, b)
	if effect.Trap {
		m.traps[fmt.Sprint(path)] = true
	}
	if effect.Undefined {
		m.undefineds[fmt.Sprint(path)] = true
	}
	if !effect.Some {
		return api.Range{}, nil
	}
	return effect.R, in
}

func truth(yes, no known) api.Range {
	r := api.Range{Low: 0, High: 1}
	if yes == nil {
		r.High = 0
	} else if no == nil {
		r.Low = 1
	}
	return r
}

func (m *model) call(x api.Expr, path []int, in known) (api.Range, known) {
	values := make([]api.Range, len(x.Args))
	for i, arg := range x.Args {
		values[i], in = m.eval(arg, under(path, i), in)
	}
	if in == nil {
		return api.Range{}, nil
	}
	begin, arrays := known{}, map[string]string{} // the caller's names of arrays, by those of parameters
	for _, g := range m.p.Globals {
		begin[g.Name] = in[g.Name]
	}
	for _, f := range m.p.Funcs {
		for i, p := range f.Params {
			if f.Name == x.Name && p.Type.Len > 0 {
				arrays[p.Name] = x.Args[i].Name
				begin[p.Name] = in[x.Args[i].Name]
			} else if f.Name == x.Name {
				begin[p.Name] = values[i]
			}
		}
	}
	end, result := m.enter(x.Name, begin)
	if end == nil {
		return api.Range{}, nil
	}
	for _, g := range m.p.Globals {
		in = in.but(g.Name, end[g.Name])
	}
	for param, array := range arrays {
		in = in.but(array, end[param])
	}
	return result, in
}

// divide divides a condition, unless the state is dead, into the states in which it is true, and is not.
func (m *model) divide(x api.Expr, path []int, in known) (yes, no known) {
	if in == nil {
		return nil, nil
	}
	m.visit()
	switch {
	case x.Kind == api.ExUnary:
		no, yes = m.divide(x.Args[0], under(path, 0), in)
	case x.Kind != api.ExBinary:
		r, out := m.value(x, path, in)
		if out != nil && r.High > 0 {
			yes = out
		}
		if out != nil && r.Low < 1 {
			no = out
		}
		if x.Kind == api.ExName && yes != nil {
			yes = yes.but(x.Name, one(1))
		}
		if x.Kind == api.ExName && no != nil {
			no = no.but(x.Name, one(0))
		}
	case x.Op == api.BiLand:
		first, otherwise := m.divide(x.Args[0], under(path, 0), in)
		yes, no = m.divide(x.Args[1], under(path, 1), first)
		no = both(otherwise, no)
	case x.Op == api.BiLor:
		otherwise, first := m.divide(x.Args[0], under(path, 0), in)
		yes, no = m.divide(x.Args[1], under(path, 1), first)
		yes = both(otherwise, yes)
	default:
		yes, no = m.compare(x, path, in)
	}
	if yes != nil || no != nil {
		m.yield(path, truth(yes, no))
	}
	return yes, no
}

func (m *model) compare(x api.Expr, path []int, in known) (yes, no known) {
	left, right := x.Args[0], x.Args[1]
	a, in := m.eval(left, under(path, 0), in)
	b, in := m.eval(right, under(path, 1), in)
	if in == nil {
		return nil, nil
	}
	leave := func(isTrue bool) known {
		first, second, possible, _ := ranges.Assume(x.Op, m.kindOf(under(path, 0)), a, b, isTrue)
		if !possible {
			return nil
		}
		out := in
		if left.Kind == api.ExName && !m.callsBelow(under(path, 1)) {
			out = out.but(left.Name, first)
		}
		if right.Kind == api.ExName {
			out = out.but(right.Name, second)
		}
		return out
	}
	return leave(true), leave(false)
}

// callsBelow reports whether an ExCall is at a path or below it.
func (m *model) callsBelow(path []int) bool {
	for _, other := range paths(m.p) {
		if len(other) >= len(path) && fmt.Sprint(other[:len(path)]) == fmt.Sprint(path) {
			if n, _ := syntax.At(m.p, other); n.Expr.Kind == api.ExCall {
				return true
			}
		}
	}
	return false
}
