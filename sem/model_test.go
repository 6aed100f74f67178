package sem_test

import (
	"math/big"
	"slices"

	"cupel/api"
	"cupel/types"
)

// The model runs programs a second time, from the words of the chapter: with numbers of any size, with the types that package types finds, with variables in nested blocks, and with paths that are handed down.

type model struct {
	p     api.Program
	kinds map[string]int // of operands, by the keys of their paths
	steps int
	used  int
	out   []int64
	at    []int // where the statement is whose beginnings are noted
	known []api.Known
	rows  [][]int64
}

// halt is the end of a run; the model panics with it.
type halt struct {
	end, code int
	place     []int
}

// block is the variables of a block; a scalar is a list of one.
type block struct {
	outside *block
	vars    map[string][]*big.Int
}

func (b *block) find(name string) []*big.Int {
	if v, ok := b.vars[name]; ok {
		return v
	}
	return b.outside.find(name)
}

func inside(b *block) *block { return &block{b, map[string][]*big.Int{}} }

func key(path []int) string {
	var b []byte
	for _, step := range path {
		b = append(b, byte(step>>8), byte(step))
	}
	return string(b)
}

func newModel(p api.Program) *model { return &model{p: p, kinds: map[string]int{}} }

// kindOf returns the kind of the expression at a path.
func (m *model) kindOf(path []int) int {
	k := key(path)
	if m.kinds[k] == 0 {
		t, _ := types.TypeOf(m.p, path)
		m.kinds[k] = t.Kind
	}
	return m.kinds[k]
}

// run runs the program with so many steps, and notes the beginnings of the statement at a path.
func (m *model) run(steps int, path []int) (end halt) {
	m.steps, m.used, m.out, m.rows, m.at = steps, 0, nil, nil, path
	m.known, _ = types.Names(m.p, path)
	defer func() {
		switch r := recover().(type) {
		case nil:
		case halt:
			end = r
		default:
			panic(r)
		}
	}()
	globals := inside(nil)
	for _, g := range m.p.Globals {
		globals.vars[g.Name] = fill(g.Type.Len, g.Init)
	}
	m.call("main", inside(globals))
	return halt{end: api.EnDone}
}

func fill(length int, n int64) []*big.Int {
	var list []*big.Int
	for range max(length, 1) {
		list = append(list, big.NewInt(n))
	}
	return list
}

func (m *model) begin(path []int) {
	if m.used == m.steps {
		panic(halt{api.EnSteps, 0, path})
	}
	m.used++
}

// call runs a function, in a block that has its parameters, and returns what it returns.
func (m *model) call(name string, b *block) *big.Int {
	for f, fn := range m.p.Funcs {
		if fn.Name == name {
			_, v := m.list(fn.Body, []int{f}, inside(b))
			return v
		}
	}
	panic("no function " + name)
}

// list runs statements, and returns the kind of the one that did not end normally (0: none), and the value that is returned.
func (m *model) list(list []api.Stmt, path []int, b *block) (int, *big.Int) {
	for i, s := range list {
		if how, v := m.stmt(s, under(path, i), b); how != 0 {
			return how, v
		}
	}
	return 0, nil
}

func under(path []int, step int) []int { return append(append([]int(nil), path...), step) }

func (m *model) note(path []int, b *block) {
	if !slices.Equal(m.at, path) || len(m.rows) == 200 {
		return
	}
	var row []int64
	for _, k := range m.known {
		if k.Set && k.Type.Len == 0 {
			row = append(row, b.find(k.Name)[0].Int64())
		}
	}
	m.rows = append(m.rows, row)
}

func (m *model) stmt(s api.Stmt, path []int, b *block) (how int, result *big.Int) {
	m.begin(path)
	m.note(path, b)
	if s.Kind == api.StFor {
		return m.rounds(s, path, b)
	}
	if s.Kind == api.StWhile {
		return m.while(s, path, b)
	}
	var values []*big.Int
	for k, x := range s.Exprs {
		values = append(values, m.eval(x, under(path, 2+k), b))
	}
	switch s.Kind {
	case api.StLet:
		b.vars[s.Name] = append(values, fill(s.Type.Len, 0)...)[:max(1, s.Type.Len)]
	case api.StSet:
		b.find(s.Name)[0].Set(values[0])
	case api.StPut:
		m.element(s.Name, values[0], path, b).Set(values[1])
	case api.StPrint:
		if len(m.out) == 2000 {
			panic(halt{api.EnSteps, 0, path})
		}
		m.out = append(m.out, values[0].Int64())
	case api.StTrap:
		panic(halt{api.EnTrap, api.TrStated, path})
	case api.StIf:
		if values[0].Sign() != 0 {
			return m.list(s.Body, under(path, 0), inside(b))
		}
		return m.list(s.Else, under(path, 1), inside(b))
	case api.StBreak, api.StContinue, api.StReturn:
		return s.Kind, append(values, nil)[0]
	}
	return 0, nil
}

func (m *model) rounds(s api.Stmt, path []int, b *block) (int, *big.Int) {
	i, end := m.eval(s.Exprs[0], under(path, 2), b), m.eval(s.Exprs[1], under(path, 3), b)
	for ; i.Cmp(end) < 0; i = new(big.Int).Add(i, big.NewInt(1)) {
		m.begin(path)
		round := inside(b)
		round.vars[s.Name] = []*big.Int{i}
		switch how, v := m.list(s.Body, under(path, 0), round); how {
		case api.StBreak:
			return 0, nil
		case api.StReturn:
			return how, v
		}
	}
	return 0, nil
}

func (m *model) while(s api.Stmt, path []int, b *block) (int, *big.Int) {
	for left := s.Bound; ; left-- {
		if m.eval(s.Exprs[0], under(path, 2), b).Sign() == 0 || left == 0 {
			return 0, nil
		}
		switch how, v := m.list(s.Body, under(path, 0), inside(b)); how {
		case api.StBreak:
			return 0, nil
		case api.StReturn:
			return how, v
		}
	}
}

func (m *model) element(name string, index *big.Int, path []int, b *block) *big.Int {
	list := b.find(name)
	if index.Sign() < 0 || index.Cmp(big.NewInt(int64(len(list)))) >= 0 {
		panic(halt{api.EnTrap, api.TrIndex, path})
	}
	return list[index.Int64()]
}

func (m *model) eval(x api.Expr, path []int, b *block) *big.Int {
	m.begin(path)
	switch x.Kind {
	case api.ExInt, api.ExSmall, api.ExBool:
		return big.NewInt(x.Int)
	case api.ExName:
		return new(big.Int).Set(b.find(x.Name)[0])
	case api.ExIndex:
		return new(big.Int).Set(m.element(x.Name, m.eval(x.Args[0], under(path, 0), b), path, b))
	case api.ExCall:
		return m.call(x.Name, m.params(x, path, b))
	case api.ExUnary:
		kind := m.kindOf(path)
		return modelUnary(x.Op, kind, m.eval(x.Args[0], under(path, 0), b).Int64())
	case api.ExBinary:
		return m.binary(x, path, b)
	case api.ExToSmall:
		return into(api.TySmall, m.eval(x.Args[0], under(path, 0), b))
	}
	return m.eval(x.Args[0], under(path, 0), b)
}

func (m *model) params(x api.Expr, path []int, b *block) *block {
	globals := b
	for globals.outside != nil {
		globals = globals.outside
	}
	callee := inside(globals)
	for _, f := range m.p.Funcs {
		for i, p := range f.Params {
			if f.Name == x.Name && p.Type.Len == 0 {
				callee.vars[p.Name] = []*big.Int{m.eval(x.Args[i], under(path, i), b)}
			} else if f.Name == x.Name {
				m.begin(under(path, i))
				callee.vars[p.Name] = b.find(x.Args[i].Name)
			}
		}
	}
	return callee
}

func (m *model) binary(x api.Expr, path []int, b *block) *big.Int {
	first := m.eval(x.Args[0], under(path, 0), b)
	if x.Op == api.BiLand && first.Sign() == 0 || x.Op == api.BiLor && first.Sign() != 0 {
		return first
	}
	second := m.eval(x.Args[1], under(path, 1), b)
	r, _ := modelBinary(x.Op, m.kindOf(under(path, 0)), first.Int64(), second.Int64())
	if r.end != 0 {
		panic(halt{r.end, r.code, path})
	}
	return big.NewInt(r.v)
}

// into takes a number modulo 2^64 or 256 into the range of a kind.
func into(kind int, n *big.Int) *big.Int {
	if kind == api.TySmall {
		return new(big.Int).Mod(n, big.NewInt(256))
	}
	half := new(big.Int).Lsh(big.NewInt(1), 63)
	n = new(big.Int).Mod(new(big.Int).Add(n, half), new(big.Int).Lsh(half, 1))
	return n.Sub(n, half)
}

// modelUnary returns nil if there is no such operator.
func modelUnary(op, kind int, a int64) *big.Int {
	n := big.NewInt(a)
	switch {
	case kind == api.TyBool && op == api.UnNot:
		return n.Sub(big.NewInt(1), n)
	case kind != api.TyInt && kind != api.TySmall:
	case op == api.UnNeg:
		return into(kind, n.Neg(n))
	case op == api.UnComp:
		return into(kind, n.Not(n))
	}
	return nil
}

// result is the value of a binary operator, or how the run ends instead.
type result struct {
	v         int64
	end, code int
}

// modelBinary returns false if there is no such operator.
func modelBinary(op, kind int, a, b int64) (result, bool) {
	isNumber := kind == api.TyInt || kind == api.TySmall
	x, y := big.NewInt(a), big.NewInt(b)
	switch {
	case kind == api.TyBool && op != api.BiEq && op != api.BiNe && op != api.BiLand && op != api.BiLor:
		return result{}, false
	case kind != api.TyBool && (!isNumber || op < api.BiMul || op > api.BiGe):
		return result{}, false
	}
	holds := map[int]bool{
		api.BiEq: x.Cmp(y) == 0, api.BiNe: x.Cmp(y) != 0, api.BiLt: x.Cmp(y) < 0, api.BiLe: x.Cmp(y) <= 0, api.BiGt: x.Cmp(y) > 0, api.BiGe: x.Cmp(y) >= 0,
		api.BiLand: a == 1 && b == 1, api.BiLor: a == 1 || b == 1,
	}
	if yes, ok := holds[op]; !ok {
		return modelNumbers(op, kind, x, y), true
	} else if yes {
		return result{v: 1}, true
	}
	return result{}, true
}

func modelNumbers(op, kind int, x, y *big.Int) result {
	width := map[int]int64{api.TyInt: 64, api.TySmall: 8}[kind]
	v := new(big.Int)
	switch op {
	case api.BiMul:
		v.Mul(x, y)
	case api.BiAdd:
		v.Add(x, y)
	case api.BiSub:
		v.Sub(x, y)
	case api.BiAnd:
		v.And(x, y)
	case api.BiXor:
		v.Xor(x, y)
	case api.BiOr:
		v.Or(x, y)
	case api.BiDiv, api.BiRem:
		if y.Sign() == 0 {
			return result{end: api.EnTrap, code: api.TrDivide}
		}
		if x.Cmp(big.NewInt(-1<<63)) == 0 && y.Cmp(big.NewInt(-1)) == 0 {
			return result{end: api.EnUndefined, code: api.UdLeast}
		}
		if v.Quo(x, y); op == api.BiRem {
			v.Rem(x, y)
		}
	default: // shifts
		if y.Sign() < 0 || y.Cmp(big.NewInt(width)) >= 0 {
			return result{end: api.EnUndefined, code: api.UdShift}
		}
		if v.Lsh(x, uint(y.Int64())); op == api.BiShr {
			v.Rsh(x, uint(y.Int64()))
		}
	}
	return result{v: into(kind, v).Int64()}
}
