package ir_test

import (
	"math"
	"math/rand/v2"
	"slices"
	"strconv"

	"cupel/api"
)

// maker makes valid modules. Functions call only those that were made before.
type maker struct {
	*rand.Rand
	m     api.Module
	named []map[int]bool // of each function: the arrays of the module that it, or one that it calls, names
}

// makeModule makes a valid module of up to so many functions.
func makeModule(r *rand.Rand, most int) api.Module {
	k := &maker{Rand: r}
	for i := range r.IntN(4) {
		k.m.Cells = append(k.m.Cells, api.Cell{Name: k.name(i), Init: k.value()})
	}
	for i := range r.IntN(5) {
		k.m.Arrays = append(k.m.Arrays, api.GArray{Name: k.name(i), Len: 1 + r.IntN(2), Small: r.IntN(4) == 0})
	}
	count := 1 + r.IntN(most)
	k.m.Main = r.IntN(count)
	for i := range count {
		k.function(i)
	}
	k.shuffle()
	return k.m
}

func (k *maker) name(i int) string {
	beginnings := []string{"a", "r0", "func", "Z_9", "call", "x"}
	return beginnings[k.IntN(len(beginnings))] + "_" + strconv.Itoa(i)
}

func (k *maker) value() int64 {
	values := []int64{0, 1, -1, 7, -300, math.MaxInt64, math.MinInt64, k.Int64(), -k.Int64()}
	return values[k.IntN(len(values))]
}

// shuffle changes the order of the functions.
func (k *maker) shuffle() {
	order := k.Perm(len(k.m.Funcs))
	funcs := make([]api.IFunc, len(order))
	for from, to := range order {
		funcs[to] = k.m.Funcs[from]
		for _, b := range funcs[to].Blocks {
			for i := range b.Code {
				if b.Code[i].Op == api.IxCall {
					b.Code[i].Func = order[b.Code[i].Func]
				}
			}
		}
	}
	k.m.Funcs, k.m.Main = funcs, order[k.m.Main]
}

func (k *maker) function(i int) {
	f := api.IFunc{Name: k.name(i)}
	if i != k.m.Main {
		f.Params, f.Result = k.IntN(4), k.IntN(2) == 0
	}
	f.Regs = f.Params + k.IntN(6)
	k.named = append(k.named, map[int]bool{})
	k.arrays(i, &f)
	f.Blocks = make([]api.Block, 1+k.IntN(5))
	for b := range f.Blocks {
		f.Blocks[b].End = k.end(f)
	}
	for b := range f.Blocks {
		k.phis(&f, b)
		for range k.IntN(6) {
			if x, ok := k.instr(i, f); ok {
				f.Blocks[b].Code = append(f.Blocks[b].Code, x)
			}
		}
	}
	k.m.Funcs = append(k.m.Funcs, f)
}

func (k *maker) arrays(i int, f *api.IFunc) {
	for g := range k.m.Arrays {
		if k.IntN(2) == 0 {
			f.Arrays = append(f.Arrays, api.Array{Kind: api.AyGlobal, Global: g})
			k.named[i][g] = true
		}
	}
	for range k.IntN(4) {
		a := api.Array{Kind: api.AyLocal, Len: 1 + k.IntN(2), Small: k.IntN(4) == 0}
		if i != k.m.Main && k.IntN(2) == 0 {
			a.Kind = api.AyParam
		}
		f.Arrays = append(f.Arrays, a)
	}
	k.Shuffle(len(f.Arrays), func(i, j int) { f.Arrays[i], f.Arrays[j] = f.Arrays[j], f.Arrays[i] })
}

func (k *maker) opd(f api.IFunc) api.Opd {
	if f.Regs > 0 && k.IntN(3) > 0 {
		return reg(k.IntN(f.Regs))
	}
	return num(k.value())
}

func (k *maker) end(f api.IFunc) api.Term {
	target := func() int { return 1 + k.IntN(len(f.Blocks)-1) }
	switch {
	case len(f.Blocks) > 1 && k.IntN(4) == 0:
		return api.Term{Op: api.TmJump, To: target()}
	case len(f.Blocks) > 1 && k.IntN(2) == 0:
		return api.Term{Op: api.TmBranch, A: k.opd(f), To: target(), Else: target()}
	case k.IntN(3) == 0:
		return api.Term{Op: api.TmTrap}
	case f.Result:
		return api.Term{Op: api.TmReturn, A: k.opd(f)}
	}
	return api.Term{Op: api.TmReturn}
}

func (k *maker) phis(f *api.IFunc, b int) {
	if b == 0 || f.Regs == 0 {
		return
	}
	for range k.IntN(3) {
		x := api.Instr{Op: api.IxPhi, To: k.IntN(f.Regs)}
		for from := range f.Blocks {
			if leads(f.Blocks[from].End, b) {
				x.From = append(x.From, from)
				x.Args = append(x.Args, k.opd(*f))
			}
		}
		f.Blocks[b].Code = append(f.Blocks[b].Code, x)
	}
}

func leads(t api.Term, b int) bool {
	return t.Op == api.TmJump && t.To == b || t.Op == api.TmBranch && (t.To == b || t.Else == b)
}

// instr makes an instruction that is no phi, if what is drawn can be had.
func (k *maker) instr(i int, f api.IFunc) (api.Instr, bool) {
	x := api.Instr{Op: min(api.IxCopy+k.IntN(api.IxCall+2), api.IxCall), To: -1}
	switch x.Op {
	case api.IxCopy, api.IxBin, api.IxLoad, api.IxGet:
		if f.Regs == 0 {
			return x, false
		}
		x.To = k.IntN(f.Regs)
	}
	if x.Op != api.IxGet && x.Op != api.IxCall {
		x.A = k.opd(f)
	}
	switch x.Op {
	case api.IxBin:
		x.Kind = api.IbAdd + k.IntN(api.IbLe)
		x.B = k.opd(f)
	case api.IxCheck:
		x.B = k.opd(f)
	case api.IxStore:
		x.B = k.opd(f)
		fallthrough
	case api.IxLoad:
		if len(f.Arrays) == 0 {
			return x, false
		}
		x.Array = k.IntN(len(f.Arrays))
	case api.IxGet, api.IxPut:
		if len(k.m.Cells) == 0 {
			return x, false
		}
		x.Cell = k.IntN(len(k.m.Cells))
	case api.IxCall:
		return x, i > 0 && k.call(i, f, &x)
	}
	return x, true
}

func (k *maker) call(i int, f api.IFunc, x *api.Instr) bool {
	x.Func = k.IntN(i)
	callee := k.m.Funcs[x.Func]
	for range callee.Params {
		x.Args = append(x.Args, k.opd(f))
	}
	if callee.Result && f.Regs > 0 && k.IntN(3) > 0 {
		x.To = k.IntN(f.Regs)
	}
	for _, want := range callee.Arrays {
		if want.Kind != api.AyParam {
			continue
		}
		given := k.given(f, want, *x)
		if given < 0 {
			return false
		}
		x.Arrays = append(x.Arrays, given)
	}
	for g := range k.named[x.Func] {
		k.named[i][g] = true
	}
	return true
}

// given returns the index of an array that can be given for another one, -1 if there is none.
func (k *maker) given(f api.IFunc, want api.Array, x api.Instr) int {
	for _, a := range k.Perm(len(f.Arrays)) {
		length, small := f.Arrays[a].Len, f.Arrays[a].Small
		if g := f.Arrays[a].Global; f.Arrays[a].Kind == api.AyGlobal {
			length, small = k.m.Arrays[g].Len, k.m.Arrays[g].Small
			if k.named[x.Func][g] {
				continue
			}
		}
		if length == want.Len && small == want.Small && !slices.Contains(x.Arrays, a) {
			return a
		}
	}
	return -1
}
