package types_test

import (
	"slices"
	"testing"

	"cupel/api"
	"cupel/types"
)

// P2.1 to P2.5: the answers for many programs are those of the model.
func TestModel(t *testing.T) {
	programs(t, 1500, func(m model, _ int) {
		want := m.flaw()
		got, e := types.Check(m.p)
		if e != api.OK || got.Code != want.Code || !slices.Equal(got.Path, want.Path) {
			t.Errorf("%s\nhas %v, %d, want %v", text(m.p), got, e, want)
		}
		if want.Code == 0 {
			m.compareTypes(t)
			m.compareNames(t)
			m.compareCalls(t)
		}
	})
}

func (m model) compareTypes(t *testing.T) {
	for _, n := range m.nodes {
		path := n.path
		want, fails := api.Type{}, api.ErrNone
		if n.Kind == api.NdExpr {
			want, fails = m.typeOf(n.Expr, m.place(path).visible), api.OK
		}
		if got, e := types.TypeOf(m.p, path); got != want || e != fails {
			t.Errorf("%s\nTypeOf %v: %v, %d, want %v, %d", text(m.p), path, got, e, want, fails)
		}
	}
}

func (m model) compareNames(t *testing.T) {
	paths := places(m.p)
	for _, n := range m.nodes {
		if n.Kind == api.NdExpr {
			paths = append(paths, n.path)
		}
	}
	for _, path := range paths {
		want := m.place(path).visible
		if got, e := types.Names(m.p, path); e != api.OK || !slices.Equal(got, want) {
			t.Errorf("%s\nNames %v: %s, %d, want %s", text(m.p), path, show(got), e, show(want))
		}
	}
}

func (m model) compareCalls(t *testing.T) {
	var want [][]int
	for f := range m.p.Funcs {
		want = append(want, m.called(f))
	}
	calls, order, e := types.Calls(m.p)
	if e != api.OK || !slices.EqualFunc(calls, want, slices.Equal) || !slices.Equal(order, m.order()) {
		t.Errorf("%s\nCalls: %v, %v, %d", text(m.p), calls, order, e)
	}
	for f := range m.p.Funcs {
		reads, writes := m.uses(f)
		if r, w, e := types.Uses(m.p, f); e != api.OK || !slices.Equal(r, reads) || !slices.Equal(w, writes) {
			t.Errorf("%s\nUses %d: %v, %v, %d, want %v, %v", text(m.p), f, r, w, e, reads, writes)
		}
	}
}

// order puts, as long as one is left, the first function in order that is not there yet, after those that it calls.
func (m model) order() []int {
	var out []int
	for f := range m.p.Funcs {
		out = m.append(out, f)
	}
	return out
}

func (m model) append(order []int, f int) []int {
	if slices.Contains(order, f) {
		return order
	}
	for _, g := range m.called(f) {
		order = m.append(order, g)
	}
	return append(order, f)
}
