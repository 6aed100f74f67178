package irsem_test

import (
	"testing"

	"cupel/api"
	"cupel/irsem"
)

// behaves makes a behaviour.
func behaves(end, code int, out ...int64) api.Behaviour {
	return api.Behaviour{Out: out, End: end, Code: code}
}

// P10.4, P10.7: behaviours that agree and those that do not, in both orders.
func TestAgree(t *testing.T) {
	for _, c := range []struct {
		a, b api.Behaviour
		want bool
	}{
		{behaves(api.EnDone, 0), behaves(api.EnDone, 0), true},
		{behaves(api.EnDone, 0, 1, 2), behaves(api.EnDone, 0, 1, 2), true},
		{behaves(api.EnDone, 0, 1, 2), behaves(api.EnDone, 0, 1, 3), false},
		{behaves(api.EnDone, 0, 1, 2), behaves(api.EnDone, 0, 1), false},
		{behaves(api.EnDone, 0, 1), behaves(api.EnDone, 0), false},
		{behaves(api.EnDone, 0, 1), behaves(api.EnTrap, api.TrStated, 1), false},
		{behaves(api.EnTrap, api.TrIndex, 1), behaves(api.EnTrap, api.TrStated, 1), false},
		{behaves(api.EnTrap, api.TrIndex, 1), behaves(api.EnTrap, api.TrIndex, 1), true},
		{behaves(api.EnTrap, api.TrIndex), behaves(api.EnUndefined, api.TrIndex), false},
		{behaves(api.EnTrap, api.TrIndex, 1), behaves(api.EnTrap, api.TrIndex, 1, 2), false},
		{behaves(api.EnSteps, 0), behaves(api.EnDone, 0), true},
		{behaves(api.EnSteps, 0), behaves(api.EnTrap, api.TrStated, 5), true},
		{behaves(api.EnSteps, 0), behaves(api.EnUndefined, api.UdShift, 5), true},
		{behaves(api.EnSteps, 0, 1), behaves(api.EnDone, 0, 1), true},
		{behaves(api.EnSteps, 0, 1), behaves(api.EnDone, 0, 1, 2), true},
		{behaves(api.EnSteps, 0, 1, 2), behaves(api.EnDone, 0, 1), false},
		{behaves(api.EnSteps, 0, 2), behaves(api.EnDone, 0, 1, 2), false},
		{behaves(api.EnSteps, 0, 1, 3), behaves(api.EnTrap, api.TrIndex, 1, 2, 3), false},
		{behaves(api.EnSteps, 0, 1), behaves(api.EnSteps, 0, 1), true},
		{behaves(api.EnSteps, 0, 1), behaves(api.EnSteps, 0, 1, 2), true},
		{behaves(api.EnSteps, 0, 1), behaves(api.EnSteps, 0, 2), false},
		{behaves(api.EnSteps, 0), behaves(99, -7, 1), true},
		{behaves(0, 0), behaves(0, 0), true},
		{behaves(0, 0), behaves(0, 1), false},
		{behaves(-1, 0, 1), behaves(-1, 0, 1, 2), false},
		{behaves(greatest, least, greatest), behaves(greatest, least, greatest), true},
		{behaves(5, 0, 1), behaves(api.EnSteps, 0, 1, 2), false},
	} {
		if irsem.Agree(c.a, c.b) != c.want || irsem.Agree(c.b, c.a) != c.want {
			t.Errorf("Agree of %s and %s, or the other way round, is not %v", show(c.a), show(c.b), c.want)
		}
	}
}

// P10.4: nil and empty lists are equal.
func TestAgreeOfEmptyLists(t *testing.T) {
	for end := range 6 {
		none, empty := behaves(end, 3), api.Behaviour{Out: []int64{}, End: end, Code: 3}
		if !irsem.Agree(none, empty) || !irsem.Agree(empty, none) || !irsem.Agree(empty, empty) {
			t.Errorf("nothing printed, end %d: does not agree", end)
		}
	}
}

// P10.4, P10.7: Agree of all behaviours with few fields, as the chapter says it; in both orders; and of each with itself.
func TestAgreeOfAll(t *testing.T) {
	var all []api.Behaviour
	for _, out := range [][]int64{nil, {1}, {2}, {1, 1}, {1, 2}, {2, 1}, {1, 2, 1}, {1, 2, 2}} {
		for _, end := range []int{-1, 0, api.EnDone, api.EnTrap, api.EnUndefined, api.EnSteps, 5, greatest} {
			for code := range 3 {
				all = append(all, api.Behaviour{Out: out, End: end, Code: code})
			}
		}
	}
	begins := func(a, b api.Behaviour) bool {
		for i, v := range a.Out {
			if i >= len(b.Out) || b.Out[i] != v {
				return false
			}
		}
		return true
	}
	for _, a := range all {
		if !irsem.Agree(a, a) {
			t.Errorf("%s does not agree with itself", show(a))
		}
		for _, b := range all {
			want := equal(a, b) || a.End == api.EnSteps && begins(a, b) || b.End == api.EnSteps && begins(b, a)
			if irsem.Agree(a, b) != want || irsem.Agree(b, a) != want {
				t.Errorf("Agree of %s and %s, or the other way round, is not %v", show(a), show(b), want)
			}
		}
	}
}
