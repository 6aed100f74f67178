package pipeline_test

import (
	"testing"

	"cupel/api"
	"cupel/parts"
	"cupel/samples"
	"cupel/ssa"
)

// faults draws some of the faults, or none, or all.
func faults(dice *samples.Dice) []int {
	var list []int
	kind := dice.IntN(4)
	for _, fault := range allFaults() {
		if kind == 1 || kind > 1 && dice.IntN(6) == 0 {
			list = append(list, fault)
		}
	}
	return list
}

// firsts draws numbers of first instances of so many, and has the first and the last ones.
func firsts(dice *samples.Dice, all int) []int {
	list := []int{-1, 0, all}
	for range 6 {
		list = append(list, dice.IntN(all+1))
	}
	return list
}

// expectMade wants of Run what the model says of modules, for each level and various instances, limits and faults, and counts what was returned.
func expectMade(t *testing.T, seed uint64, each func(look func(m api.Module))) (applied int, seen map[api.Errno]int) {
	t.Helper()
	dice := samples.NewDice(seed)
	seen = map[api.Errno]int{}
	each(func(m api.Module) {
		for level := range orders() {
			for _, first := range firsts(dice, instances(t, m, level)) {
				r := expectModel(t, m, level, first, api.Limit{Most: dice.IntN(6) - 1, Faults: faults(dice)})
				seen[r.e]++
				for _, list := range r.lists {
					applied += len(list)
				}
			}
		}
	})
	return applied, seen
}

// P19.3: functions that call each other.
func TestMadeOfCallers(t *testing.T) {
	t.Parallel()
	applied, seen := expectMade(t, 1, func(look func(m api.Module)) { samples.Callers(80, look) })
	if applied < 20000 || seen[api.OK] < 2000 || seen[api.ErrLong] < 5 {
		t.Errorf("%d applications, errors %v", applied, seen)
	}
}

// P19.3: generated programs.
func TestMadeOfPrograms(t *testing.T) {
	t.Parallel()
	applied, seen := expectMade(t, 2, func(look func(m api.Module)) { samples.Lowered(80, look) })
	if applied < 20000 || seen[api.OK] < 2000 {
		t.Errorf("%d applications, errors %v", applied, seen)
	}
}

// mixed calls look with modules some of whose functions have phis; one in six is not in the form.
func mixed(t *testing.T, count int, look func(m api.Module)) {
	t.Helper()
	dice := samples.NewDice(3)
	samples.Functions(t, count, 10, look)
	samples.Callers(count, func(m api.Module) {
		for k := range m.Funcs {
			if made, _, e := ssa.Into(m, k, samples.All()); e == api.OK && dice.IntN(2) == 0 {
				m = made
				if f := &m.Funcs[k]; parts.HasPhi(*f) && dice.IntN(6) == 0 {
					f.Blocks[0].Code = append(f.Blocks[0].Code, api.Instr{Op: api.IxCopy, A: api.Opd{Reg: f.Regs - 1}, To: f.Regs - 1})
				}
			}
		}
		look(m)
	})
}

// P19.3: functions with phis, which are closed if they are in the form, and to which no instance of Into or Inline may come.
func TestMadeOfMixed(t *testing.T) {
	t.Parallel()
	_, seen := expectMade(t, 4, func(look func(m api.Module)) { mixed(t, 80, look) })
	if seen[api.OK] < 1000 || seen[api.ErrDown] < 1000 {
		t.Errorf("errors %v", seen)
	}
}
