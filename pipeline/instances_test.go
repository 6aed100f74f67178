package pipeline_test

import (
	"math"
	"slices"
	"strconv"
	"strings"
	"testing"

	"cupel/api"
	"cupel/pipeline"
	"cupel/samples"
)

// many is a module of so many functions, of which main is the last one.
func many(t *testing.T, count int) api.Module {
	t.Helper()
	var s strings.Builder
	s.WriteString("main f" + strconv.Itoa(count-1) + "; ")
	for k := range count {
		s.WriteString("func f" + strconv.Itoa(k) + " params 0 regs 0 { b0: return; } ")
	}
	return samples.Read(t, s.String())
}

// P19.1: the passes of each level, in order, and for each of them all functions, ascending.
func TestInstances(t *testing.T) {
	for _, count := range []int{1, 2, 3, api.MaxIFuncs} {
		for level, order := range orders() {
			var want []api.Instance
			for _, name := range strings.Fields(order) {
				for k := range count {
					want = append(want, api.Instance{Pass: slices.Index(names(), name), Func: k})
				}
			}
			got, e := pipeline.Instances(many(t, count), level)
			if e != api.OK || !slices.Equal(got, want) {
				t.Errorf("%d functions, the level %d: error %d\n%v\nwant\n%v", count, level, e, got, want)
			}
		}
	}
}

// P19.1: the examples, whatever the functions are.
func TestInstancesOfTwo(t *testing.T) {
	for _, m := range []api.Module{many(t, 2), samples.Read(t, two)} {
		list, e := pipeline.Instances(m, 1)
		want := []api.Instance{{Pass: api.PsInto}, {Pass: api.PsInto, Func: 1}, {Pass: api.PsFold}, {Pass: api.PsFold, Func: 1}, {Pass: api.PsDead}, {Pass: api.PsDead, Func: 1}, {Pass: api.PsOut}, {Pass: api.PsOut, Func: 1}, {Pass: api.PsTidy}, {Pass: api.PsTidy, Func: 1}}
		if e != api.OK || !slices.Equal(list, want) {
			t.Errorf("error %d: %v", e, list)
		}
		for level, count := range []int{0, 10, 18, 24} {
			if n := instances(t, m, level); n != count {
				t.Errorf("the level %d: %d instances", level, n)
			}
		}
	}
}

// P19.1: no such level, and modules that are not valid, whose errors come first.
func TestInstancesErrors(t *testing.T) {
	expect := func(m api.Module, level int, want api.Errno) {
		t.Helper()
		if list, e := pipeline.Instances(m, level); e != want || len(list) > 0 {
			t.Errorf("the level %d: error %d, want %d, %v", level, e, want, list)
		}
	}
	for _, level := range []int{-1, 4, 5, -4, math.MinInt, math.MaxInt} {
		expect(many(t, 2), level, api.ErrPass)
	}
	for want, m := range wrongModules(t) {
		for level := -1; level <= 4; level++ {
			expect(m, level, want)
		}
	}
	expect(api.Module{}, 1, api.ErrArg)
}
