package rules

import (
	"math"
	"slices"
	"testing"

	"cupel/api"
	"cupel/parts"
	"cupel/pipeline"
	"cupel/samples"
)

// call is a function, and arguments for it: args returns a pointer to new ones, which are always the same, and ask one to what the function returns for those that a pointer leads to.
type call struct {
	name string
	args func() any
	ask  func(args any) any
}

func newCall[A, R any](name string, args func() A, ask func(a A) R) call {
	return call{name,
		func() any { a := args(); return &a },
		func(p any) any { r := ask(*p.(*A)); return &r },
	}
}

// each runs a test for the functions of each source, with many arguments.
func each(t *testing.T, test func(t *testing.T, c call)) {
	sources(func(name string, calls func(t *testing.T, look func(c call))) {
		t.Run(name, func(t *testing.T) {
			t.Parallel()
			calls(t, func(c call) { test(t, c) })
		})
	})
}

// sources calls look with names, and with what makes calls.
func sources(look func(name string, calls func(t *testing.T, look func(c call)))) {
	for _, p := range samples.Passes() {
		look(p.Name, func(t *testing.T, look func(c call)) { passCalls(t, p, look) })
	}
	look("pipeline.Instances", instancesCalls)
	look("pipeline.One", oneCalls)
	look("pipeline.Run", runCalls)
	look("target.Valid", validCalls)
	look("target.Encode", encodeCalls)
	look("target.Decode", decodeCalls)
	look("target.Check", checkCalls)
	look("target.Parse", parseCalls)
	look("target.Print", printCalls)
	look("choose.Make", makeCalls)
	look("choose.Check", checkVirtualCalls)
	look("choose.Run", runVirtualCalls)
	look("alloc.Spans", spansCalls)
	look("alloc.Spilled", spilledCalls)
	look("alloc.Alloc", allocCalls)
}

// passArgs are the arguments of a pass, passResult is what it returns.
type passArgs struct {
	M api.Module
	K int
	X api.Limit
}

type passResult struct {
	M    api.Module
	List []api.Applied
	E    api.Errno
}

func passCalls(t *testing.T, p samples.Pass, look func(c call)) {
	p.Examples(t, func(m api.Module) {
		for k := range m.Funcs {
			for i := range p.Limits() {
				look(newCall(p.Name,
					func() passArgs { return passArgs{parts.Copy(m), k, p.Limits()[i]} },
					func(a passArgs) (r passResult) {
						r.M, r.List, r.E = p.Run(a.M, a.K, a.X)
						return r
					}))
			}
		}
	})
}

type instancesArgs struct {
	M     api.Module
	Level int
}

type instancesResult struct {
	List []api.Instance
	E    api.Errno
}

func instancesCalls(t *testing.T, look func(c call)) {
	examples(t, func(m api.Module) {
		for level := -1; level <= 4; level++ {
			look(newCall("Instances",
				func() instancesArgs { return instancesArgs{parts.Copy(m), level} },
				func(a instancesArgs) (r instancesResult) {
					r.List, r.E = pipeline.Instances(a.M, a.Level)
					return r
				}))
		}
	})
}

type oneArgs struct {
	M api.Module
	I api.Instance
	X api.Limit
}

func oneCalls(t *testing.T, look func(c call)) {
	examples(t, func(m api.Module) {
		for n := range 11 * len(m.Funcs) {
			i := api.Instance{Pass: n % 11, Func: n / 11}
			look(newCall("One",
				func() oneArgs { return oneArgs{parts.Copy(m), i, limit(n)} },
				func(a oneArgs) (r passResult) {
					r.M, r.List, r.E = pipeline.One(a.M, a.I, a.X)
					return r
				}))
		}
	})
}

type runArgs struct {
	M            api.Module
	Level, First int
	X            api.Limit
}

type runResult struct {
	M     api.Module
	Lists [][]api.Applied
	E     api.Errno
}

func runCalls(t *testing.T, look func(c call)) {
	turn := 0
	examples(t, func(m api.Module) {
		for level := -1; level <= 4; level++ {
			list, _ := pipeline.Instances(m, level)
			for _, first := range []int{-2, -1, 0, 1, len(list) / 2, len(list) - 1, len(list), len(list) + 1} {
				turn++
				look(newCall("Run",
					func() runArgs { return runArgs{parts.Copy(m), level, first, limit(turn)} },
					func(a runArgs) (r runResult) {
						r.M, r.Lists, r.E = pipeline.Run(a.M, a.Level, a.First, a.X)
						return r
					}))
			}
		}
	})
}

// limit returns one of several limits, with a list that is new.
func limit(n int) api.Limit {
	all := []api.Limit{samples.All(), {Most: 1}, samples.All(api.FtOneByOne, api.FtMinus, api.FtZeros), {Faults: []int{api.MaxFaults}}, {Most: math.MaxInt, Faults: []int{}}, {Most: 2, Faults: []int{api.FtUndefined, api.FtFirstOnly, api.FtShift}}, {Most: -2}}
	return all[n%len(all)]
}

// examples calls look with modules with and without phis.
func examples(t *testing.T, look func(m api.Module)) {
	for _, p := range samples.Passes()[4:] {
		look(samples.Read(t, p.Many()))
	}
	samples.Callers(4, look)
	samples.Lowered(4, look)
	samples.Functions(t, 4, 12, look)
	look(api.Module{Funcs: slices.Repeat([]api.IFunc{{Name: "f"}}, 2)})
}
