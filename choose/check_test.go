package choose_test

import (
	"fmt"
	"math/rand/v2"
	"strings"
	"testing"

	"cupel/api"
	"cupel/choose"
	"cupel/samples"
)

// expectCheck wants an error of Check, and the same one of Run, with any steps, unless it is OK.
func expectCheck(t *testing.T, what string, v api.VCode, want api.Errno) {
	t.Helper()
	if e := choose.Check(v); e != want {
		t.Fatalf("%s: Check: error %d, want %d\n%.3000s", what, e, want, fmt.Sprintf("%+v", v))
	}
	for _, steps := range []int{0, 300, -1, api.MaxMSteps + 1} {
		wanted := want
		if want == api.OK && steps != 0 && steps != 300 {
			wanted = api.ErrArg
		}
		b, e := choose.Run(v, steps)
		if e != wanted || e != api.OK && !equal(b, api.Behaviour{}) {
			t.Fatalf("%s: Run with %d steps: %s, error %d, want %d\n%.3000s", what, steps, show(b), e, wanted, fmt.Sprintf("%+v", v))
		}
	}
}

// bare is virtual code of one function, with these instructions in its block 0, four registers and two local arrays.
func bare(code string) string {
	return "words 3; data 5; main 0; func args 0 regs 4 locals 2 3 { b0: " + code + " }"
}

// P21.2: code that is valid.
func TestCheckValid(t *testing.T) {
	for _, text := range []string{
		bare("return;"), bare("trap;"), bare("jump 0;"), bare("jump 1; b1: return r3;"), bare("zero r0, 1; jump 1; b1: zero r3, 0; jump 0;"),
		bare("return r0; b1: return; b2: return r3; b3: trap;"),
		bare("set r0, 9223372036854775807; set r1, -9223372036854775808; local r2, 0; local r3, 1; trap;"),
		bare("load r0, -2147483648, r1; store 2147483647, r2, r3; checki r0, -2147483648; addi r0, r0, 2147483647; trap;"),
		bare("arg 0, r0; arg 15, r3; result r0; check r0, r1; move r0, r3; print r0; trap;"),
		"words 0; data; main 0; func args 0 regs 0 locals { b0: return; }",
		"words 1000; data 1 2 3; main 0; func args 0 regs 4000 locals { b0: move r0, r3999; return; }",
		"words 0; data; main 1; func args 16 regs 1 locals { b0: param r0, 15; call 1; return r0; } func args 0 regs 0 locals { b0: return; }",
		"words 0; data; main 1; func args 0 regs 0 locals { b0: call 2; call 2; return; } func args 0 regs 0 locals { b0: call 0; call 2; return; } func args 0 regs 0 locals { b0: return; }",
	} {
		expectCheck(t, text, samples.ReadVirtual(t, text), api.OK)
	}
}

// P21.2: code that is not valid.
func TestCheckWrong(t *testing.T) {
	for _, text := range []string{
		bare(""), bare("set r0, 1;"), bare("zero r0, 0;"), bare("return; b1:"), bare("return; return;"), bare("trap; return;"), bare("jump 0; return;"), bare("return; b1: jump 0; jump 0;"),
		bare("zero r0, 0; return;"), bare("zero r0, 0; trap;"), bare("zero r0, 0; set r0, 1; jump 0;"), bare("zero r0, 0; zero r0, 0; jump 0;"), bare("jump 0; zero r0, 0;"),
		bare("jump 1;"), bare("jump -1;"), bare("zero r0, 1; jump 0;"), bare("zero r0, -1; jump 0;"), bare("zero r4, 0; jump 0;"), bare("return r4;"), bare("print r4; return;"), bare("set r4, 0; return;"),
		bare("move r4, r0; return;"), bare("move r0, r4; return;"), bare("load r0, 0, r4; return;"), bare("store 0, r0, r4; return;"), bare("store 0, r4, r0; return;"), bare("check r0, r4; return;"), bare("add r0, r1, r4; return;"),
		bare("load r0, 2147483648, r1; return;"), bare("store -2147483649, r0, r1; return;"), bare("checki r0, 2147483648; return;"), bare("lei r0, r0, -2147483649; return;"), bare("addi r0, r0, 4294967296; return;"),
		bare("local r0, 2; return;"), bare("local r0, -1; return;"), bare("param r0, 0; return;"), bare("param r0, -1; return;"), bare("arg 16, r0; return;"), bare("arg -1, r0; return;"),
		bare("call 0; return;"), bare("call 1; return;"), bare("call -1; return;"), bare("call 4294967296; return;"), bare("return; b1: call 0; return;"),
		"words 0; data; main 0;", "words 0; data; main 1; func args 0 regs 0 locals { b0: return; }", "words 0; data; main -1; func args 0 regs 0 locals { b0: return; }",
		"words 0; data; main 0; func args 1 regs 1 locals { b0: return; }", "words 0; data; main 0; func args 0 regs 0 locals { }", "words 0; data; main 0; func args -1 regs 0 locals { b0: return; }",
		"words 0; data; main 0; func args 0 regs -1 locals { b0: return; }", "words 0; data; main 0; func args 0 regs 0 locals 0 { b0: return; }", "words 0; data; main 0; func args 0 regs 0 locals 3 -1 { b0: return; }",
		"words 0; data; main 0; func args 0 regs 0 locals { b0: call 1; return; } func args 0 regs 0 locals { b0: call 0; return; }",
		"words 0; data; main 0; func args 0 regs 0 locals { b0: return; } func args 0 regs 0 locals { b0: call 2; return; } func args 0 regs 0 locals { b0: return; b1: call 3; return; } func args 0 regs 0 locals { b0: call 1; return; }",
		"words 0; data; main 0; func args 0 regs 0 locals { b0: return; } func args 3 regs 1 locals { b0: param r0, 3; return; }",
	} {
		expectCheck(t, text, samples.ReadVirtual(t, text), api.ErrArg)
	}
}

// P21.2: registers, constants and Ops that an instruction has not.
func TestCheckFields(t *testing.T) {
	const regs = 4
	for op := -3; op < 60; op++ {
		for _, imm := range []int64{least, -1<<31 - 1, -1 << 31, -1, 0, 1, 2, 15, 16, 1<<31 - 1, 1 << 31, 1 << 32, greatest} {
			for _, d := range []int{least, -2, -1, 0, regs - 1, regs} {
				for _, a := range []int{-2, -1, 0, regs - 1, regs, greatest} {
					for _, b := range []int{-2, -1, 0, regs - 1, regs, 1 << 32} {
						x := api.VInstr{Op: op, D: d, A: a, B: b, Imm: imm}
						v := api.VCode{Funcs: []api.VFunc{{Blocks: [][]api.VInstr{{{Op: api.VcReturn, D: -1, A: -1, B: -1}}}}, {Regs: regs, Args: 2, Locals: []int{3, 4}, Blocks: [][]api.VInstr{{x, {Op: api.VcJump, D: -1, A: -1, B: -1}}, {x}}}}}
						if op == api.VcJump || op == api.VcReturn || op == api.VcTrap {
							v.Funcs[1].Blocks = v.Funcs[1].Blocks[1:]
						} else {
							v.Funcs[1].Blocks = v.Funcs[1].Blocks[:1]
						}
						if e, want := choose.Check(v), modelCheck(v); e != want {
							t.Fatalf("%+v: error %d, want %d", x, e, want)
						}
					}
				}
			}
		}
	}
	for _, op := range []int{least, least + api.VcBinI, -256, 32, 33, 36, 37, 52, 256 + api.VcTrap, 1<<32 + api.VcTrap, greatest} {
		v := samples.ReadVirtual(t, bare("trap;"))
		v.Funcs[0].Blocks[0][0].Op = op
		expectCheck(t, fmt.Sprint("the Op ", op), v, api.ErrArg)
	}
}

// P21.2: each limit at its last number, and one more, also where code is not valid otherwise.
func TestCheckLimits(t *testing.T) {
	nop, leave := api.VInstr{Op: api.VcSet, D: 0, A: -1, B: -1}, api.VInstr{Op: api.VcReturn, D: -1, A: -1, B: -1}
	simple := func() api.VFunc { return api.VFunc{Regs: 1, Blocks: [][]api.VInstr{{leave}}} }
	code := func(f api.VFunc) api.VCode { return api.VCode{Words: 5, Funcs: []api.VFunc{simple(), simple(), f}} }
	for _, c := range []struct {
		what string
		make func(n int) api.VCode
		last int
	}{
		{"functions", func(n int) api.VCode { return api.VCode{Funcs: repeated(n, simple())} }, 20},
		{"blocks", func(n int) api.VCode { return code(api.VFunc{Blocks: repeated(n, []api.VInstr{leave})}) }, 60},
		{"instructions", func(n int) api.VCode {
			return code(api.VFunc{Regs: 1, Blocks: [][]api.VInstr{append(repeated(n-1, nop), leave)}})
		}, 20000},
		{"instructions of two blocks", func(n int) api.VCode {
			return code(api.VFunc{Regs: 1, Blocks: [][]api.VInstr{append(repeated(9999, nop), leave), append(repeated(n-10001, nop), leave)}})
		}, 20000},
		{"registers", func(n int) api.VCode { return code(api.VFunc{Regs: n, Blocks: [][]api.VInstr{{leave}}}) }, 4000},
		{"arguments", func(n int) api.VCode { return code(api.VFunc{Args: n, Blocks: [][]api.VInstr{{leave}}}) }, 16},
		{"local arrays", func(n int) api.VCode {
			return code(api.VFunc{Locals: repeated(n, 16), Blocks: [][]api.VInstr{{leave}}})
		}, 20},
		{"elements", func(n int) api.VCode {
			return code(api.VFunc{Locals: []int{1, n, 1}, Blocks: [][]api.VInstr{{leave}}})
		}, 16},
		{"words", func(n int) api.VCode {
			return api.VCode{Words: n, Data: make([]int64, 1000), Funcs: []api.VFunc{simple()}}
		}, 1000},
		{"data", func(n int) api.VCode {
			return api.VCode{Words: 7, Data: make([]int64, n), Funcs: []api.VFunc{simple()}}
		}, 7},
	} {
		for _, n := range []int{c.last - 1, c.last, c.last + 1, c.last + 2, 3 * c.last} {
			if c.what == "words" && n < c.last {
				continue
			}
			v, want := c.make(n), api.OK
			if n > c.last {
				want = api.ErrLong
			}
			expectCheck(t, fmt.Sprint(n, " ", c.what), v, want)
			if v.Main = 99; want == api.OK {
				want = api.ErrArg
			}
			expectCheck(t, fmt.Sprint(n, " ", c.what, ", no Main"), v, want)
		}
	}
	expectCheck(t, "less than no words", api.VCode{Words: -1, Funcs: []api.VFunc{simple()}}, api.ErrLong)
	expectCheck(t, "nothing", api.VCode{}, api.ErrArg)
	expectCheck(t, "many registers of no function that is valid", api.VCode{Funcs: []api.VFunc{{}, {Regs: greatest}}}, api.ErrLong)
	expectCheck(t, "few", api.VCode{Funcs: []api.VFunc{{Regs: least, Args: least, Locals: []int{least}}}}, api.ErrArg)
}

// P21.2: calls of many functions, in many orders.
func TestCheckCalls(t *testing.T) {
	r := random(2)
	seen := map[api.Errno]int{}
	for range 3000 {
		n := 1 + r.IntN(20)
		order := r.Perm(n)
		var funcs []string
		for i := range n {
			code := ""
			for range r.IntN(3) {
				if to := r.IntN(n); order[to] > order[i] || r.IntN(n) == 0 {
					code += fmt.Sprintf("call %d; ", to)
				}
			}
			funcs = append(funcs, "func args 0 regs 0 locals { b0: return; b1: "+code+"return; }")
		}
		v := samples.ReadVirtual(t, fmt.Sprintf("words 0; data; main %d; %s", r.IntN(n), strings.Join(funcs, " ")))
		want := modelCheck(v)
		expectCheck(t, "calls", v, want)
		seen[want]++
	}
	if seen[api.OK] < 500 || seen[api.ErrArg] < 500 {
		t.Errorf("errors: %v", seen)
	}
}

// change changes one number of virtual code, which has a function with a block that is not empty.
func change(r *rand.Rand, v *api.VCode) {
	f := &v.Funcs[r.IntN(len(v.Funcs))]
	list := f.Blocks[r.IntN(len(f.Blocks))]
	x := &list[r.IntN(len(list))]
	ints := []*int{&v.Words, &v.Main, &f.Regs, &f.Args, &x.Op, &x.Op, &x.D, &x.A, &x.B}
	for i := range f.Locals {
		ints = append(ints, &f.Locals[i])
	}
	if n := r.IntN(len(ints) + 4); n < len(ints) {
		*ints[n] = pick(r, least, -2, -1, 0, 1, 2, 3, 5, 12, 13, 14, 15, 16, 17, 20, 30, 40, 1000, 1001, 4000, 4001, greatest)
	} else {
		x.Imm = pick[int64](r, least, -1<<31-1, -1<<31, -1, 0, 1, 2, 3, 4, 15, 16, 1<<31-1, 1<<31, greatest)
	}
	switch b := r.IntN(len(f.Blocks)); r.IntN(8) {
	case 0:
		f.Blocks[b] = f.Blocks[b][:len(f.Blocks[b])-1]
	case 1:
		f.Blocks = f.Blocks[:b]
	case 2:
		i := r.IntN(len(list))
		list[0], list[i] = list[i], list[0]
	}
}

// P21.2, P21.3: virtual code that is drawn or made, in which something is changed: Check is as the model says, and Run returns.
func TestCheckChanged(t *testing.T) {
	t.Parallel()
	r := random(3)
	seen := map[api.Errno]int{}
	look := func(v api.VCode) {
		change(r, &v)
		want := modelCheck(v)
		expectCheck(t, "changed", v, want)
		seen[want]++
	}
	for seed := range uint64(8000) {
		v := samples.Virtual(seed, 5)
		if e := choose.Check(v); e != api.OK || modelCheck(v) != api.OK {
			t.Fatalf("%s\nCheck: error %d", samples.VirtualText(v), e)
		}
		look(v)
	}
	samples.Plain(t, 200, func(m api.Module) { look(made(t, m)) })
	if seen[api.OK] < 1500 || seen[api.ErrArg] < 3000 || seen[api.ErrLong] < 300 {
		t.Errorf("errors: %v", seen)
	}
}
