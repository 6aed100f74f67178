package samples_test

import (
	"reflect"
	"strings"
	"testing"

	"cupel/api"
	"cupel/choose"
	"cupel/samples"
)

// Each operation of virtual code is there, once, with a word of its own.
func TestVirtualOps(t *testing.T) {
	words := map[string]bool{}
	next := api.VcMove
	for _, o := range samples.VirtualOps()[:api.VcTrap] {
		if o.Op != next || words[o.Word] {
			t.Errorf("%+v is not the operation %d", o, next)
		}
		words[o.Word] = true
		next++
	}
	for i, o := range samples.VirtualOps()[api.VcTrap:] {
		op, fields := api.VcBin+1+i/2, "DAB"
		if i%2 == 1 {
			op, fields = api.VcBinI+1+i/2, "DAI"
		}
		if o.Op != op || o.Fields != fields || words[o.Word] {
			t.Errorf("%+v is not the operation %d", o, op)
		}
		words[o.Word] = true
	}
	if len(words) != 16+28 || !words["add"] || !words["lei"] {
		t.Errorf("words: %v", words)
	}
}

// virtual has all kinds of instructions in it.
const virtual = `words 3; data 5 -6; main 1;
func args 2 regs 4 locals 3 16 {
	b0: param r0, 0; local r1, 1; store -4, r1, r0; load r2, 7, r1; zero r2, 1; jump 1;
	b1: check r0, r1; checki r0, -9; add r3, r0, r1; lei r3, r3, 2147483647; return r3;
}
func args 0 regs 1 locals {
	b0: set r0, -9223372036854775808; arg 15, r0; call 0; result r0; move r0, r0; print r0; return;
	b1: trap;
}`

// What a text says is what is written again.
func TestVirtualText(t *testing.T) {
	v := samples.ReadVirtual(t, virtual)
	want := api.VCode{Data: []int64{5, -6}, Words: 3, Main: 1, Funcs: []api.VFunc{
		{Regs: 4, Args: 2, Locals: []int{3, 16}, Blocks: [][]api.VInstr{
			{{Op: api.VcParam, D: 0, A: -1, B: -1}, {Op: api.VcLocal, D: 1, A: -1, B: -1, Imm: 1}, {Op: api.VcStore, D: -1, A: 1, B: 0, Imm: -4}, {Op: api.VcLoad, D: 2, A: 1, B: -1, Imm: 7}, {Op: api.VcZero, D: -1, A: 2, B: -1, Imm: 1}, {Op: api.VcJump, D: -1, A: -1, B: -1, Imm: 1}},
			{{Op: api.VcCheck, D: -1, A: 0, B: 1}, {Op: api.VcCheckI, D: -1, A: 0, B: -1, Imm: -9}, {Op: api.VcBin + api.IbAdd, D: 3, A: 0, B: 1}, {Op: api.VcBinI + api.IbLe, D: 3, A: 3, B: -1, Imm: 1<<31 - 1}, {Op: api.VcReturn, D: -1, A: 3, B: -1}},
		}},
		{Regs: 1, Blocks: [][]api.VInstr{
			{{Op: api.VcSet, D: 0, A: -1, B: -1, Imm: -1 << 63}, {Op: api.VcArg, D: -1, A: 0, B: -1, Imm: 15}, {Op: api.VcCall, D: -1, A: -1, B: -1}, {Op: api.VcResult, D: 0, A: -1, B: -1}, {Op: api.VcMove, D: 0, A: 0, B: -1}, {Op: api.VcPrint, D: -1, A: 0, B: -1}, {Op: api.VcReturn, D: -1, A: -1, B: -1}},
			{{Op: api.VcTrap, D: -1, A: -1, B: -1}},
		}},
	}}
	if !reflect.DeepEqual(v, want) {
		t.Errorf("%+v", v)
	}
	if got := samples.VirtualText(v); got != virtual {
		t.Errorf("%s", got)
	}
	if again := samples.ReadVirtual(t, strings.ReplaceAll(virtual, "\n", " ")); !reflect.DeepEqual(again, want) {
		t.Errorf("on one line: %+v", again)
	}
	if got := samples.VirtualCode(); got != "" {
		t.Errorf("no instructions: %q", got)
	}
}

// Texts that are wrong are told.
func TestWrongVirtualText(t *testing.T) {
	for _, text := range []string{
		"", "words", "words r1", "data 5", "words 1; main 0;", "words 1; data; main;", "words 1; data 5; main 0; x",
		"words 0; data; main 0; func args 0 regs 1 { }",
		"words 0; data; main 0; func args 0 regs 1 locals { b1: return; }",
		"words 0; data; main 0; func args 0 regs 1 locals { b0: fly; }",
		"words 0; data; main 0; func args 0 regs 1 locals { b0: return 5; }",
		"words 0; data; main 0; func args 0 regs 1 locals { b0: print 5; }",
		"words 0; data; main 0; func args 0 regs 1 locals { b0: print r; }",
		"words 0; data; main 0; func args 0 regs 1 locals { b0: print r-1; }",
		"words 0; data; main 0; func args 0 regs 1 locals { b0: set r0, r0; }",
		"words 0; data; main 0; func args 0 regs 1 locals { b0: set r0",
	} {
		if list := told(func(t samples.T) { samples.ReadVirtual(t, text) }); len(list) != 1 {
			t.Errorf("%q: %v", text, list)
		}
	}
}

// Virtual code that is made is the same for the same seed, different for others, valid, and has all operations and as many registers as it may.
func TestVirtual(t *testing.T) {
	ops, regs := map[int]int{}, map[int]int{}
	last, calls := "", 0
	for seed := range uint64(600) {
		most := 1 + int(seed%9)
		v := samples.Virtual(seed, most)
		text := samples.VirtualText(v)
		if e := choose.Check(v); e != api.OK || text == last || text != samples.VirtualText(samples.Virtual(seed, most)) {
			t.Fatalf("seed %d: error %d: %s", seed, e, text)
		}
		last = text
		for _, f := range v.Funcs {
			if regs[most] = max(regs[most], f.Regs); f.Regs > most {
				t.Fatalf("seed %d: %d registers, not up to %d", seed, f.Regs, most)
			}
			for _, list := range f.Blocks {
				for _, x := range list {
					ops[x.Op]++
				}
			}
		}
		if strings.Contains(text, "call") {
			calls++
		}
	}
	for _, o := range samples.VirtualOps() {
		if ops[o.Op] < 50 {
			t.Errorf("%s: %d times", o.Word, ops[o.Op])
		}
	}
	for most := range 9 {
		if regs[1+most] != 1+most {
			t.Errorf("registers: %v", regs)
		}
	}
	if calls < 50 {
		t.Errorf("%d with calls", calls)
	}
}

// Modules without phis are valid, of many kinds, and have constants of all sizes.
func TestPlain(t *testing.T) {
	seen, all, calls := map[int64]int{}, 0, 0
	samples.Plain(t, 60, func(m api.Module) {
		all++
		for k, f := range m.Funcs {
			if e := samples.NoPhi(m, k); e != api.OK {
				t.Fatalf("%s\n%d: error %d", samples.Text(m), k, e)
			}
			for _, block := range f.Blocks {
				for _, x := range block.Code {
					seen[x.A.Imm]++
					if x.Op == api.IxCall {
						calls++
					}
				}
			}
		}
	})
	for _, v := range []int64{0, 1, -1, 255, 1 << 31, -1 << 31, 1<<63 - 1, -1 << 63} {
		if seen[v] < 5 {
			t.Errorf("the constant %d: %d times", v, seen[v])
		}
	}
	if all < 160 || calls < 300 {
		t.Errorf("%d modules, %d calls", all, calls)
	}
}
