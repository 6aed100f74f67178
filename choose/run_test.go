package choose_test

import (
	"fmt"
	"slices"
	"strings"
	"testing"

	"cupel/api"
	"cupel/choose"
	"cupel/irsem"
	"cupel/samples"
)

// does is virtual code, the steps that it takes until it ends, and what it does.
type does struct {
	text  string
	steps int
	want  string
}

// inMain is code of one function, with 6 registers.
func inMain(code string, steps int, want string) does {
	return does{"words 4; data 5 -6; main 0; func args 0 regs 6 locals 2 3 { b0: " + code + " }", steps, want}
}

// expectDone runs virtual code with fewer, as many and more steps than it takes: with fewer it prints a beginning of what it prints.
func expectDone(t *testing.T, rows []does) {
	t.Helper()
	for _, r := range rows {
		v := samples.ReadVirtual(t, r.text)
		whole := run(t, v, r.steps)
		if got := show(whole); got != r.want {
			t.Errorf("%s\ndoes %s, want %s", r.text, got, r.want)
		}
		if strings.HasSuffix(r.want, "cut") {
			continue
		}
		for n := range r.steps {
			if b := run(t, v, n); b.End != api.EnSteps || b.Code != 0 || !irsem.Agree(b, whole) {
				t.Errorf("%s\ndoes %s with %d steps, %s with %d", r.text, show(b), n, show(whole), r.steps)
			}
		}
		for _, n := range []int{r.steps + 1, r.steps + 1000, api.MaxMSteps} {
			if b := run(t, v, n); !equal(b, whole) {
				t.Errorf("%s\ndoes %s with %d steps, %s with %d", r.text, show(b), n, show(whole), r.steps)
			}
		}
	}
}

// P21.3: the examples of the chapter.
func TestRunExamples(t *testing.T) {
	m := samples.Read(t, "main f; func f params 0 regs 2 { b0: r0 = sub 7, r1; print r0; return; }")
	for _, c := range []struct {
		faults []int
		steps  int
		want   string
	}{
		{nil, 10, "[7] done"}, {[]int{api.FtChoose1}, 10, "[-7] done"}, {nil, 3, "[] cut"}, {nil, 4, "[7] cut"}, {nil, 5, "[7] done"}, {[]int{api.FtChoose1}, 4, "[-7] done"},
	} {
		if got := show(run(t, made(t, m, c.faults...), c.steps)); got != c.want {
			t.Errorf("with %v and %d steps: %s, want %s", c.faults, c.steps, got, c.want)
		}
	}
}

// P21.3: registers, operations, checks and prints.
func TestRunOperations(t *testing.T) {
	expectDone(t, []does{
		inMain("set r0, -7; move r1, r0; set r0, 2; print r1; print r0; print r5; return;", 7, "[-7 2 0] done"),
		inMain("set r0, -7; set r1, 2; sub r2, r0, r1; print r2; div r2, r0, r1; print r2; shl r2, r0, r1; print r2; lt r2, r0, r1; print r2; return;", 11, "[-9 -3 -28 1] done"),
		inMain("set r0, 12; subi r1, r0, 20; print r1; remi r1, r1, 3; print r1; xori r1, r0, 10; print r1; lei r1, r0, 12; print r1; addi r0, r0, -2147483648; print r0; return;", 12, "[-8 -2 6 1 -2147483636] done"),
		inMain("set r0, -9223372036854775808; divi r1, r0, -1; print r1; muli r0, r0, 2; print r0; return;", 6, "[-9223372036854775808 0] done"),
		inMain("set r0, 1; print r0; div r0, r0, r1; print r0; return;", 3, "[1] trap 1"),
		inMain("set r0, 1; print r0; remi r0, r0, 0; print r0; return;", 3, "[1] trap 1"),
		inMain("trap;", 1, "[] trap 3"),
		inMain("return r0;", 1, "[] done"),
		inMain("set r0, 7; return r0;", 2, "[] done"),
	})
	for _, c := range []struct {
		a, b int64
		ok   bool
	}{{0, 1, true}, {3, 4, true}, {4, 4, false}, {5, 4, false}, {-1, 4, false}, {0, 0, false}, {-2, -1, false}, {-1, 0, false}, {0, -1, false}, {1<<31 - 2, 1<<31 - 1, true}, {least, 1, false}, {greatest, 1<<31 - 1, false}} {
		want, steps := "[] trap 2", 3
		if c.ok {
			want, steps = "[1] done", 6
		}
		expectDone(t, []does{
			inMain(fmt.Sprintf("set r0, %d; set r1, %d; check r0, r1; set r2, 1; print r2; return;", c.a, c.b), steps, want),
			inMain(fmt.Sprintf("set r0, %d; set r2, 1; checki r0, %d; move r1, r2; print r1; return;", c.a, c.b), steps, want),
		})
	}
}

// P21.3: blocks: each instruction is a step, also a zero that leads nowhere; the block 0 may be gone to.
func TestRunBlocks(t *testing.T) {
	expectDone(t, []does{
		inMain("zero r0, 1; jump 2; b1: print r0; return; b2: trap;", 3, "[0] done"),
		inMain("set r0, -1; zero r0, 1; jump 2; b1: print r0; return; b2: trap;", 4, "[] trap 3"),
		inMain("jump 1; b1: jump 3; b2: trap; b3: return;", 3, "[] done"),
		inMain("addi r0, r0, 1; print r0; lti r1, r0, 3; zero r1, 1; jump 0; b1: return;", 15, "[1 2 3] done"),
		inMain("jump 0;", 500, "[] cut"),
		inMain("zero r0, 0; jump 1; b1: return;", 500, "[] cut"),
	})
}

// P21.3: the memory begins with Data, is 0 after that, and has 20000 words.
func TestRunMemory(t *testing.T) {
	expectDone(t, []does{
		inMain("load r0, 0, r5; print r0; load r0, 1, r5; print r0; load r0, 2, r5; print r0; load r0, 19999, r5; print r0; return;", 9, "[5 -6 0 0] done"),
		inMain("set r0, 7; store 19999, r5, r0; set r1, 20000; load r2, -1, r1; print r2; store 3, r5, r0; load r2, 3, r5; print r2; return;", 9, "[7 7] done"),
		inMain("set r0, 2; store 0, r0, r0; store 1, r0, r5; load r1, -1, r0; print r1; load r1, 0, r0; print r1; return;", 8, "[-6 2] done"),
		inMain("load r0, 20000, r5; return;", 1, "[] trap 10"),
		inMain("load r0, -1, r5; return;", 1, "[] trap 10"),
		inMain("store 20000, r5, r5; return;", 1, "[] trap 10"),
		inMain("print r5; store -1, r5, r5; return;", 2, "[0] trap 10"),
		inMain("set r0, 9223372036854775807; load r0, 1, r0; return;", 2, "[] trap 10"),
		inMain("set r0, 9223372036854775807; store 2147483647, r0, r0; return;", 2, "[] trap 10"),
		inMain("set r0, -9223372036854775808; load r0, -2147483648, r0; return;", 2, "[] trap 10"),
		inMain("set r0, -2147483648; load r0, 2147483647, r0; return;", 2, "[] trap 10"),
		inMain("set r0, -2147483647; load r0, 2147483647, r0; print r0; return;", 4, "[5] done"),
		inMain("set r0, 2147483648; load r0, -2147483648, r0; print r0; return;", 4, "[5] done"),
	})
}

// P21.3: local arrays are behind what is taken already; the room is free again after a call, and its words keep what they were.
func TestRunLocals(t *testing.T) {
	expectDone(t, []does{
		inMain("local r0, 0; print r0; local r0, 1; print r0; return;", 5, "[4 6] done"),
		{"words 3; data; main 0; func args 0 regs 1 locals 2 { b0: call 1; call 2; call 1; local r0, 0; print r0; return; } func args 0 regs 1 locals 16 1 { b0: local r0, 1; print r0; call 2; return; } func args 0 regs 1 locals 1 1 3 { b0: local r0, 2; print r0; return; }", 23, "[21 24 7 21 24 3] done"},
		{"words 1; data 9; main 0; func args 0 regs 1 locals { b0: call 1; call 1; call 2; call 1; return; } func args 0 regs 3 locals 2 { b0: local r0, 0; load r1, 1, r0; print r1; addi r1, r1, 1; store 1, r0, r1; return; } func args 0 regs 2 locals 3 { b0: local r0, 0; load r1, 1, r0; print r1; addi r1, r1, 5; store 1, r0, r1; return; }", 29, "[0 1 2 7] done"},
		{"words 0; data; main 1; func args 1 regs 2 locals 1 { b0: param r0, 0; local r1, 0; print r1; load r1, 1, r0; print r1; store 0, r0, r1; return; } func args 0 regs 2 locals 2 { b0: local r0, 0; set r1, 8; store 1, r0, r1; arg 0, r0; call 0; load r1, 0, r0; print r1; return; }", 15, "[2 8 8] done"},
	})
}

// P21.3: arguments are those that the caller has set for this call; results those of the last call that has returned.
func TestRunCalls(t *testing.T) {
	const prints = "func args 3 regs 1 locals { b0: param r0, 0; print r0; param r0, 1; print r0; param r0, 2; print r0; return; } "
	const seven = "func args 0 regs 1 locals { b0: set r0, 7; return r0; } "
	const nothing = "func args 0 regs 1 locals { b0: call 2; set r0, 3; return; } "
	main := func(code string) string {
		return "words 0; data; main 0; func args 0 regs 4 locals { b0: " + code + " return; } " + prints + seven + nothing
	}
	expectDone(t, []does{
		{main("set r0, 4; set r1, 5; arg 1, r1; arg 0, r0; call 1;"), 13, "[4 5 0] done"},
		{main("set r0, 4; arg 2, r0; arg 15, r0; set r0, 5; arg 2, r0; call 1; call 1; arg 0, r0; call 1;"), 31, "[0 0 5 0 0 0 5 0 0] done"},
		{main("set r0, 4; arg 1, r0; call 2; call 1;"), 14, "[0 0 0] done"},
		{main("result r0; print r0; call 2; result r0; print r0; result r1; print r1;"), 10, "[0 7 7] done"},
		{main("call 2; call 1; result r0; print r0;"), 14, "[0 0 0 0] done"},
		{main("call 2; call 3; result r0; print r0;"), 12, "[0] done"},
		{"words 0; data; main 2; func args 1 regs 2 locals { b0: result r1; print r1; param r0, 0; muli r0, r0, 10; return r0; } func args 1 regs 2 locals { b0: param r0, 0; arg 0, r0; call 0; result r0; arg 0, r0; call 0; result r0; return r0; } func args 0 regs 1 locals { b0: set r0, 3; arg 0, r0; call 1; result r0; print r0; return; }", 24, "[0 0 300] done"},
		{"words 0; data; main 0; func args 0 regs 2 locals { b0: set r0, 3; call 1; print r0; call 1; return; } func args 0 regs 1 locals { b0: print r0; set r0, 5; return; }", 11, "[0 3 0] done"},
		{"words 0; data; main 0; func args 0 regs 1 locals { b0: print r0; call 1; print r0; return; } func args 0 regs 1 locals { b0: call 2; return; } func args 0 regs 1 locals { b0: print r0; remi r0, r0, 0; return; }", 5, "[0 0] trap 1"},
		{"words 0; data; main 1; func args 0 regs 0 locals { b0: call 1; return; } func args 0 regs 1 locals { b0: print r0; return; }", 2, "[0] done"},
	})
}

// P21.3: as many arguments and calls in each other as there may be.
func TestRunDeep(t *testing.T) {
	var text strings.Builder
	text.WriteString("words 1000; data; main 0;")
	for i := range 20 {
		args, code := 16, ""
		if i == 0 {
			args, code = 0, "set r0, 1; arg 15, r0; "
		} else {
			code = "param r0, 15; addi r0, r0, 1; arg 15, r0; "
		}
		if i < 19 {
			code += fmt.Sprintf("call %d; ", i+1)
		}
		fmt.Fprintf(&text, " func args %d regs 2 locals%s { b0: %slocal r1, 19; print r1; print r0; return; }", args, strings.Repeat(" 16", 20), code)
	}
	var want []int64
	for i := range int64(20) {
		want = append(want, 1000+320*(20-i)-16, 20-i)
	}
	if b := run(t, samples.ReadVirtual(t, text.String()), 1000); b.End != api.EnDone || !slices.Equal(b.Out, want) {
		t.Errorf("%s, want %v", show(b), want)
	}
}

// P21.3: MaxOut numbers may be printed, and one more ends the run.
func TestRunPrintsTooMuch(t *testing.T) {
	loop := func(n int, last string) api.VCode {
		return samples.ReadVirtual(t, inMain(fmt.Sprintf("print r0; addi r1, r1, 1; lti r2, r1, %d; zero r2, 1; jump 0; b1: %s", n, last), 0, "").text)
	}
	for _, c := range []struct {
		v         api.VCode
		steps     int
		out       int
		end, code int
	}{
		{loop(2000, "return;"), 20000, 2000, api.EnDone, 0},
		{loop(2000, "return;"), 10000, 2000, api.EnDone, 0},
		{loop(2000, "return;"), 9999, 2000, api.EnSteps, 0},
		{loop(2000, "trap;"), 20000, 2000, api.EnTrap, api.TrStated},
		{loop(2000, "print r0; trap;"), 20000, 2000, api.EnSteps, 0},
		{loop(2001, "trap;"), 20000, 2000, api.EnSteps, 0},
		{loop(1999, "print r0; return;"), 20000, 2000, api.EnDone, 0},
		{loop(1<<31-1, "return;"), api.MaxMSteps, 2000, api.EnSteps, 0},
	} {
		if b := run(t, c.v, c.steps); len(b.Out) != c.out || b.End != c.end || b.Code != c.code {
			t.Errorf("with %d steps: %d numbers, end %d, %d; want %d, %d, %d", c.steps, len(b.Out), b.End, b.Code, c.out, c.end, c.code)
		}
	}
}

// P21.3, R2: steps from 0 to MaxMSteps; what is wrong with the code comes first.
func TestRunErrors(t *testing.T) {
	good := samples.ReadVirtual(t, inMain("addi r0, r0, 1; lti r1, r0, 1249999; zero r1, 1; jump 0; b1: print r0; return;", 0, "").text)
	for _, steps := range []int{least, -1, api.MaxMSteps + 1, greatest} {
		if b, e := choose.Run(good, steps); e != api.ErrArg || !equal(b, api.Behaviour{}) {
			t.Errorf("Run with %d steps: %s, error %d", steps, show(b), e)
		}
		if b, e := choose.Run(api.VCode{Words: 1001}, steps); e != api.ErrLong || !equal(b, api.Behaviour{}) {
			t.Errorf("Run with %d steps: %s, error %d", steps, show(b), e)
		}
	}
	for steps, want := range map[int]string{0: "[] cut", 4999995: "[] cut", 4999996: "[1249999] cut", 4999997: "[1249999] done", api.MaxMSteps: "[1249999] done"} {
		if got := show(run(t, good, steps)); got != want {
			t.Errorf("Run with %d steps: %s, want %s", steps, got, want)
		}
	}
}

// P21.3: virtual code that is drawn, with each number of steps up to some, is run as the model does.
func TestRunModel(t *testing.T) {
	t.Parallel()
	seen := map[string]int{}
	for seed := range uint64(2500) {
		v := samples.Virtual(seed, 5)
		list := []int{0, 1, 2, 3, 5, 9, 20, 60, 250}
		if seed%20 == 0 {
			for steps := range 100 {
				list = append(list, steps)
			}
		}
		for _, steps := range list {
			b, want := run(t, v, steps), modelRun(v, steps)
			if !equal(b, want) {
				t.Fatalf("%s\nRun with %d steps: %s, want %s", samples.VirtualText(v), steps, show(b), show(want))
			}
		}
		b := run(t, v, 250)
		seen[fmt.Sprint(b.End, b.Code, len(b.Out) > 0)]++
	}
	for _, end := range []string{"1 0", "2 1", "2 2", "2 3", "2 10", "4 0"} {
		if seen[end+" true"] < 20 {
			t.Errorf("ends: %v", seen)
		}
	}
}

// P21.3: so is what Make returns, with faults and without.
func TestRunMadeModel(t *testing.T) {
	turn := 0
	samples.Plain(t, 120, func(m api.Module) {
		lists := faultLists()
		v := made(t, m, lists[turn%len(lists)]...)
		turn++
		for _, steps := range []int{30, 100, 1500} {
			if b, want := run(t, v, steps), modelRun(v, steps); !equal(b, want) {
				t.Fatalf("%s\nRun with %d steps: %s, want %s", samples.VirtualText(v), steps, show(b), show(want))
			}
		}
	})
}
