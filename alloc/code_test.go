package alloc_test

import (
	"fmt"
	"regexp"
	"strings"
	"testing"

	"cupel/alloc"
	"cupel/api"
	"cupel/samples"
)

// codeRow is virtual code, so many registers of the machine, and the text of its image.
type codeRow struct {
	text string
	k    int
	want string
}

func expectCode(t *testing.T, faults []int, rows []codeRow) {
	t.Helper()
	for _, r := range rows {
		if got := textOf(imageOf(t, read(t, r.text), r.k, faults...)); got != r.want {
			t.Errorf("%s\nwith %d registers and the faults %v is\n%s\nwant\n%s", r.text, r.k, faults, got, r.want)
		}
	}
}

// inMain is a row for the blocks of Main, the only function.
func inMain(blocks string, k int, want string) codeRow {
	return codeRow{"words 0; data; main 0; func args 0 regs 10 locals { b0: " + blocks + " }", k, "entry 0; set r8, 0; call 3; halt; " + want}
}

// P22.2: the examples of the chapter.
func TestCodeExamples(t *testing.T) {
	expectCode(t, nil, []codeRow{
		{example, 2, "entry 0; set r8, 0; call 3; halt; set r0, 0; set r1, 7; sub r0, r1, r0; print r0; return;"},
		{example, 1, "entry 0; set r8, 0; call 3; halt; set r0, 0; set r6, 7; store 0(r8), r6; load r6, 0(r8); sub r0, r6, r0; print r0; return;"},
		{example, 0, "entry 0; set r8, 0; call 3; halt; set r6, 0; store 1(r8), r6; set r6, 7; store 2(r8), r6; load r6, 2(r8); load r7, 1(r8); sub r6, r6, r7; store 0(r8), r6; load r6, 0(r8); print r6; return;"},
	})
}

// pattern is an instruction of virtual code, whose registers are called A, B and D, and that of the machine, where F is the size of the frame, and F2 that and two more.
type pattern struct{ virtual, machine string }

// patterns are those of all operations that need no block, for a function with 3 arguments and local arrays of 2, 4 and 3 elements.
func patterns() []pattern {
	list := []pattern{
		{"move D, A;", "move D, A;"},
		{"set D, 5;", "set D, 5;"},
		{"set D, 2147483647;", "set D, 2147483647;"},
		{"set D, -2147483648;", "set D, -2147483648;"},
		{"set D, 2147483648;", "wide D, 2147483648;"},
		{"set D, -2147483649;", "wide D, -2147483649;"},
		{"set D, 9223372036854775807;", "wide D, 9223372036854775807;"},
		{"set D, -9223372036854775808;", "wide D, -9223372036854775808;"},
		{"load D, 7, A;", "load D, 7(A);"},
		{"load D, -2147483648, A;", "load D, -2147483648(A);"},
		{"store -1, A, B;", "store -1(A), B;"},
		{"store 2147483647, A, B;", "store 2147483647(A), B;"},
		{"local D, 0;", "addi D, r8, 3;"},
		{"local D, 1;", "addi D, r8, 5;"},
		{"local D, 2;", "addi D, r8, 9;"},
		{"check A, B;", "check A, B;"},
		{"checki A, 9;", "checki A, 9;"},
		{"checki A, -2147483648;", "checki A, -2147483648;"},
		{"print A;", "print A;"},
		{"param D, 0;", "load D, 0(r8);"},
		{"param D, 2;", "load D, 2(r8);"},
		{"arg 0, A;", "store F(r8), A;"},
		{"arg 2, A;", "store F2(r8), A;"},
		{"result D;", "move D, r9;"},
	}
	for _, w := range strings.Fields("add sub mul div rem and or xor shl shr eq ne lt le") {
		list = append(list, pattern{w + " D, A, B;", w + " D, A, B;"}, pattern{w + "i D, A, -5;", w + "i D, A, -5;"}, pattern{w + "i D, A, 2147483647;", w + "i D, A, 2147483647;"})
	}
	return list
}

// has reports whether an instruction names a register.
func has(text, register string) bool {
	return regexp.MustCompile(`\b` + register + `\b`).MatchString(text)
}

// around returns code in which an instruction stands between two marks, where the registers D, A and B, which are r0, r1 and r2, are spilled or not.
func around(virtual string, isSpilled map[string]bool) string {
	registers := map[string]string{"D": "r0", "A": "r1", "B": "r2"}
	var before, after, behind, last string
	for _, name := range []string{"A", "B"} {
		if !has(virtual, name) {
			continue
		}
		if behind += "print " + registers[name] + "; "; isSpilled[name] {
			before += "set " + registers[name] + ", 1; "
		} else {
			after += "set " + registers[name] + ", 1; "
		}
	}
	if has(virtual, "D") && isSpilled["D"] {
		last = "print r0; "
	} else if has(virtual, "D") {
		behind += "print r0; "
	}
	return before + "call 2; " + after + "set r3, 777; " + strings.NewReplacer("D", "r0", "A", "r1", "B", "r2").Replace(virtual) + " set r4, 778; " + behind + "call 2; " + last
}

// expected returns the code of the machine for a pattern.
func (p pattern) expected(isSpilled map[string]bool) string {
	registers, places := map[string]string{}, map[string]int{}
	free, size := 0, 3+9
	for _, name := range []string{"D", "A", "B"} {
		if has(p.virtual, name) && isSpilled[name] {
			places[name] = size
			size++
		}
	}
	for _, name := range []string{"A", "B", "D"} {
		switch {
		case !has(p.virtual, name):
		case isSpilled[name]:
			registers[name] = map[string]string{"A": "r6", "B": "r7", "D": "r6"}[name]
		default:
			registers[name] = fmt.Sprint("r", free)
			free++
		}
	}
	var text string
	for _, name := range []string{"A", "B"} {
		if place, is := places[name]; is {
			text += fmt.Sprintf("load %s, %d(r8); ", registers[name], place)
		}
	}
	text += strings.NewReplacer("D", registers["D"], "A", registers["A"], "B", registers["B"], "F2", fmt.Sprint(size+2), "F", fmt.Sprint(size)).Replace(p.machine)
	if place, is := places["D"]; is {
		text += fmt.Sprintf(" store %d(r8), r6;", place)
	}
	return text
}

var marks = regexp.MustCompile(`set r\d, 77[78];`)

// P22.2: each operation, where any of its registers are spilled.
func TestCodePatterns(t *testing.T) {
	seen := map[int]bool{}
	for _, p := range patterns() {
		for n := range 8 {
			isSpilled := map[string]bool{"D": n&1 > 0, "A": n&2 > 0, "B": n&4 > 0}
			code := around(p.virtual, isSpilled)
			v := read(t, "words 0; data; main 1; func args 3 regs 5 locals 2 4 3 { b0: "+code+"return; } func args 0 regs 0 locals { b0: return; } func args 3 regs 0 locals { b0: return; }")
			for _, x := range v.Funcs[0].Blocks[0] {
				seen[x.Op] = true
			}
			parts := marks.Split(textOf(imageOf(t, v, 4)), -1)
			want := p.expected(isSpilled)
			if len(parts) != 3 || strings.TrimSpace(parts[1]) != want {
				t.Errorf("%s\nis %q, want %q", code, parts, want)
			}
		}
	}
	for _, o := range samples.VirtualOps() {
		if !seen[o.Op] && o.Op != api.VcZero && o.Op != api.VcJump && o.Op != api.VcTrap {
			t.Errorf("%s is not looked at", o.Word)
		}
	}
}

// P22.2: a register that is read twice is loaded twice, as A and as B, and one that is read and written is loaded and stored.
func TestCodeSameRegister(t *testing.T) {
	expectCode(t, nil, []codeRow{
		inMain("set r5, 1; add r5, r5, r5; return r5;", 0, "set r6, 1; store 0(r8), r6; load r6, 0(r8); load r7, 0(r8); add r6, r6, r7; store 0(r8), r6; load r6, 0(r8); move r9, r6; return;"),
		inMain("set r5, 1; add r5, r5, r5; return r5;", 1, "set r0, 1; add r0, r0, r0; move r9, r0; return;"),
		inMain("set r5, 1; check r5, r5; store 3, r5, r5; trap;", 0, "set r6, 1; store 0(r8), r6; load r6, 0(r8); load r7, 0(r8); check r6, r7; load r6, 0(r8); load r7, 0(r8); store 3(r6), r7; trap;"),
		inMain("move r5, r5; return;", 0, "load r6, 0(r8); move r6, r6; store 0(r8), r6; return;"),
		inMain("move r5, r5; return;", 6, "move r0, r0; return;"),
	})
}

// P22.2: returns of registers, and of nothing.
func TestCodeReturns(t *testing.T) {
	expectCode(t, nil, []codeRow{
		inMain("return;", 6, "return;"),
		inMain("set r3, 4; return r3;", 6, "set r0, 4; move r9, r0; return;"),
		inMain("set r3, 4; return r3;", 0, "set r6, 4; store 0(r8), r6; load r6, 0(r8); move r9, r6; return;"),
		inMain("return r0; b1: return r1;", 1, "move r9, r0; return; move r9, r0; return;"),
		inMain("trap; b1: return;", 1, "trap; return;"),
	})
}

// P22.2: jumps, to all places; the one to the next block is left out.
func TestCodeJumps(t *testing.T) {
	expectCode(t, nil, []codeRow{
		inMain("jump 0;", 0, "jump 3;"),
		inMain("jump 1; b1: jump 0;", 0, "jump 3;"),
		inMain("jump 1; b1: jump 1;", 0, "jump 3;"),
		inMain("jump 2; b1: trap; b2: jump 1;", 0, "jump 5; trap; jump 4;"),
		inMain("jump 3; b1: trap; b2: jump 3; b3: jump 2;", 0, "jump 5; trap; jump 5;"),
		inMain("jump 1; b1: jump 2; b2: jump 3; b3: jump 0;", 0, "jump 3;"),
		inMain("set r0, 1; jump 1; b1: set r1, 1; jump 3; b2: trap; b3: jump 1;", 1, "set r0, 1; set r0, 1; jump 7; trap; jump 4;"),
		inMain("zero r0, 1; jump 1; b1: return;", 1, "zero r0, 4; return;"),
		inMain("zero r0, 1; jump 2; b1: return; b2: trap;", 1, "zero r0, 5; jump 6; return; trap;"),
		inMain("zero r0, 2; jump 1; b1: return; b2: trap;", 1, "zero r0, 5; return; trap;"),
		inMain("zero r0, 0; jump 0;", 1, "zero r0, 3; jump 3;"),
		inMain("zero r0, 2; jump 1; b1: jump 2; b2: trap;", 1, "zero r0, 4; trap;"),
		inMain("jump 2; b1: zero r4, 0; jump 2; b2: zero r5, 1; jump 0;", 2, "jump 5; zero r0, 3; zero r1, 4; jump 3;"),
		inMain("jump 2; b1: zero r4, 0; jump 2; b2: zero r5, 1; jump 0;", 1, "jump 5; zero r0, 3; load r6, 0(r8); zero r6, 4; jump 3;"),
		inMain("jump 2; b1: zero r4, 0; jump 2; b2: zero r5, 1; jump 0;", 0, "jump 6; load r6, 0(r8); zero r6, 3; load r6, 1(r8); zero r6, 4; jump 3;"),
	})
}

// P22.2: addresses are those of words, of which wide has two.
func TestCodeAddresses(t *testing.T) {
	expectCode(t, nil, []codeRow{
		inMain("jump 2; b1: set r0, 4294967296; set r1, 7; jump 3; b2: jump 1; b3: set r2, -4294967296; jump 2;", 1, "jump 8; wide r0, 4294967296; set r0, 7; jump 9; jump 4; wide r0, -4294967296; jump 8;"),
		inMain("zero r9, 2; jump 1; b1: set r0, 4294967296; jump 2; b2: set r0, 4294967296; trap;", 0, "load r6, 1(r8); zero r6, 8; wide r6, 4294967296; store 0(r8), r6; wide r6, 4294967296; store 0(r8), r6; trap;"),
		{"words 0; data; main 2; func args 0 regs 1 locals { b0: set r0, 4294967296; call 1; return; } func args 0 regs 1 locals { b0: jump 2; b1: return; b2: set r0, -4294967296; jump 1; } func args 0 regs 0 locals { b0: call 0; call 1; return; }", 1,
			"entry 0; set r8, 0; call 14; halt; wide r0, 4294967296; addi r8, r8, 0; call 9; subi r8, r8, 0; return; jump 11; return; wide r0, -4294967296; jump 10; addi r8, r8, 0; call 3; subi r8, r8, 0; addi r8, r8, 0; call 9; subi r8, r8, 0; return;"},
	})
}

// P22.2: the beginning says the words of the memory and Main, wherever that is; functions that are not called are there as well, and so are the data.
func TestCodeBeginning(t *testing.T) {
	expectCode(t, nil, []codeRow{
		{"words 7; data 5 -6; main 0; func args 0 regs 0 locals { b0: return; }", 0, "entry 0; data 5; data -6; set r8, 7; call 3; halt; return;"},
		{"words 1000; data; main 1; func args 2 regs 1 locals { b0: param r0, 1; print r0; return; } func args 0 regs 0 locals { b0: trap; }", 1, "entry 0; set r8, 1000; call 6; halt; load r0, 1(r8); print r0; return; trap;"},
		{"words 2; data 9223372036854775807 -9223372036854775808; main 0; func args 0 regs 0 locals { b0: trap; b1: return; } func args 16 regs 0 locals 16 { b0: return; }", 3, "entry 0; data 9223372036854775807; data -9223372036854775808; set r8, 2; call 3; halt; trap; return; return;"},
	})
}

// P22.2: arguments and calls, behind a frame with arguments, local arrays and registers that are spilled.
func TestCodeCalls(t *testing.T) {
	const text = "words 1; data 4; main 1; func args 2 regs 3 locals 3 { b0: param r0, 0; param r1, 1; call 2; result r2; print r0; print r2; return r1; } func args 0 regs 4 locals 4 { b0: set r3, 5; arg 1, r3; arg 0, r3; call 0; result r0; local r1, 0; store 3, r1, r0; return; } func args 0 regs 1 locals { b0: set r0, 8; return r0; }"
	expectCode(t, nil, []codeRow{
		{text, 6, "entry 0; data 4; set r8, 1; call 17; halt; load r6, 0(r8); store 5(r8), r6; load r6, 1(r8); store 6(r8), r6; addi r8, r8, 7; call 27; subi r8, r8, 7; move r0, r9; load r6, 5(r8); print r6; print r0; load r6, 6(r8); move r9, r6; return; set r0, 5; store 5(r8), r0; store 4(r8), r0; addi r8, r8, 4; call 3; subi r8, r8, 4; move r0, r9; addi r1, r8, 0; store 3(r1), r0; return; set r0, 8; move r9, r0; return;"},
	})
	expectCode(t, []int{api.FtAlloc1}, []codeRow{
		{text, 6, "entry 0; data 4; set r8, 1; call 13; halt; load r0, 0(r8); load r1, 1(r8); addi r8, r8, 5; call 23; subi r8, r8, 5; move r2, r9; print r0; print r2; move r9, r1; return; set r0, 5; store 5(r8), r0; store 4(r8), r0; addi r8, r8, 4; call 3; subi r8, r8, 4; move r0, r9; addi r1, r8, 0; store 3(r1), r0; return; set r0, 8; move r9, r0; return;"},
	})
}

// P22.1, P22.2: a span gets the least register of the machine that is free, or that of the one which is spilled for it.
func TestCodeRegisters(t *testing.T) {
	expectCode(t, nil, []codeRow{
		inMain("set r0, 0; set r1, 1; set r2, 2; print r1; print r0; set r3, 3; set r4, 4; set r5, 5; print r2; print r3; print r4; print r5; return;", 6, "set r0, 0; set r1, 1; set r2, 2; print r1; print r0; set r0, 3; set r1, 4; set r3, 5; print r2; print r0; print r1; print r3; return;"),
		inMain("set r0, 0; set r1, 1; set r2, 2; print r2; print r1; print r0; return;", 2, "set r6, 0; store 0(r8), r6; set r1, 1; set r0, 2; print r0; print r1; load r6, 0(r8); print r6; return;"),
		inMain("set r0, 0; set r1, 1; set r2, 2; print r2; print r0; print r1; return;", 2, "set r0, 0; set r6, 1; store 0(r8), r6; set r1, 2; print r1; print r0; load r6, 0(r8); print r6; return;"),
		inMain("set r0, 0; set r1, 1; print r1; set r2, 2; print r2; print r0; return;", 2, "set r0, 0; set r1, 1; print r1; set r1, 2; print r1; print r0; return;"),
		inMain("print r5; print r3; print r4; return;", 6, "print r2; print r0; print r1; return;"),
		inMain("set r9, 5; set r7, 6; set r8, 7; set r6, 8; set r5, 9; set r4, 1; print r4; print r5; print r6; print r7; print r8; print r9; return;", 6, "set r0, 5; set r1, 6; set r2, 7; set r3, 8; set r4, 9; set r5, 1; print r5; print r4; print r3; print r1; print r2; print r0; return;"),
	})
}

// P22.2: the places of registers that are spilled ascend with these, whichever is spilled first.
func TestCodePlaces(t *testing.T) {
	expectCode(t, nil, []codeRow{
		inMain("set r4, 4; set r7, 7; set r2, 2; print r2; print r7; print r4; return;", 1, "set r6, 4; store 0(r8), r6; set r6, 7; store 1(r8), r6; set r0, 2; print r0; load r6, 1(r8); print r6; load r6, 0(r8); print r6; return;"),
		inMain("set r7, 7; set r4, 4; set r2, 2; print r2; print r4; print r7; return;", 1, "set r6, 7; store 1(r8), r6; set r6, 4; store 0(r8), r6; set r0, 2; print r0; load r6, 0(r8); print r6; load r6, 1(r8); print r6; return;"),
	})
}

// P22.2: with FtAlloc2, the second register that is spilled is where the first one is; the third one stays where it is, and so does what is behind the frame.
func TestCodePlacesFault(t *testing.T) {
	const three = "set r7, 7; set r4, 4; set r2, 2; print r2; print r4; print r7; arg 1, r7; return;"
	fault := []int{api.FtAlloc2}
	expectCode(t, nil, []codeRow{
		inMain(three, 0, "set r6, 7; store 2(r8), r6; set r6, 4; store 1(r8), r6; set r6, 2; store 0(r8), r6; load r6, 0(r8); print r6; load r6, 1(r8); print r6; load r6, 2(r8); print r6; load r6, 2(r8); store 4(r8), r6; return;"),
	})
	expectCode(t, fault, []codeRow{
		inMain(three, 0, "set r6, 7; store 2(r8), r6; set r6, 4; store 0(r8), r6; set r6, 2; store 0(r8), r6; load r6, 0(r8); print r6; load r6, 0(r8); print r6; load r6, 2(r8); print r6; load r6, 2(r8); store 4(r8), r6; return;"),
		inMain(three, 1, "set r6, 7; store 0(r8), r6; set r6, 4; store 0(r8), r6; set r0, 2; print r0; load r6, 0(r8); print r6; load r6, 0(r8); print r6; load r6, 0(r8); store 3(r8), r6; return;"),
		inMain(three, 2, "set r6, 7; store 0(r8), r6; set r1, 4; set r0, 2; print r0; print r1; load r6, 0(r8); print r6; load r6, 0(r8); store 2(r8), r6; return;"),
		inMain(three, 3, "set r0, 7; set r1, 4; set r2, 2; print r2; print r1; print r0; store 1(r8), r0; return;"),
	})
}

// P22.2: with FtAlloc3, what is live is no matter for the registers.
func TestCodeLiveFault(t *testing.T) {
	const loop = "set r0, 5; jump 1; b1: print r0; set r1, 7; print r1; zero r1, 2; jump 1; b2: return;"
	expectCode(t, nil, []codeRow{inMain(loop, 2, "set r0, 5; print r0; set r1, 7; print r1; zero r1, 9; jump 4; return;")})
	expectCode(t, []int{api.FtAlloc3}, []codeRow{inMain(loop, 2, "set r0, 5; print r0; set r0, 7; print r0; zero r0, 9; jump 4; return;")})
}

// P22.2: the faults of other layers, and Most, do not matter.
func TestCodeLimits(t *testing.T) {
	samples.Plain(t, 10, func(m api.Module) {
		v := made(t, m)
		for k := range most + 1 {
			want := imageOf(t, v, k)
			for _, x := range otherLimits() {
				if i, e := alloc.Alloc(v, k, x); e != api.OK || !sameImage(i, want) {
					t.Fatalf("%s\nwith %d, %v: error %d", samples.VirtualText(v), k, x, e)
				}
			}
		}
	})
}
