package choose_test

import (
	"fmt"
	"slices"
	"strings"
	"testing"

	"cupel/api"
	"cupel/samples"
)

// row is a module, whose function 0 is looked at, and the virtual code of that.
type row struct{ text, want string }

// expectRows wants what rows say of the functions 0 of modules.
func expectRows(t *testing.T, faults []int, rows []row) {
	t.Helper()
	for _, r := range rows {
		v := made(t, samples.Read(t, r.text), faults...)
		if got := codeOf(v.Funcs[0]); got != r.want {
			t.Errorf("%s\nwith the faults %v is\n%s\nwant\n%s", r.text, faults, got, r.want)
		}
	}
}

// rest is what modules of rows have besides the function 0, which may call g: two cells, and arrays at the addresses 2, 5 (small) and 7.
const rest = "cell c = 5; cell d = 6; array x[3]; array y[2] small; array z[4]; main m; %s func m params 0 regs 0 { b0: return; } func g params 2 regs 2 result { param[3]; local[2]; param[2] small; b0: return 0; } func h params 0 regs 0 { b0: return; }"

// inFunc is a row for a function with the registers r0 to r4, all of them parameters, so that none is set to 0. The arrays are those of decls.
func inFunc(decls, code, want string) row {
	return row{fmt.Sprintf(rest, "func f params 5 regs 5 { "+decls+" b0: "+code+" return; }"), "param r0, 0; param r1, 1; param r2, 2; param r3, 3; param r4, 4; " + want + " return;"}
}

// P21.1: the examples of the chapter.
func TestMakeExamples(t *testing.T) {
	const text = "main f; func f params 0 regs 2 { b0: r0 = sub 7, r1; print r0; return; }"
	expectRows(t, nil, []row{{text, "set r1, 0; set r2, 7; sub r0, r2, r1; print r0; return;"}})
	expectRows(t, []int{api.FtChoose1}, []row{{text, "set r1, 0; subi r0, r1, 7; print r0; return;"}})
}

// P21.1: copies, of registers and of any constants.
func TestMakeCopies(t *testing.T) {
	expectRows(t, nil, []row{
		inFunc("", "r0 = r1;", "move r0, r1;"),
		inFunc("", "r2 = r2;", "move r2, r2;"),
		inFunc("", "r0 = 0; r4 = -7;", "set r0, 0; set r4, -7;"),
		inFunc("", "r0 = 9223372036854775807; r0 = -9223372036854775808;", "set r0, 9223372036854775807; set r0, -9223372036854775808;"),
	})
}

// words are those of all operations; those that begin with a star may be made the other way round.
var words = []string{"*add", "sub", "*mul", "div", "rem", "*and", "*or", "*xor", "shl", "shr", "*eq", "*ne", "lt", "le"}

// P21.1: operations of registers and constants, in both orders; the operands of some are exchanged.
func TestMakeOperations(t *testing.T) {
	for i, w := range words {
		word, isSymmetric := strings.CutPrefix(w, "*")
		if x := (api.VInstr{Op: api.VcBinI + api.IbAdd + i, D: 1, A: 2, Imm: 3}); samples.VirtualCode(x) != word+"i r1, r2, 3;" {
			t.Errorf("%s is not the operation %d", word, api.IbAdd+i)
		}
		for _, faults := range faultLists() {
			isExchanged := isSymmetric || word == "sub" && slices.Contains(faults, api.FtChoose1)
			one, wide := "set r5, 7; "+word+" r0, r5, r1;", "set r5, 2147483648; "+word+" r0, r5, r1;"
			if isExchanged {
				one, wide = word+"i r0, r1, 7;", "set r5, 2147483648; "+word+" r0, r1, r5;"
			}
			expectRows(t, faults, []row{
				inFunc("", "r0 = "+word+" r1, r2;", word+" r0, r1, r2;"),
				inFunc("", "r0 = "+word+" r1, 7;", word+"i r0, r1, 7;"),
				inFunc("", "r0 = "+word+" r1, -2147483649;", "set r5, -2147483649; "+word+" r0, r1, r5;"),
				inFunc("", "r0 = "+word+" 7, r1;", one),
				inFunc("", "r0 = "+word+" 2147483648, r1;", wide),
				inFunc("", "r0 = "+word+" 7, 8;", "set r5, 7; "+word+"i r0, r5, 8;"),
				inFunc("", "r0 = "+word+" 7, 2147483648;", "set r5, 7; set r6, 2147483648; "+word+" r0, r5, r6;"),
				inFunc("", "r0 = "+word+" 2147483648, 7;", "set r5, 2147483648; "+word+"i r0, r5, 7;"),
				inFunc("", "r0 = "+word+" 2147483648, 2147483649;", "set r5, 2147483648; set r6, 2147483649; "+word+" r0, r5, r6;"),
				inFunc("", "r0 = "+word+" r0, r0;", word+" r0, r0, r0;"),
			})
		}
	}
}

// P21.1: the first and the last constants of 32 bits, and those beyond them.
func TestMakeShort(t *testing.T) {
	for _, v := range []int64{0, 1, -1, 1<<31 - 1, -1 << 31} {
		expectRows(t, nil, []row{
			inFunc("", fmt.Sprintf("r0 = sub r1, %d;", v), fmt.Sprintf("subi r0, r1, %d;", v)),
			inFunc("", fmt.Sprintf("r0 = add %d, r1;", v), fmt.Sprintf("addi r0, r1, %d;", v)),
			inFunc("", fmt.Sprintf("check r1, %d;", v), fmt.Sprintf("checki r1, %d;", v)),
		})
	}
	for _, v := range []int64{1 << 31, -1<<31 - 1, 1<<32 - 1, 1 << 32, -1 << 32, greatest, least} {
		expectRows(t, nil, []row{
			inFunc("", fmt.Sprintf("r0 = sub r1, %d;", v), fmt.Sprintf("set r5, %d; sub r0, r1, r5;", v)),
			inFunc("", fmt.Sprintf("r0 = add %d, r1;", v), fmt.Sprintf("set r5, %d; add r0, r1, r5;", v)),
			inFunc("", fmt.Sprintf("check r1, %d;", v), fmt.Sprintf("set r5, %d; check r1, r5;", v)),
		})
	}
}

// P21.1: checks and prints.
func TestMakeChecks(t *testing.T) {
	expectRows(t, nil, []row{
		inFunc("", "check r1, r2;", "check r1, r2;"),
		inFunc("", "check 3, 4;", "set r5, 3; checki r5, 4;"),
		inFunc("", "check 3, r1;", "set r5, 3; check r5, r1;"),
		inFunc("", "check 3, 4294967296;", "set r5, 3; set r6, 4294967296; check r5, r6;"),
		inFunc("", "check -4294967296, 4;", "set r5, -4294967296; checki r5, 4;"),
		inFunc("", "print r3; print 3; print -4294967296;", "print r3; set r5, 3; print r5; set r6, -4294967296; print r6;"),
	})
}

// P21.1: cells are at their addresses.
func TestMakeCells(t *testing.T) {
	expectRows(t, nil, []row{
		inFunc("", "r3 = get c0; r3 = get c1;", "set r5, 0; load r3, 0, r5; set r6, 0; load r3, 1, r6;"),
		inFunc("", "put c0 = r3; put c1 = r2;", "set r5, 0; store 0, r5, r3; set r6, 0; store 1, r6, r2;"),
		inFunc("", "put c1 = 9;", "set r5, 9; set r6, 0; store 1, r6, r5;"),
	})
}

// zeros is what makes the elements of local arrays 0, with the registers from r5 on, up to r7.
const zeros = "set r5, 0; local r6, 0; store 0, r6, r5; store 1, r6, r5; local r7, 1; store 0, r7, r5; store 1, r7, r5; store 2, r7, r5; "

// P21.1: loads from arrays of each kind, by registers and constants.
func TestMakeLoads(t *testing.T) {
	expectRows(t, nil, []row{
		inFunc("global x;", "r0 = load a0[r1];", "remi r5, r1, 3; addi r5, r5, 3; remi r5, r5, 3; load r0, 2, r5;"),
		inFunc("global z; global y;", "r0 = load a0[r1]; r0 = load a1[r0];", "remi r5, r1, 4; addi r5, r5, 4; remi r5, r5, 4; load r0, 7, r5; remi r6, r0, 2; addi r6, r6, 2; remi r6, r6, 2; load r0, 5, r6;"),
		inFunc("global x;", "r0 = load a0[1]; r0 = load a0[3]; r0 = load a0[-1];", "set r5, 2; load r0, 1, r5; set r6, 2; load r0, 0, r6; set r7, 2; load r0, 2, r7;"),
		inFunc("global y;", "r0 = load a0[9223372036854775807]; r0 = load a0[-9223372036854775808];", "set r5, 5; load r0, 1, r5; set r6, 5; load r0, 0, r6;"),
		inFunc("local[2]; local[3];", "r0 = load a1[r1];", zeros+"remi r8, r1, 3; addi r8, r8, 3; remi r8, r8, 3; local r9, 1; add r10, r9, r8; load r0, 0, r10;"),
		inFunc("local[2]; local[3];", "r0 = load a0[-3]; r1 = load a1[-3]; r1 = load a1[-4];", zeros+"local r8, 0; load r0, 1, r8; local r9, 1; load r1, 0, r9; local r10, 1; load r1, 2, r10;"),
		{fmt.Sprintf(rest, "func f params 1 regs 3 { param[4]; global x; param[2]; b0: r1 = load a2[r0]; r1 = load a0[6]; return; }"), "param r0, 0; param r3, 1; param r4, 2; remi r5, r0, 2; addi r5, r5, 2; remi r5, r5, 2; add r6, r4, r5; load r1, 0, r6; load r1, 2, r3; return;"},
	})
	expectRows(t, []int{api.FtChoose2}, []row{
		inFunc("global x;", "r0 = load a0[r1]; r0 = load a0[-1];", "remi r5, r1, 3; load r0, 2, r5; set r6, 2; load r0, 2, r6;"),
		inFunc("local[2]; local[3];", "r0 = load a1[r1];", zeros+"remi r8, r1, 3; local r9, 1; add r10, r9, r8; load r0, 0, r10;"),
	})
}

// P21.1: stores in arrays of each kind, small and not.
func TestMakeStores(t *testing.T) {
	const y, local = "remi r5, r1, 2; addi r5, r5, 2; remi r5, r5, 2; ", "set r5, 0; local r6, 0; store 0, r6, r5; "
	expectRows(t, nil, []row{
		inFunc("global x;", "store a0[r1] = r2;", "remi r5, r1, 3; addi r5, r5, 3; remi r5, r5, 3; store 2, r5, r2;"),
		inFunc("global x;", "store a0[r1] = 300;", "remi r5, r1, 3; addi r5, r5, 3; remi r5, r5, 3; set r6, 300; store 2, r5, r6;"),
		inFunc("global x;", "store a0[5] = 300;", "set r5, 2; set r6, 300; store 2, r5, r6;"),
		inFunc("global y;", "store a0[r1] = r2;", y+"andi r6, r2, 255; store 5, r5, r6;"),
		inFunc("global y;", "store a0[r1] = 300;", y+"set r6, 44; store 5, r5, r6;"),
		inFunc("global y;", "store a0[1] = r2;", "set r5, 5; andi r6, r2, 255; store 1, r5, r6;"),
		inFunc("global y;", "store a0[1] = -1; store a0[1] = -9223372036854775808;", "set r5, 5; set r6, 255; store 1, r5, r6; set r7, 5; set r8, 0; store 1, r7, r8;"),
		inFunc("local[1] small;", "store a0[r1] = r2;", local+"remi r7, r1, 1; addi r7, r7, 1; remi r7, r7, 1; local r8, 0; add r9, r8, r7; andi r10, r2, 255; store 0, r9, r10;"),
		inFunc("local[1] small;", "store a0[7] = r2; store a0[7] = 256;", local+"local r7, 0; andi r8, r2, 255; store 0, r7, r8; local r9, 0; set r10, 0; store 0, r9, r10;"),
		{fmt.Sprintf(rest, "func f params 1 regs 1 { param[2] small; b0: store a0[r0] = r0; store a0[3] = 3; return; }"), "param r0, 0; param r1, 1; remi r2, r0, 2; addi r2, r2, 2; remi r2, r2, 2; add r3, r1, r2; andi r4, r0, 255; store 0, r3, r4; set r5, 3; store 1, r1, r5; return;"},
	})
	expectRows(t, []int{api.FtChoose3}, []row{
		inFunc("global y;", "store a0[r1] = r2;", y+"store 5, r5, r2;"),
		inFunc("global y;", "store a0[r1] = 300;", y+"set r6, 300; store 5, r5, r6;"),
		inFunc("local[1] small;", "store a0[7] = r2; store a0[7] = 256;", local+"local r7, 0; store 0, r7, r2; local r8, 0; set r9, 256; store 0, r8, r9;"),
	})
	expectRows(t, []int{api.FtChoose2, api.FtChoose3}, []row{
		inFunc("global y;", "store a0[r1] = r2;", "remi r5, r1, 2; store 5, r5, r2;"),
	})
}

// P21.1: calls: arguments, then arrays of each kind, the call, and its result.
func TestMakeCalls(t *testing.T) {
	expectRows(t, nil, []row{
		inFunc("", "call h();", "call 3;"),
		inFunc("global x; global y;", "call g(r1, 7; a0, a1);", "arg 0, r1; set r5, 7; arg 1, r5; set r6, 2; arg 2, r6; set r7, 5; arg 3, r7; call 2;"),
		inFunc("local[2] small; local[3];", "r3 = call g(4294967296, r0; a1, a0);", zeros+"set r8, 4294967296; arg 0, r8; arg 1, r0; local r9, 1; arg 2, r9; local r10, 0; arg 3, r10; call 2; result r3;"),
		{fmt.Sprintf(rest, "func f params 0 regs 1 { param[2] small; param[3]; b0: r0 = call g(r0, r0; a1, a0); return; }"), "param r1, 0; param r2, 1; set r0, 0; arg 0, r0; arg 1, r0; arg 2, r2; arg 3, r1; call 2; result r0; return;"},
		{"main m; func f params 8 regs 8 { param[1]; param[1]; param[1]; param[1]; param[1]; param[1]; param[1]; param[1]; b0: return; } func m params 0 regs 0 { b0: return; }", "param r0, 0; param r1, 1; param r2, 2; param r3, 3; param r4, 4; param r5, 5; param r6, 6; param r7, 7; param r8, 8; param r9, 9; param r10, 10; param r11, 11; param r12, 12; param r13, 13; param r14, 14; param r15, 15; return;"},
	})
}

// P21.1: the ends of blocks, which are all made, whether they are reached or not.
func TestMakeEnds(t *testing.T) {
	const main = "main m; func f params 1 regs 2 result { "
	const others = " } func m params 0 regs 0 { b0: return; }"
	expectRows(t, nil, []row{
		{main + "b0: jump b2; b1: trap; b2: return r0;" + others, "param r0, 0; jump 2; | trap; | return r0;"},
		{main + "b0: branch r0, b1, b2; b1: return 7; b2: return -4294967296;" + others, "param r0, 0; zero r0, 2; jump 1; | set r2, 7; return r2; | set r3, -4294967296; return r3;"},
		{main + "b0: branch 0, b1, b2; b1: return 7; b2: branch -1, b1, b2;" + others, "param r0, 0; jump 2; | set r2, 7; return r2; | jump 1;"},
		{main + "b0: branch 9223372036854775807, b1, b2; b1: branch r0, b1, b1; b2: return r1;" + others, "param r0, 0; set r1, 0; jump 1; | zero r0, 1; jump 1; | return r1;"},
		{"main f; func f params 0 regs 0 { b0: return; }", "return;"},
		{"main f; func f params 0 regs 0 { b0: trap; }", "trap;"},
		{"main f; func f params 0 regs 0 { b0: jump b1; b1: jump b1; }", "jump 1; | jump 1;"},
	})
}

// P21.1: what comes first: arguments, then zeros in registers that are live, then zeros in local arrays.
func TestMakeBegin(t *testing.T) {
	expectRows(t, nil, []row{
		{"main f; func f params 0 regs 4 { b0: print r3; print r1; r1 = r2; r0 = 5; print r0; return; }", "set r1, 0; set r2, 0; set r3, 0; print r3; print r1; move r1, r2; set r0, 5; print r0; return;"},
		{"cell c = 1; main f; func f params 0 regs 3 { b0: r0 = get c0; branch r0, b1, b2; b1: r1 = 7; jump b3; b2: print r2; jump b3; b3: print r1; return; }", "set r1, 0; set r2, 0; set r3, 0; load r0, 0, r3; zero r0, 2; jump 1; | set r1, 7; jump 3; | print r2; jump 3; | print r1; return;"},
		{"main f; func f params 0 regs 2 { b0: jump b1; b1: print r0; r0 = add r0, 1; branch r0, b1, b2; b2: return; b3: print r1; jump b1; }", "set r0, 0; jump 1; | print r0; addi r0, r0, 1; zero r0, 2; jump 1; | return; | print r1; jump 1;"},
		{"main m; func f params 2 regs 3 { local[1]; param[3]; local[2] small; param[1]; b0: print r1; print r2; return; } func m params 0 regs 0 { b0: return; }", "param r0, 0; param r1, 1; param r3, 2; param r4, 3; set r2, 0; set r5, 0; local r6, 0; store 0, r6, r5; local r7, 1; store 0, r7, r5; store 1, r7, r5; print r1; print r2; return;"},
		{"main f; func f params 0 regs 1 { local[1]; b0: r0 = 1; return; }", "set r1, 0; local r2, 0; store 0, r2, r1; set r0, 1; return;"},
		{"array x[2]; main f; func f params 0 regs 0 { global x; b0: return; }", "return;"},
	})
}

// P21.1: heads of functions, the memory and Main.
func TestMakeHeads(t *testing.T) {
	for _, c := range []struct{ text, want string }{
		{"main f; func f params 0 regs 0 { b0: return; }", "words 0; data; main 0; func args 0 regs 0 locals { b0: return; }"},
		{"cell c = -7; cell d = 9223372036854775807; main f; func f params 0 regs 3 { b0: return; }", "words 2; data -7 9223372036854775807; main 0; func args 0 regs 3 locals { b0: return; }"},
		{"array x[16]; array y[3] small; main f; func f params 0 regs 0 { b0: return; }", "words 19; data; main 0; func args 0 regs 0 locals { b0: return; }"},
		{"cell c = 1; array x[2]; main f; func g params 2 regs 3 result { param[1]; local[4]; global x; param[2] small; local[3] small; b0: return 1; } func f params 0 regs 0 { b0: jump b1; b1: return; }",
			"words 3; data 1; main 1; func args 4 regs 9 locals 4 3 { b0: param r0, 0; param r1, 1; param r3, 2; param r4, 3; set r5, 0; local r6, 0; store 0, r6, r5; store 1, r6, r5; store 2, r6, r5; store 3, r6, r5; local r7, 1; store 0, r7, r5; store 1, r7, r5; store 2, r7, r5; set r8, 1; return r8; } func args 0 regs 0 locals { b0: jump 1; b1: return; }"},
	} {
		v := made(t, samples.Read(t, c.text))
		if !sameCode(v, samples.ReadVirtual(t, c.want)) {
			t.Errorf("%s\nis\n%s", c.text, samples.VirtualText(v))
		}
	}
}
