package lower_test

import (
	"testing"

	"cupel/api"
	"cupel/ir"
	"cupel/lower"
)

// modules are programs and the canonical texts of their modules, which are compared word by word.
type modules []struct{ program, want string }

func (list modules) check(t *testing.T) {
	t.Helper()
	for _, c := range list {
		if got := lowered(t, read(t, c.program)); inLine(got) != inLine(c.want) {
			t.Errorf("%s\nis\n%s\nwant\n%s", c.program, got, c.want)
		}
	}
}

// P9.1: cells and arrays have the order of the globals, functions that of functions.
func TestGlobals(t *testing.T) {
	modules{
		{"func main() { }", "main main; func main params 0 regs 0 { b0: return; }"},
		{"global a: int = -5; global b: int[3]; global c: small = 255s; global d: small[16]; global e: bool = true; global f: int; global g: small; global h: bool; func main() { }", `
			cell a = -5;
			cell c = 255;
			cell e = 1;
			cell f = 0;
			cell g = 0;
			cell h = 0;
			array b[3];
			array d[16] small;
			main main;
			func main params 0 regs 0 { b0: return; }`},
		{"global a: int = 9223372036854775807; global b: int = -9223372036854775807; func main() { print b; print a; }", `
			cell a = 9223372036854775807;
			cell b = -9223372036854775807;
			main main;
			func main params 0 regs 2 { b0: r0 = get c1; print r0; r1 = get c0; print r1; return; }`},
		{"global a: int[1]; global b: int[1]; global c: int[1]; global d: int[1]; global e: int[1]; global f: int[1]; global g: int[1]; global hhhhhhhhhhhhhhh9: int[1]; func main() { hhhhhhhhhhhhhhh9[0] = 1; }", `
			array a[1];
			array b[1];
			array c[1];
			array d[1];
			array e[1];
			array f[1];
			array g[1];
			array hhhhhhhhhhhhhhh9[1];
			main main;
			func main params 0 regs 0 { global hhhhhhhhhhhhhhh9; b0: check 0, 1; store a0[0] = 1; return; }`},
	}.check(t)
}

// P9.1: each function has its index and name; main is where it stands.
func TestFunctions(t *testing.T) {
	modules{
		{"func f() { print 1; } func main() { f(); } func g() { f(); print 2; }", `
			main main;
			func f params 0 regs 0 { b0: print 1; return; }
			func main params 0 regs 0 { b0: call f(); return; }
			func g params 0 regs 0 { b0: call f(); print 2; return; }`},
		{"func main() { g(); f(); } func f() { } func g() { f(); }", `
			main main;
			func main params 0 regs 0 { b0: call g(); call f(); return; }
			func f params 0 regs 0 { b0: return; }
			func g params 0 regs 0 { b0: call f(); return; }`},
		{"func f() { main(); } func main() { }", `
			main main;
			func f params 0 regs 0 { b0: call main(); return; }
			func main params 0 regs 0 { b0: return; }`},
		{"func print9() { } func cell() { print9(); } func main() { let main: int = 3; let cell: int = main; cell(); print cell; }", `
			main main;
			func print9 params 0 regs 0 { b0: return; }
			func cell params 0 regs 0 { b0: call print9(); return; }
			func main params 0 regs 2 { b0: r0 = 3; r1 = r0; call cell(); print r1; return; }`},
	}.check(t)
}

// P9.1: parameters are the first registers; a function with a result returns 0 at its end.
func TestParams(t *testing.T) {
	modules{
		{"func f(a: int, b: small, c: bool): small { b = b + 1s; if c { return b; } print a; return small(a); } func main() { }", `
			main main;
			func f params 3 regs 6 result {
				b0: r3 = add r1, 1; r4 = and r3, 255; r1 = r4; branch r2, b1, b2;
				b1: return r1;
				b2: print r0; r5 = and r0, 255; return r5;
				b3: jump b2;
				b4: return 0;
			}
			func main params 0 regs 0 { b0: return; }`},
		{"func f(a: int[2], b: int, c: small[3], d: bool) { a[b] = b; c[1] = 2s; print d; } func main() { }", `
			main main;
			func f params 2 regs 2 {
				param[2]; param[3] small;
				b0: check r0, 2; store a0[r0] = r0; check 1, 3; store a1[1] = 2; print r1; return;
			}
			func main params 0 regs 0 { b0: return; }`},
		{"func f(): bool { trap; } func g(): bool { if true { return true; } else { return false; } } func main() { print f() == g(); }", `
			main main;
			func f params 0 regs 0 result { b0: trap; b1: return 0; }
			func g params 0 regs 0 result {
				b0: branch 1, b1, b2;
				b1: return 1;
				b2: return 0;
				b3: return 0;
				b4: jump b3;
				b5: jump b3;
			}
			func main params 0 regs 3 { b0: r0 = call f(); r1 = call g(); r2 = eq r0, r1; print r2; return; }`},
		{"func f(x: int) { return; } func g(x: int): int { return x; } func main() { }", `
			main main;
			func f params 1 regs 1 { b0: return; b1: return; }
			func g params 1 regs 1 result { b0: return r0; b1: return 0; }
			func main params 0 regs 0 { b0: return; }`},
	}.check(t)
}

// P9.1: arrays: parameters, then those of the module that the function names, ascending, then its own.
func TestArrays(t *testing.T) {
	const globals = "global a: int[1]; global n: int; global b: small[2]; global c: int[3]; "
	const heads = "cell n = 0; array a[1]; array b[2] small; array c[3]; main main; "
	modules{
		{globals + "func f(p: small[2], q: int[3]) { let x: int[4]; c[0] = 1; print a[0]; if true { let y: small[5]; y[1] = p[1]; } x[2] = q[2]; } func main() { let x: small[2]; }", heads + `
			func f params 0 regs 3 {
				param[2] small; param[3]; global a; global c; local[4]; local[5] small;
				b0: store a4[0] = 0; store a4[1] = 0; store a4[2] = 0; store a4[3] = 0;
					check 0, 3; store a3[0] = 1; check 0, 1; r0 = load a2[0]; print r0; branch 1, b1, b2;
				b1: store a5[0] = 0; store a5[1] = 0; store a5[2] = 0; store a5[3] = 0; store a5[4] = 0;
					check 1, 2; r1 = load a0[1]; check 1, 5; store a5[1] = r1; jump b2;
				b2: check 2, 3; r2 = load a1[2]; check 2, 4; store a4[2] = r2; return;
			}
			func main params 0 regs 0 { local[2] small; b0: store a0[0] = 0; store a0[1] = 0; return; }`},
		{globals + "func f(p: small[2]) { } func main() { f(b); }", heads + `
			func f params 0 regs 0 { param[2] small; b0: return; }
			func main params 0 regs 0 { global b; b0: call f(; a0); return; }`},
		// The places where a function may name an array.
		{globals + "func main() { a[0] = 1; }", heads + "func main params 0 regs 0 { global a; b0: check 0, 1; store a0[0] = 1; return; }"},
		{globals + "func main() { let x: int[2]; x[c[0]] = 1; }", heads + `
			func main params 0 regs 1 { global c; local[2]; b0: store a1[0] = 0; store a1[1] = 0; check 0, 3; r0 = load a0[0]; check r0, 2; store a1[r0] = 1; return; }`},
		{globals + "func main() { if true { } else { while false upto 1 { for i in 0 .. a[0] { } } } }", heads + `
			func main params 0 regs 6 {
				global a;
				b0: branch 1, b1, b2;
				b1: jump b3;
				b2: r0 = 0; jump b4;
				b3: return;
				b4: branch 0, b5, b7;
				b5: r1 = lt r0, 1; branch r1, b6, b7;
				b6: r0 = add r0, 1; check 0, 1; r2 = load a0[0]; r3 = 0; r4 = r2; jump b8;
				b7: jump b3;
				b8: r5 = lt r3, r4; branch r5, b9, b11;
				b9: jump b10;
				b10: r3 = add r3, 1; jump b8;
				b11: jump b4;
			}`},
		{globals + "func main() { return; c[0] = 1; }", heads + "func main params 0 regs 0 { global c; b0: return; b1: check 0, 3; store a0[0] = 1; return; }"},
		// Functions may be called like arrays, which they do not name thereby.
		{globals + "func b() { } func c(x: int): int { return x; } func main() { b(); print c(1); }", heads + `
			func b params 0 regs 0 { b0: return; }
			func c params 1 regs 1 result { b0: return r0; b1: return 0; }
			func main params 0 regs 1 { b0: call b(); r0 = call c(1); print r0; return; }`},
		// What a function that is called names is not named by the caller.
		{globals + "func f() { a[0] = 1; } func main() { f(); c[0] = 2; }", heads + `
			func f params 0 regs 0 { global a; b0: check 0, 1; store a0[0] = 1; return; }
			func main params 0 regs 0 { global c; b0: call f(); check 0, 3; store a0[0] = 2; return; }`},
	}.check(t)
}

// P9.1: a call has the operands of the scalars, and apart from them the arrays, each in order.
func TestCalls(t *testing.T) {
	const funcs = "func f(a: int[2], x: int, b: small[1], y: int): int { return x + y; } func g(x: small): small { return x; } func h() { } "
	const heads = `main main;
		func f params 2 regs 3 result { param[2]; param[1] small; b0: r2 = add r0, r1; return r2; b1: return 0; }
		func g params 1 regs 1 result { b0: return r0; b1: return 0; }
		func h params 0 regs 0 { b0: return; } `
	const clear = "b0: store a0[0] = 0; store a1[0] = 0; store a1[1] = 0; "
	modules{
		{funcs + "func main() { h(); let b: small[1]; let a: int[2]; print f(a, 1 + 2, b, 3 * 4); f(a, 5, b, 6); g(7s); }", heads + `
			func main params 0 regs 3 {
				local[1] small; local[2];
				b0: call h(); store a0[0] = 0; store a1[0] = 0; store a1[1] = 0;
				r0 = add 1, 2; r1 = mul 3, 4; r2 = call f(r0, r1; a1, a0); print r2;
				call f(5, 6; a1, a0); call g(7); return;
			}`},
		{funcs + "func main() { print g(g(1s) + 2s) + 3s; }", heads + `
			func main params 0 regs 6 {
				b0: r0 = call g(1); r1 = add r0, 2; r2 = and r1, 255; r3 = call g(r2); r4 = add r3, 3; r5 = and r4, 255; print r5; return;
			}`},
		{funcs + "func main() { let b: small[1]; let a: int[2]; if f(a, a[0], b, int(b[0])) > 0 && g(3s) < 4s { } }", heads + `
			func main params 0 regs 7 {
				local[1] small; local[2]; ` + clear + `
				check 0, 2; r0 = load a1[0]; check 0, 1; r1 = load a0[0]; r2 = call f(r0, r1; a1, a0); r3 = lt 0, r2;
				r4 = r3; branch r4, b1, b2;
				b1: r5 = call g(3); r6 = lt r5, 4; r4 = r6; jump b2;
				b2: branch r4, b3, b4;
				b3: jump b4;
				b4: return;
			}`},
		{"func f(x: int, a: int[1]) { } func g(a: int[1], b: int[1]) { f(b[0], a); f(3, b); } func main() { }", `main main;
			func f params 1 regs 1 { param[1]; b0: return; }
			func g params 0 regs 1 { param[1]; param[1]; b0: check 0, 1; r0 = load a1[0]; call f(r0; a0); call f(3; a1); return; }
			func main params 0 regs 0 { b0: return; }`},
	}.check(t)
}

// P9.1, R8: fields that are not used are zero, also those that a text does not show.
func TestFields(t *testing.T) {
	p := read(t, "global a: int[2]; global g: int = 7; func f(x: int, b: int[2]): int { return b[x]; } func main() { let y: int = g; a[0] = y; f(1, a); g = f(2, a); print g; if true { trap; } }")
	reg, num := func(n int) api.Opd { return api.Opd{Reg: n} }, func(v int64) api.Opd { return api.Opd{Reg: -1, Imm: v} }
	arrays := []api.Array{{Kind: api.AyGlobal}}
	want := api.Module{
		Cells:  []api.Cell{{Name: "g", Init: 7}},
		Arrays: []api.GArray{{Name: "a", Len: 2}},
		Main:   1,
		Funcs: []api.IFunc{{
			Name: "f", Params: 1, Regs: 2, Result: true,
			Arrays: []api.Array{{Kind: api.AyParam, Len: 2}},
			Blocks: []api.Block{
				{Code: []api.Instr{
					{Op: api.IxCheck, To: -1, A: reg(0), B: num(2)},
					{Op: api.IxLoad, To: 1, A: reg(0)},
				}, End: api.Term{Op: api.TmReturn, A: reg(1)}},
				{End: api.Term{Op: api.TmReturn, A: num(0)}},
			},
		}, {
			Name: "main", Regs: 4, Arrays: arrays,
			Blocks: []api.Block{
				{Code: []api.Instr{
					{Op: api.IxGet, To: 0},
					{Op: api.IxCopy, To: 1, A: reg(0)},
					{Op: api.IxCheck, To: -1, A: num(0), B: num(2)},
					{Op: api.IxStore, To: -1, A: num(0), B: reg(1)},
					{Op: api.IxCall, To: -1, Args: []api.Opd{num(1)}, Arrays: []int{0}},
					{Op: api.IxCall, To: 2, Args: []api.Opd{num(2)}, Arrays: []int{0}},
					{Op: api.IxPut, To: -1, A: reg(2)},
					{Op: api.IxGet, To: 3},
					{Op: api.IxPrint, To: -1, A: reg(3)},
				}, End: api.Term{Op: api.TmBranch, A: num(1), To: 1, Else: 2}},
				{End: api.Term{Op: api.TmTrap}},
				{End: api.Term{Op: api.TmReturn}},
				{End: api.Term{Op: api.TmJump, To: 2}},
			},
		}},
	}
	if m, e := lower.Lower(p, with()); !ir.Same(m, want) || e != api.OK {
		t.Errorf("error %d\n%+v\nwant\n%+v", e, m, want)
	}
}
