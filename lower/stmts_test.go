package lower_test

import "testing"

// P9.1: a return stands at the end of a function.
func TestEmpty(t *testing.T) {
	codes{rows: []struct{ body, want string }{
		{"", "0 { b0: return;"},
		{"print 1;", "0 { b0: print 1; return;"},
	}}.check(t)
}

// P9.1: after what leaves, a new block is the present one.
func TestLeave(t *testing.T) {
	codes{rows: []struct{ body, want string }{
		{"return;", "0 { b0: return; b1: return;"},
		{"return; print 1;", "0 { b0: return; b1: print 1; return;"},
		{"trap;", "0 { b0: trap; b1: return;"},
		{"trap; print 2;", "0 { b0: trap; b1: print 2; return;"},
		{"if true { return; } else { trap; } print 1;", `0 {
			b0: branch 1, b1, b2;
			b1: return;
			b2: trap;
			b3: print 1; return;
			b4: jump b3;
			b5: jump b3;`},
		{"return; return;", "0 { b0: return; b1: return; b2: return;"},
	}}.check(t)
}

// P9.1: a let makes a new register, with 0 if it has no value.
func TestLet(t *testing.T) {
	codes{rows: []struct{ body, want string }{
		{"let x: int;", "1 { b0: r0 = 0; return;"},
		{"let x: bool; x = true; print x;", "1 { b0: r0 = 0; r0 = 1; print r0; return;"},
		{"let x: small; let y: int; y = 2; x = 3s;", "2 { b0: r0 = 0; r1 = 0; r1 = 2; r0 = 3; return;"},
		{"let x: int = 1 + 2; let y: int = x; print y;", "3 { b0: r0 = add 1, 2; r1 = r0; r2 = r1; print r2; return;"},
		{"if true { let x: int = 1; print x; } let x: small = 2s; print x + 1s;", `4 {
			b0: branch 1, b1, b2;
			b1: r0 = 1; print r0; jump b2;
			b2: r1 = 2; r2 = add r1, 1; r3 = and r2, 255; print r3; return;`},
		{"if true { let x: small = 1s; print x; } if true { let x: int = 2; print x + 1; }", `3 {
			b0: branch 1, b1, b2;
			b1: r0 = 1; print r0; jump b2;
			b2: branch 1, b3, b4;
			b3: r1 = 2; r2 = add r1, 1; print r2; jump b4;
			b4: return;`},
	}}.check(t)
}

// P9.1: a let of an array makes a new array, and clears it.
func TestLetArray(t *testing.T) {
	codes{rows: []struct{ body, want string }{
		{"let a: int[1];", "0 { local[1]; b0: store a0[0] = 0; return;"},
		{"let a: small[3]; let b: int[2];", `0 {
			local[3] small; local[2];
			b0: store a0[0] = 0; store a0[1] = 0; store a0[2] = 0; store a1[0] = 0; store a1[1] = 0; return;`},
		{"if true { let a: int[1]; a[0] = 1; } let a: small[2]; a[1] = 2s; if true { let b: int[3]; }", `0 {
			local[1]; local[2] small; local[3];
			b0: branch 1, b1, b2;
			b1: store a0[0] = 0; check 0, 1; store a0[0] = 1; jump b2;
			b2: store a1[0] = 0; store a1[1] = 0; check 1, 2; store a1[1] = 2; branch 1, b3, b4;
			b3: store a2[0] = 0; store a2[1] = 0; store a2[2] = 0; jump b4;
			b4: return;`},
		{"if true { let a: small[1]; a[0] = a[0] + 1s; } if true { let a: int = 4; print a + 1; }", `5 {
			local[1] small;
			b0: branch 1, b1, b2;
			b1: store a0[0] = 0; check 0, 1; r0 = load a0[0]; r1 = add r0, 1; r2 = and r1, 255; check 0, 1; store a0[0] = r2; jump b2;
			b2: branch 1, b3, b4;
			b3: r3 = 4; r4 = add r3, 1; print r4; jump b4;
			b4: return;`},
		{"for i in 0 .. 2 { let a: int[2]; a[i] = i; }", `3 {
			local[2];
			b0: r0 = 0; r1 = 2; jump b1;
			b1: r2 = lt r0, r1; branch r2, b2, b4;
			b2: store a0[0] = 0; store a0[1] = 0; check r0, 2; store a0[r0] = r0; jump b3;
			b3: r0 = add r0, 1; jump b1;
			b4: return;`},
		{"let a: small[16];", `0 {
			local[16] small;
			b0: store a0[0] = 0; store a0[1] = 0; store a0[2] = 0; store a0[3] = 0; store a0[4] = 0; store a0[5] = 0; store a0[6] = 0; store a0[7] = 0; store a0[8] = 0; store a0[9] = 0; store a0[10] = 0; store a0[11] = 0; store a0[12] = 0; store a0[13] = 0; store a0[14] = 0; store a0[15] = 0; return;`},
	}}.check(t)
}

// P9.1: a name gets a copy, a scalar of the module a put.
func TestSet(t *testing.T) {
	codes{rows: []struct{ body, want string }{
		{"let x: int = 1; x = x; x = x + 1;", "2 { b0: r0 = 1; r0 = r0; r1 = add r0, 1; r0 = r1; return;"},
		{"let x: bool = true; let y: bool = false; y = x && y;", "3 { b0: r0 = 1; r1 = 0; r2 = r0; branch r2, b1, b2; b1: r2 = r1; jump b2; b2: r1 = r2; return;"},
	}}.check(t)
	codes{before: "global g: int = 1; global a: int; global s: small; global b: bool = true;", rows: []struct{ body, want string }{
		{"g = g + 1;", "2 { b0: r0 = get c0; r1 = add r0, 1; put c0 = r1; return;"},
		{"a = 3; b = !b; s = s - 1s;", "5 { b0: put c1 = 3; r0 = get c3; r1 = xor r0, 1; put c3 = r1; r2 = get c2; r3 = sub r2, 1; r4 = and r3, 255; put c2 = r4; return;"},
		{"g = a;", "1 { b0: r0 = get c1; put c0 = r0; return;"},
	}}.check(t)
}

// P9.1: both operands, then the check, then the store.
func TestPut(t *testing.T) {
	codes{rows: []struct{ body, want string }{
		{"let a: small[2]; a[1] = 7s;", "0 { local[2] small; b0: store a0[0] = 0; store a0[1] = 0; check 1, 2; store a0[1] = 7; return;"},
		{"let a: int[2]; a[1 + 0] = 3 * 4;", `2 {
			local[2];
			b0: store a0[0] = 0; store a0[1] = 0; r0 = add 1, 0; r1 = mul 3, 4; check r0, 2; store a0[r0] = r1; return;`},
		{"let a: int[2]; a[a[0]] = a[1];", `2 {
			local[2];
			b0: store a0[0] = 0; store a0[1] = 0; check 0, 2; r0 = load a0[0]; check 1, 2; r1 = load a0[1]; check r0, 2; store a0[r0] = r1; return;`},
	}}.check(t)
	codes{before: "global a: int[3]; global b: small[5]; global g: int;", rows: []struct{ body, want string }{
		{"b[g] = 1s; a[2] = g;", `2 {
			global a; global b;
			b0: r0 = get c0; check r0, 5; store a1[r0] = 1; r1 = get c0; check 2, 3; store a0[2] = r1; return;`},
		{"a[a[0] + 1] = g / g;", `5 {
			global a;
			b0: check 0, 3; r0 = load a0[0]; r1 = add r0, 1; r2 = get c0; r3 = get c0; r4 = div r2, r3; check r1, 3; store a0[r1] = r4; return;`},
	}}.check(t)
}

// P9.1: print.
func TestPrint(t *testing.T) {
	codes{rows: []struct{ body, want string }{
		{"print 1 + 2; print 3s;", "1 { b0: r0 = add 1, 2; print r0; print 3; return;"},
	}}.check(t)
}

// P9.1: the blocks of an if, with an else and without.
func TestIf(t *testing.T) {
	codes{rows: []struct{ body, want string }{
		{"if true { print 1; }", "0 { b0: branch 1, b1, b2; b1: print 1; jump b2; b2: return;"},
		{"if true { }", "0 { b0: branch 1, b1, b2; b1: jump b2; b2: return;"},
		{"if true { print 1; } else { print 2; }", `0 {
			b0: branch 1, b1, b2;
			b1: print 1; jump b3;
			b2: print 2; jump b3;
			b3: return;`},
		{"if true { } else { print 2; }", `0 {
			b0: branch 1, b1, b2;
			b1: jump b3;
			b2: print 2; jump b3;
			b3: return;`},
		{"if true { if false { print 1; } else { print 2; } print 3; } else { print 4; if true { } } print 5;", `0 {
			b0: branch 1, b1, b2;
			b1: branch 0, b4, b5;
			b2: print 4; branch 1, b7, b8;
			b3: print 5; return;
			b4: print 1; jump b6;
			b5: print 2; jump b6;
			b6: print 3; jump b3;
			b7: jump b8;
			b8: jump b3;`},
		{"if true && false { print 1; }", `1 {
			b0: r0 = 1; branch r0, b1, b2;
			b1: r0 = 0; jump b2;
			b2: branch r0, b3, b4;
			b3: print 1; jump b4;
			b4: return;`},
		{"if 1 < 2 { } else { if 3 < 4 { } else { print 1; } }", `2 {
			b0: r0 = lt 1, 2; branch r0, b1, b2;
			b1: jump b3;
			b2: r1 = lt 3, 4; branch r1, b4, b5;
			b3: return;
			b4: jump b6;
			b5: print 1; jump b6;
			b6: jump b3;`},
	}}.check(t)
}

// P9.1: the blocks of a while: the condition comes before the bound.
func TestWhile(t *testing.T) {
	codes{rows: []struct{ body, want string }{
		{"while true upto 7 { print 1; }", `2 {
			b0: r0 = 0; jump b1;
			b1: branch 1, b2, b4;
			b2: r1 = lt r0, 7; branch r1, b3, b4;
			b3: r0 = add r0, 1; print 1; jump b1;
			b4: return;`},
		{"let x: int = 5; while x > 0 upto 1000 { x = x - 1; }", `5 {
			b0: r0 = 5; r1 = 0; jump b1;
			b1: r2 = lt 0, r0; branch r2, b2, b4;
			b2: r3 = lt r1, 1000; branch r3, b3, b4;
			b3: r1 = add r1, 1; r4 = sub r0, 1; r0 = r4; jump b1;
			b4: return;`},
		{"while true && false upto 1 { }", `3 {
			b0: r0 = 0; jump b1;
			b1: r1 = 1; branch r1, b5, b6;
			b2: r2 = lt r0, 1; branch r2, b3, b4;
			b3: r0 = add r0, 1; jump b1;
			b4: return;
			b5: r1 = 0; jump b6;
			b6: branch r1, b2, b4;`},
		{"while true upto 3 { break; }", `2 {
			b0: r0 = 0; jump b1;
			b1: branch 1, b2, b4;
			b2: r1 = lt r0, 3; branch r1, b3, b4;
			b3: r0 = add r0, 1; jump b4;
			b4: return;
			b5: jump b1;`},
		{"while true upto 3 { continue; print 1; }", `2 {
			b0: r0 = 0; jump b1;
			b1: branch 1, b2, b4;
			b2: r1 = lt r0, 3; branch r1, b3, b4;
			b3: r0 = add r0, 1; jump b1;
			b4: return;
			b5: print 1; jump b1;`},
		{"while true upto 3 { if true { break; } else { continue; } print 1; }", `2 {
			b0: r0 = 0; jump b1;
			b1: branch 1, b2, b4;
			b2: r1 = lt r0, 3; branch r1, b3, b4;
			b3: r0 = add r0, 1; branch 1, b5, b6;
			b4: return;
			b5: jump b4;
			b6: jump b1;
			b7: print 1; jump b1;
			b8: jump b7;
			b9: jump b7;`},
		{"while true upto 3 { while false upto 2 { break; } continue; }", `4 {
			b0: r0 = 0; jump b1;
			b1: branch 1, b2, b4;
			b2: r1 = lt r0, 3; branch r1, b3, b4;
			b3: r0 = add r0, 1; r2 = 0; jump b5;
			b4: return;
			b5: branch 0, b6, b8;
			b6: r3 = lt r2, 2; branch r3, b7, b8;
			b7: r2 = add r2, 1; jump b8;
			b8: jump b1;
			b9: jump b5;
			b10: jump b1;`},
	}}.check(t)
}

// P9.1: the blocks of a for: both bounds are copied once.
func TestFor(t *testing.T) {
	codes{rows: []struct{ body, want string }{
		{"for i in 0 .. 2 { print i; }", `3 {
			b0: r0 = 0; r1 = 2; jump b1;
			b1: r2 = lt r0, r1; branch r2, b2, b4;
			b2: print r0; jump b3;
			b3: r0 = add r0, 1; jump b1;
			b4: return;`},
		{"for i in 1 + 2 .. 3 + 4 { }", `5 {
			b0: r0 = add 1, 2; r1 = add 3, 4; r2 = r0; r3 = r1; jump b1;
			b1: r4 = lt r2, r3; branch r4, b2, b4;
			b2: jump b3;
			b3: r2 = add r2, 1; jump b1;
			b4: return;`},
		{"for i in 0 .. 3 { for j in i .. 4 { print j; } print i; }", `6 {
			b0: r0 = 0; r1 = 3; jump b1;
			b1: r2 = lt r0, r1; branch r2, b2, b4;
			b2: r3 = r0; r4 = 4; jump b5;
			b3: r0 = add r0, 1; jump b1;
			b4: return;
			b5: r5 = lt r3, r4; branch r5, b6, b8;
			b6: print r3; jump b7;
			b7: r3 = add r3, 1; jump b5;
			b8: print r0; jump b3;`},
		{"for i in 0 .. 3 { if i == 1 { continue; } if i == 2 { break; } print i; }", `5 {
			b0: r0 = 0; r1 = 3; jump b1;
			b1: r2 = lt r0, r1; branch r2, b2, b4;
			b2: r3 = eq r0, 1; branch r3, b5, b6;
			b3: r0 = add r0, 1; jump b1;
			b4: return;
			b5: jump b3;
			b6: r4 = eq r0, 2; branch r4, b8, b9;
			b7: jump b6;
			b8: jump b4;
			b9: print r0; jump b3;
			b10: jump b9;`},
		{"for i in 0 .. 3 { print i; } for i in 4 .. 5 { print i; } let i: small = 1s; print i * i;", `9 {
			b0: r0 = 0; r1 = 3; jump b1;
			b1: r2 = lt r0, r1; branch r2, b2, b4;
			b2: print r0; jump b3;
			b3: r0 = add r0, 1; jump b1;
			b4: r3 = 4; r4 = 5; jump b5;
			b5: r5 = lt r3, r4; branch r5, b6, b8;
			b6: print r3; jump b7;
			b7: r3 = add r3, 1; jump b5;
			b8: r6 = 1; r7 = mul r6, r6; r8 = and r7, 255; print r8; return;`},
		{"for i in 0 .. 1 { return; }", `3 {
			b0: r0 = 0; r1 = 1; jump b1;
			b1: r2 = lt r0, r1; branch r2, b2, b4;
			b2: return;
			b3: r0 = add r0, 1; jump b1;
			b4: return;
			b5: jump b3;`},
		{"let i: int = 2; for j in i .. i { i = 5; }", `4 {
			b0: r0 = 2; r1 = r0; r2 = r0; jump b1;
			b1: r3 = lt r1, r2; branch r3, b2, b4;
			b2: r0 = 5; jump b3;
			b3: r1 = add r1, 1; jump b1;
			b4: return;`},
	}}.check(t)
	codes{before: "global g: int = 1; global a: int; global s: small; global b: bool = true;", rows: []struct{ body, want string }{
		{"for i in g .. a { g = i; }", `5 {
			b0: r0 = get c0; r1 = get c1; r2 = r0; r3 = r1; jump b1;
			b1: r4 = lt r2, r3; branch r4, b2, b4;
			b2: put c0 = r2; jump b3;
			b3: r2 = add r2, 1; jump b1;
			b4: return;`},
		{"if b { } while b upto 2 { b = false; }", `4 {
			b0: r0 = get c3; branch r0, b1, b2;
			b1: jump b2;
			b2: r1 = 0; jump b3;
			b3: r2 = get c3; branch r2, b4, b6;
			b4: r3 = lt r1, 2; branch r3, b5, b6;
			b5: r1 = add r1, 1; put c3 = 0; jump b3;
			b6: return;`},
	}}.check(t)
}

// P9.1: break and continue belong to the innermost loop, also after one in it.
func TestLoops(t *testing.T) {
	codes{rows: []struct{ body, want string }{
		{"for i in 0 .. 3 { while true upto 2 { break; } continue; }", `5 {
			b0: r0 = 0; r1 = 3; jump b1;
			b1: r2 = lt r0, r1; branch r2, b2, b4;
			b2: r3 = 0; jump b5;
			b3: r0 = add r0, 1; jump b1;
			b4: return;
			b5: branch 1, b6, b8;
			b6: r4 = lt r3, 2; branch r4, b7, b8;
			b7: r3 = add r3, 1; jump b8;
			b8: jump b3;
			b9: jump b5;
			b10: jump b3;`},
		{"while true upto 2 { for i in 0 .. 3 { continue; } break; }", `5 {
			b0: r0 = 0; jump b1;
			b1: branch 1, b2, b4;
			b2: r1 = lt r0, 2; branch r1, b3, b4;
			b3: r0 = add r0, 1; r2 = 0; r3 = 3; jump b5;
			b4: return;
			b5: r4 = lt r2, r3; branch r4, b6, b8;
			b6: jump b7;
			b7: r2 = add r2, 1; jump b5;
			b8: jump b4;
			b9: jump b7;
			b10: jump b1;`},
		{"for i in 0 .. 3 { for j in 0 .. 2 { if true { break; } continue; } break; }", `6 {
			b0: r0 = 0; r1 = 3; jump b1;
			b1: r2 = lt r0, r1; branch r2, b2, b4;
			b2: r3 = 0; r4 = 2; jump b5;
			b3: r0 = add r0, 1; jump b1;
			b4: return;
			b5: r5 = lt r3, r4; branch r5, b6, b8;
			b6: branch 1, b9, b10;
			b7: r3 = add r3, 1; jump b5;
			b8: jump b4;
			b9: jump b8;
			b10: jump b7;
			b11: jump b10;
			b12: jump b7;
			b13: jump b3;`},
	}}.check(t)
}
