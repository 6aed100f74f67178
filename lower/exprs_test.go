package lower_test

import "testing"

// P9.1: literals are constants.
func TestLiterals(t *testing.T) {
	codes{rows: []struct{ body, want string }{
		{"print 0;", "0 { b0: print 0; return;"},
		{"print 9223372036854775807;", "0 { b0: print 9223372036854775807; return;"},
		{"print 255s;", "0 { b0: print 255; return;"},
		{"print true; print false;", "0 { b0: print 1; print 0; return;"},
	}}.check(t)
}

// P9.1: a local name is its register; one of the module is got each time.
func TestNames(t *testing.T) {
	codes{rows: []struct{ body, want string }{
		{"let x: int = 3; print x;", "1 { b0: r0 = 3; print r0; return;"},
		{"let x: int = 3; let y: int = 4; print y; print x;", "2 { b0: r0 = 3; r1 = 4; print r1; print r0; return;"},
	}}.check(t)
	codes{before: "global g: int = 5; global h: bool; global a: int[2]; global s: small = 7s;", rows: []struct{ body, want string }{
		{"print g;", "1 { b0: r0 = get c0; print r0; return;"},
		{"print g + g;", "3 { b0: r0 = get c0; r1 = get c0; r2 = add r0, r1; print r2; return;"},
		{"print h; print s;", "2 { b0: r0 = get c1; print r0; r1 = get c2; print r1; return;"},
		{"print s + s;", "4 { b0: r0 = get c2; r1 = get c2; r2 = add r0, r1; r3 = and r2, 255; print r3; return;"},
		{"let x: small = s; print x + 1s;", "4 { b0: r0 = get c2; r1 = r0; r2 = add r1, 1; r3 = and r2, 255; print r3; return;"},
		{"print h && h;", "3 { b0: r0 = get c1; r1 = r0; branch r1, b1, b2; b1: r2 = get c1; r1 = r2; jump b2; b2: print r1; return;"},
	}}.check(t)
}

// P9.1: an index is checked, then the element is loaded.
func TestIndices(t *testing.T) {
	codes{rows: []struct{ body, want string }{
		{"let a: int[2]; print a[1];", "1 { local[2]; b0: store a0[0] = 0; store a0[1] = 0; check 1, 2; r0 = load a0[1]; print r0; return;"},
		{"let a: int[2]; let b: small[3]; print b[a[0]];", `2 {
			local[2]; local[3] small;
			b0: store a0[0] = 0; store a0[1] = 0; store a1[0] = 0; store a1[1] = 0; store a1[2] = 0; check 0, 2; r0 = load a0[0]; check r0, 3; r1 = load a1[r0]; print r1; return;`},
		{"let a: small[1]; print a[0] + 1s;", `3 {
			local[1] small;
			b0: store a0[0] = 0; check 0, 1; r0 = load a0[0]; r1 = add r0, 1; r2 = and r1, 255; print r2; return;`},
		{"let a: int[1]; print a[0] + 1;", "2 { local[1]; b0: store a0[0] = 0; check 0, 1; r0 = load a0[0]; r1 = add r0, 1; print r1; return;"},
		{"let a: int[16]; print a[-1];", `2 {
			local[16];
			b0: store a0[0] = 0; store a0[1] = 0; store a0[2] = 0; store a0[3] = 0; store a0[4] = 0; store a0[5] = 0; store a0[6] = 0; store a0[7] = 0; store a0[8] = 0; store a0[9] = 0; store a0[10] = 0; store a0[11] = 0; store a0[12] = 0; store a0[13] = 0; store a0[14] = 0; store a0[15] = 0; r0 = sub 0, 1; check r0, 16; r1 = load a0[r0]; print r1; return;`},
	}}.check(t)
	codes{before: "global a: small[9]; global g: int; global b: int[4];", rows: []struct{ body, want string }{
		{"print a[g + 1];", "3 { global a; b0: r0 = get c0; r1 = add r0, 1; check r1, 9; r2 = load a0[r1]; print r2; return;"},
		{"print b[2]; print a[3]; print b[g];", `4 {
			global a; global b;
			b0: check 2, 4; r0 = load a1[2]; print r0; check 3, 9; r1 = load a0[3]; print r1; r2 = get c0; check r2, 4; r3 = load a1[r2]; print r3; return;`},
		{"print -a[0]; print ~b[0];", `5 {
			global a; global b;
			b0: check 0, 9; r0 = load a0[0]; r1 = sub 0, r0; r2 = and r1, 255; print r2; check 0, 4; r3 = load a1[0]; r4 = xor r3, -1; print r4; return;`},
	}}.check(t)
}

// P9.1: what becomes int stays as it is; what becomes small loses its high bits.
func TestConversions(t *testing.T) {
	codes{rows: []struct{ body, want string }{
		{"print int(5s); print int(true);", "0 { b0: print 5; print 1; return;"},
		{"let x: small = 5s; print int(x) + 1; print -int(x);", "3 { b0: r0 = 5; r1 = add r0, 1; print r1; r2 = sub 0, r0; print r2; return;"},
		{"let x: bool = true; print int(x) + 1;", "2 { b0: r0 = 1; r1 = add r0, 1; print r1; return;"},
		{"print small(300);", "1 { b0: r0 = and 300, 255; print r0; return;"},
		{"let x: int = 7; print small(x) + 1s;", "4 { b0: r0 = 7; r1 = and r0, 255; r2 = add r1, 1; r3 = and r2, 255; print r3; return;"},
		{"print int(small(3 / 2)) + 1;", "3 { b0: r0 = div 3, 2; r1 = and r0, 255; r2 = add r1, 1; print r2; return;"},
	}}.check(t)
}

// P9.1: unary operators; only minus of small is wrapped.
func TestUnary(t *testing.T) {
	codes{rows: []struct{ body, want string }{
		{"let x: int = 7; print -x;", "2 { b0: r0 = 7; r1 = sub 0, r0; print r1; return;"},
		{"let x: small = 7s; print -x;", "3 { b0: r0 = 7; r1 = sub 0, r0; r2 = and r1, 255; print r2; return;"},
		{"let x: bool = true; print !x;", "2 { b0: r0 = 1; r1 = xor r0, 1; print r1; return;"},
		{"let x: int = 7; print ~x;", "2 { b0: r0 = 7; r1 = xor r0, -1; print r1; return;"},
		{"let x: small = 7s; print ~x;", "2 { b0: r0 = 7; r1 = xor r0, 255; print r1; return;"},
		{"print -(-3);", "2 { b0: r0 = sub 0, 3; r1 = sub 0, r0; print r1; return;"},
		{"print -(-3s);", "4 { b0: r0 = sub 0, 3; r1 = and r0, 255; r2 = sub 0, r1; r3 = and r2, 255; print r3; return;"},
		{"print ~(~3s + 1s);", "4 { b0: r0 = xor 3, 255; r1 = add r0, 1; r2 = and r1, 255; r3 = xor r2, 255; print r3; return;"},
		{"print !!true;", "2 { b0: r0 = xor 1, 1; r1 = xor r0, 1; print r1; return;"},
	}}.check(t)
}

// P9.1: binary operators of int; what is greater has its operands exchanged.
func TestBinaryOfInt(t *testing.T) {
	codes{rows: []struct{ body, want string }{
		{"print 1 + 2; print 1 - 2; print 1 * 2; print 1 / 2; print 1 % 2;", "5 { b0: r0 = add 1, 2; print r0; r1 = sub 1, 2; print r1; r2 = mul 1, 2; print r2; r3 = div 1, 2; print r3; r4 = rem 1, 2; print r4; return;"},
		{"print 1 << 2; print 1 >> 2; print 1 & 2; print 1 ^ 2; print 1 | 2;", "5 { b0: r0 = shl 1, 2; print r0; r1 = shr 1, 2; print r1; r2 = and 1, 2; print r2; r3 = xor 1, 2; print r3; r4 = or 1, 2; print r4; return;"},
		{"print 1 == 2; print 1 != 2; print 1 < 2; print 1 <= 2; print 1 > 2; print 1 >= 2;", "6 { b0: r0 = eq 1, 2; print r0; r1 = ne 1, 2; print r1; r2 = lt 1, 2; print r2; r3 = le 1, 2; print r3; r4 = lt 2, 1; print r4; r5 = le 2, 1; print r5; return;"},
	}}.check(t)
}

// P9.1: of small + - * << are wrapped, and only these.
func TestBinaryOfSmall(t *testing.T) {
	codes{rows: []struct{ body, want string }{
		{"print 1s + 2s; print 1s - 2s; print 1s * 2s; print 1s << 2s;", "8 { b0: r0 = add 1, 2; r1 = and r0, 255; print r1; r2 = sub 1, 2; r3 = and r2, 255; print r3; r4 = mul 1, 2; r5 = and r4, 255; print r5; r6 = shl 1, 2; r7 = and r6, 255; print r7; return;"},
		{"print 1s / 2s; print 1s % 2s; print 1s >> 2s; print 1s & 2s; print 1s ^ 2s; print 1s | 2s;", "6 { b0: r0 = div 1, 2; print r0; r1 = rem 1, 2; print r1; r2 = shr 1, 2; print r2; r3 = and 1, 2; print r3; r4 = xor 1, 2; print r4; r5 = or 1, 2; print r5; return;"},
		{"print 1s == 2s; print 1s != 2s; print 1s < 2s; print 1s <= 2s; print 1s > 2s; print 1s >= 2s;", "6 { b0: r0 = eq 1, 2; print r0; r1 = ne 1, 2; print r1; r2 = lt 1, 2; print r2; r3 = le 1, 2; print r3; r4 = lt 2, 1; print r4; r5 = le 2, 1; print r5; return;"},
	}}.check(t)
}

// P9.1: comparisons of bool.
func TestBinaryOfBool(t *testing.T) {
	codes{rows: []struct{ body, want string }{
		{"print true == false; print true != false;", "2 { b0: r0 = eq 1, 0; print r0; r1 = ne 1, 0; print r1; return;"},
		{"print (1s < 2s) == (1 + 2 > 3);", "4 { b0: r0 = lt 1, 2; r1 = add 1, 2; r2 = lt 3, r1; r3 = eq r0, r2; print r3; return;"},
	}}.check(t)
}

// P9.1: operands come from left to right, also where they are exchanged.
func TestOrder(t *testing.T) {
	codes{rows: []struct{ body, want string }{
		{"print (1 + 2) * (3 - 4);", "3 { b0: r0 = add 1, 2; r1 = sub 3, 4; r2 = mul r0, r1; print r2; return;"},
		{"print (1s + 2s) * 3s - 4s;", "6 { b0: r0 = add 1, 2; r1 = and r0, 255; r2 = mul r1, 3; r3 = and r2, 255; r4 = sub r3, 4; r5 = and r4, 255; print r5; return;"},
		{"print (1 + 2) > (3 - 4); print (1 + 2) >= (3 - 4);", "6 { b0: r0 = add 1, 2; r1 = sub 3, 4; r2 = lt r1, r0; print r2; r3 = add 1, 2; r4 = sub 3, 4; r5 = le r4, r3; print r5; return;"},
		{"print (1s + 2s) - (3s * 4s / (5s - 6s));", "9 { b0: r0 = add 1, 2; r1 = and r0, 255; r2 = mul 3, 4; r3 = and r2, 255; r4 = sub 5, 6; r5 = and r4, 255; r6 = div r3, r5; r7 = sub r1, r6; r8 = and r7, 255; print r8; return;"},
	}}.check(t)
}

// P9.1: the second operand of && and || is made in a block of its own.
func TestConnectives(t *testing.T) {
	codes{rows: []struct{ body, want string }{
		{"print true && false;", "1 { b0: r0 = 1; branch r0, b1, b2; b1: r0 = 0; jump b2; b2: print r0; return;"},
		{"print true || false;", "1 { b0: r0 = 1; branch r0, b2, b1; b1: r0 = 0; jump b2; b2: print r0; return;"},
		{"let x: bool = true; print x && !x || x;", `4 {
			b0: r0 = 1; r1 = r0; branch r1, b1, b2;
			b1: r2 = xor r0, 1; r1 = r2; jump b2;
			b2: r3 = r1; branch r3, b4, b3;
			b3: r3 = r0; jump b4;
			b4: print r3; return;`},
		{"let x: bool = true; print x && (x && x);", `3 {
			b0: r0 = 1; r1 = r0; branch r1, b1, b2;
			b1: r2 = r0; branch r2, b3, b4;
			b2: print r1; return;
			b3: r2 = r0; jump b4;
			b4: r1 = r2; jump b2;`},
		{"let x: bool = true; print (x || !x) == (x && x);", `5 {
			b0: r0 = 1; r1 = r0; branch r1, b2, b1;
			b1: r2 = xor r0, 1; r1 = r2; jump b2;
			b2: r3 = r0; branch r3, b3, b4;
			b3: r3 = r0; jump b4;
			b4: r4 = eq r1, r3; print r4; return;`},
		{"print 1 < 2 && 3 > 4;", "3 { b0: r0 = lt 1, 2; r1 = r0; branch r1, b1, b2; b1: r2 = lt 4, 3; r1 = r2; jump b2; b2: print r1; return;"},
		{"let x: bool = false; x = x || x; print x;", "2 { b0: r0 = 0; r1 = r0; branch r1, b2, b1; b1: r1 = r0; jump b2; b2: r0 = r1; print r0; return;"},
		{"let a: int[2]; print true || a[5] == 1;", `3 {
			local[2];
			b0: store a0[0] = 0; store a0[1] = 0; r0 = 1; branch r0, b2, b1;
			b1: check 5, 2; r1 = load a0[5]; r2 = eq r1, 1; r0 = r2; jump b2;
			b2: print r0; return;`},
	}}.check(t)
}
