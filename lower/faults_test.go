package lower_test

import (
	"strings"
	"testing"

	"cupel/api"
)

// P9.1: with FtLower1 results of + of small are not wrapped, all others are.
func TestFaultWrap(t *testing.T) {
	codes{faults: []int{api.FtLower1}, rows: []struct{ body, want string }{
		{"let a: small = 200s; print a + 100s;", "2 { b0: r0 = 200; r1 = add r0, 100; print r1; return;"},
		{"print 1s + 2s + 3s;", "2 { b0: r0 = add 1, 2; r1 = add r0, 3; print r1; return;"},
		{"print 1 + 2;", "1 { b0: r0 = add 1, 2; print r0; return;"},
		{"print 1s - 2s; print 1s * 2s; print 1s << 2s; print -1s; print small(1);", `9 {
			b0: r0 = sub 1, 2; r1 = and r0, 255; print r1; r2 = mul 1, 2; r3 = and r2, 255; print r3;
			r4 = shl 1, 2; r5 = and r4, 255; print r5; r6 = sub 0, 1; r7 = and r6, 255; print r7; r8 = and 1, 255; print r8; return;`},
		{"let a: small[2]; a[3] = a[4] + 1s; for i in 0 .. 2 { }", `5 {
			local[2] small;
			b0: store a0[0] = 0; store a0[1] = 0; check 4, 2; r0 = load a0[4]; r1 = add r0, 1; check 3, 2; store a0[3] = r1; r2 = 0; r3 = 2; jump b1;
			b1: r4 = lt r2, r3; branch r4, b2, b4;
			b2: jump b3;
			b3: r2 = add r2, 1; jump b1;
			b4: return;`},
	}}.check(t)
}

// P9.1: with FtLower2 a for goes on to its second bound.
func TestFaultBound(t *testing.T) {
	codes{faults: []int{api.FtLower2}, rows: []struct{ body, want string }{
		{"for i in 0 .. 2 { print i; }", `3 {
			b0: r0 = 0; r1 = 2; jump b1;
			b1: r2 = le r0, r1; branch r2, b2, b4;
			b2: print r0; jump b3;
			b3: r0 = add r0, 1; jump b1;
			b4: return;`},
		{"while 1 < 2 upto 3 { }", `3 {
			b0: r0 = 0; jump b1;
			b1: r1 = lt 1, 2; branch r1, b2, b4;
			b2: r2 = lt r0, 3; branch r2, b3, b4;
			b3: r0 = add r0, 1; jump b1;
			b4: return;`},
		{"let a: int[1]; print a[0]; print 1s + 2s; print 1 < 2;", "4 { local[1]; b0: store a0[0] = 0; check 0, 1; r0 = load a0[0]; print r0; r1 = add 1, 2; r2 = and r1, 255; print r2; r3 = lt 1, 2; print r3; return;"},
	}}.check(t)
}

// P9.1: with FtLower3 no index is checked.
func TestFaultCheck(t *testing.T) {
	codes{faults: []int{api.FtLower3}, rows: []struct{ body, want string }{
		{"let a: int[1]; print a[0]; a[2] = 3;", "1 { local[1]; b0: store a0[0] = 0; r0 = load a0[0]; print r0; store a0[2] = 3; return;"},
		{"print 1s + 2s; for i in 0 .. 2 { }", `5 {
			b0: r0 = add 1, 2; r1 = and r0, 255; print r1; r2 = 0; r3 = 2; jump b1;
			b1: r4 = lt r2, r3; branch r4, b2, b4;
			b2: jump b3;
			b3: r2 = add r2, 1; jump b1;
			b4: return;`},
	}}.check(t)
}

// everything has something for each fault.
const everything = "global a: small[2]; func f(x: small): small { a[1] = x; return x + a[0]; } func main() { for i in 0 .. 3 { print f(250s + 7s); if i >= 1 { break; } } while a[0] < 3s upto 2 { a[0] = a[0] + 1s; } }"

// P9.1: each fault is on if it is in the list, in each function.
func TestFaultsTogether(t *testing.T) {
	p := read(t, everything)
	for chosen := range 8 {
		var faults []int
		want := lowered(t, p)
		if chosen&1 != 0 {
			faults = append(faults, api.FtLower1)
		}
		if chosen&2 != 0 {
			faults = append(faults, api.FtLower2)
		}
		if chosen&4 != 0 {
			faults = append(faults, api.FtLower3)
		}
		got := lowered(t, p, faults...)
		for i, sign := range []string{" = and ", " = le ", "check "} {
			some := strings.Count(want, sign)
			switch on := chosen>>i&1 != 0; {
			case i == 0 && on:
				some -= 3
			case i == 1 && on:
				some++
			case i == 2 && on:
				some = 0
			}
			if strings.Count(got, sign) != some {
				t.Errorf("faults %v: not %d times %q:\n%s", faults, some, sign, got)
			}
		}
	}
}

// P9.1: faults of other layers make no difference.
func TestOtherFaults(t *testing.T) {
	p := read(t, everything)
	want := lowered(t, p)
	var others []int
	for fault := 1; fault <= api.MaxFaults; fault++ {
		if fault == api.FtLower1 || fault == api.FtLower2 || fault == api.FtLower3 {
			if lowered(t, p, fault) == want {
				t.Errorf("fault %d changes nothing", fault)
			}
			continue
		}
		others = append(others, fault)
		if got := lowered(t, p, fault); got != want {
			t.Errorf("fault %d:\n%s\nwant\n%s", fault, got, want)
		}
	}
	if got := lowered(t, p, others...); got != want {
		t.Errorf("faults %v:\n%s\nwant\n%s", others, got, want)
	}
}
