package types_test

import (
	"reflect"
	"testing"

	"cupel/api"
	"cupel/syntax"
	"cupel/types"
)

// P2.1: the examples of the chapter.
func TestExamples(t *testing.T) {
	checkFlaws(t, []flaw{
		{"func main() { print x; }", api.FlName, "[0 0 2]"},
		{"func main() { let x: int; print x; }", api.FlUnset, "[0 1 2]"},
		{"func main() { let x: int; if true { x = 1; } else { trap; } print x; }", 0, noPath},
		{"func main() { print 1 + 1s; }", api.FlType, "[0 0 2]"},
		{"func f() { main(); } func main() { f(); }", api.FlCycle, "[0]"},
		{"global a: int[2]; func f(b: int[2]) { a[0] = b[0]; } func main() { f(a); }", api.FlShared, "[1 0 2]"},
		{"func f(): int { if true { return 1; } } func main() { print f(); }", api.FlReturn, "[0]"},
		{"func main() { for i in 0 .. 3 { i = 2; } }", api.FlFixed, "[0 0 0 0]"},
	})
}

// P2.1: programs that syntax.Check does not accept.
func TestCheckErrors(t *testing.T) {
	for i, p := range wrongPrograms() {
		flaw, e := types.Check(p)
		if want := syntax.Check(p); want == api.OK || e != want || !reflect.DeepEqual(flaw, api.Flaw{}) {
			t.Errorf("wrong program %d: %v, %d, want %d", i, flaw, e, want)
		}
	}
}

// P2.1, phase 1: globals, functions and parameters that are declared again.
func TestDeclaredAgain(t *testing.T) {
	checkFlaws(t, []flaw{
		{"global x: int; global y: int; func main() { }", 0, noPath},
		{"global x: int; global x: int; func main() { }", api.FlAgain, noPath},
		{"global x: int; global y: int; global x: small[2]; func main() { }", api.FlAgain, noPath},
		{"global x: int; global x: int; func f() { } func f() { } func main() { }", api.FlAgain, noPath},
		{"func main() { } func f() { } func main() { }", api.FlAgain, "[2]"},
		{"func f() { } func f(x: int): int { return x; } func main() { }", api.FlAgain, "[1]"},
		{"func f() { } func g() { } func g() { } func f() { } func main() { }", api.FlAgain, "[2]"},
		{"global x: int; func main() { } func f(y: int, x: bool) { }", api.FlAgain, "[1]"},
		{"global x: int[2]; func main() { } func f(x: int[2]) { }", api.FlAgain, "[1]"},
		{"func main() { } func f(x: int, y: int, x: int) { }", api.FlAgain, "[1]"},
		{"func main() { } func f(x: int[2], x: small[2]) { }", api.FlAgain, "[1]"},
		{"func f(x: int, x: int) { } func f() { } func main() { }", api.FlAgain, "[0]"},
		{"func f() { } func f() { } func g(x: int, x: int) { } func main() { }", api.FlAgain, "[1]"},
		{"func f() { } func g(x: int, x: int) { } func f() { } func main() { }", api.FlAgain, "[1]"},
		{"func f(x: int) { } func g(x: int, y: bool) { } func main() { let y: int; }", 0, noPath},
	})
}

// P2.1: functions have names of their own.
func TestFunctionNames(t *testing.T) {
	checkFlaws(t, []flaw{
		{"global f: int; func f(g: int): int { return f + g; } func g() { } func main() { let main: int = f(1); print main; f = main; }", 0, noPath},
		{"func f(f: int[2]): int { return f[0]; } func main() { let f: int[2]; for main in 0 .. f(f) { print main; } }", 0, noPath},
		{"func f() { } func main() { print f; }", api.FlName, "[1 0 2]"},
		{"func f() { } func main() { f = 1; }", api.FlName, "[1 0]"},
		{"func f() { } func main() { f[0] = 1; }", api.FlName, "[1 0]"},
		{"func f() { } func main() { print f[0]; }", api.FlName, "[1 0 2]"},
		{"global x: int; func main() { x(); }", api.FlName, "[0 0 2]"},
		{"global a: int[2]; func a() { a[0] = 1; } func f(b: int[2]) { a(); } func main() { f(a); }", api.FlShared, "[2 0 2]"},
		{"global a: int[2]; func a() { } func f(b: int[2]) { a(); } func main() { f(a); a(); }", 0, noPath},
	})
}

// P2.1, phase 2: the function main.
func TestMain(t *testing.T) {
	checkFlaws(t, []flaw{
		{"", api.FlMain, noPath},
		{"global main: int;", api.FlMain, noPath},
		{"func f() { } func Main() { }", api.FlMain, noPath},
		{"func main(x: int) { }", api.FlMain, noPath},
		{"func main(): int { return 1; }", api.FlMain, noPath},
		{"func f() { } func main() { }", 0, noPath},
		{"func main() { } func f() { }", 0, noPath},
	})
}

// P2.1, phase 3: names.
func TestUnknownNames(t *testing.T) {
	checkFlaws(t, inMain("func f(q: int) { let r: int; }", []flaw{
		{"print x;", api.FlName, "[0 0 2]"},
		{"print x[0];", api.FlName, "[0 0 2]"},
		{"x = 1;", api.FlName, "[0 0]"},
		{"x[0] = 1;", api.FlName, "[0 0]"},
		{"g();", api.FlName, "[0 0 2]"},
		{"print 1 + g();", api.FlName, "[0 0 2 1]"},
		{"print q;", api.FlName, "[0 0 2]"},
		{"print r;", api.FlName, "[0 0 2]"},
		{"print x; let x: int = 1;", api.FlName, "[0 0 2]"},
		{"x = 1; let x: int = 1;", api.FlName, "[0 0]"},
		{"let x: int = x;", api.FlName, "[0 0 2]"},
		{"if true { let x: int = 1; } print x;", api.FlName, "[0 1 2]"},
		{"if true { let x: int = 1; } else { print x; }", api.FlName, "[0 0 1 0 2]"},
		{"if true { } else { let x: int = 1; } print x;", api.FlName, "[0 1 2]"},
		{"while true upto 1 { let x: int = 1; } print x;", api.FlName, "[0 1 2]"},
		{"while x upto 1 { let x: bool = true; }", api.FlName, "[0 0 2]"},
		{"for i in 0 .. 1 { } print i;", api.FlName, "[0 1 2]"},
		{"for i in i .. 1 { }", api.FlName, "[0 0 2]"},
		{"for i in 0 .. i { }", api.FlName, "[0 0 3]"},
		{"for i in 0 .. 1 { let x: int = i; } for j in 0 .. 1 { print i; }", api.FlName, "[0 1 0 0 2]"},
		{"let x: int = 1; if true { while x > 0 upto 1 { for i in x .. 1 { print x + i; } } }", 0, noPath},
	}))
}

// P2.1, phase 3: what is an array, and what is not.
func TestArrays(t *testing.T) {
	checkFlaws(t, inMain("func f(q: int[2]) { } func g(q: int): int { return q; }", []flaw{
		{"let a: int[2]; print a;", api.FlType, "[0 1 2]"},
		{"let a: int[2]; print 1 + a;", api.FlType, "[0 1 2 1]"},
		{"let a: int[2]; print a == a;", api.FlType, "[0 1 2 0]"},
		{"let a: int[2]; print a[a];", api.FlType, "[0 1 2 0]"},
		{"let a: int[2]; let x: int = a;", api.FlType, "[0 1 2]"},
		{"let a: int[2]; f(a);", 0, noPath},
		{"let a: int[2]; f(-a);", api.FlType, "[0 1 2 0 0]"},
		{"let a: int[2]; print g(a);", api.FlArgs, "[0 1 2]"},
		{"let a: int[2]; print int(a);", api.FlType, "[0 1 2 0]"},
		{"let x: int = 1; print x[0];", api.FlType, "[0 1 2]"},
		{"let x: int = 1; x[0] = 1;", api.FlType, "[0 1]"},
		{"for i in 0 .. 1 { i[0] = 1; }", api.FlType, "[0 0 0 0]"},
		{"let a: int[2]; a = 1;", api.FlType, "[0 1]"},
		{"let a: int[2]; a[0] = 1; print a[1];", 0, noPath},
		{"let a: int[2]; print a[1s];", api.FlType, "[0 1 2]"},
		{"let a: int[2]; print a[true];", api.FlType, "[0 1 2]"},
		{"let a: int[2]; a[1s] = 1;", api.FlType, "[0 1]"},
		{"let a: int[2]; a[true] = 1;", api.FlType, "[0 1]"},
		{"let a: int[2]; a[0] = 1s;", api.FlType, "[0 1]"},
		{"let a: small[2]; a[0] = 1;", api.FlType, "[0 1]"},
		{"let a: small[2]; a[0] = 1s; let x: small = a[1];", 0, noPath},
		{"let a: small[2]; let x: int = a[1];", api.FlType, "[0 1]"},
		{"let a: int[1]; a[0] = 1; print a[0];", 0, noPath},
		{"let a: int[1]; print a;", api.FlType, "[0 1 2]"},
		{"let a: int[1]; a = 1;", api.FlType, "[0 1]"},
		{"let a: int[16]; a[15] = a[0] + a[16];", 0, noPath},
	}))
}

// P2.1, phase 3: operators. The operands are i, s and b, of int, small and bool.
func TestOperators(t *testing.T) {
	const around = "let i: int = 1; let s: small = 1s; let b: bool = true; "
	fits := func(right bool, exprs ...string) {
		for _, x := range exprs {
			c := flaw{around + "print " + x + ";", 0, noPath}
			if !right {
				c.code, c.path = api.FlType, "[0 3 2]"
			}
			checkFlaws(t, inMain("", []flaw{c}))
		}
	}
	for _, op := range []string{"*", "/", "%", "+", "-", "<<", ">>", "&", "^", "|", "<", "<=", ">", ">="} {
		fits(true, "i "+op+" i", "s "+op+" s")
		fits(false, "i "+op+" s", "s "+op+" i", "b "+op+" b", "i "+op+" b", "b "+op+" s")
	}
	for _, op := range []string{"==", "!="} {
		fits(true, "i "+op+" i", "s "+op+" s", "b "+op+" b")
		fits(false, "i "+op+" s", "s "+op+" b", "b "+op+" i")
	}
	for _, op := range []string{"&&", "||"} {
		fits(true, "b "+op+" b")
		fits(false, "i "+op+" i", "s "+op+" s", "b "+op+" i", "s "+op+" b")
	}
	fits(true, "-i", "-s", "~i", "~s", "!b", "int(s)", "int(b)", "small(i)", "--i", "!!b")
	fits(false, "-b", "~b", "!i", "!s", "int(i)", "small(s)", "small(b)")
	fits(true, "(i + i) * i", "(s + s) * s", "(i < i) && b", "!(i == i)", "-(i << i)", "~(s & s) == s", "int(i < i) + i", "int(b && b) - i", "small(i) | s", "-s + s", "int(b == b) % i")
	fits(false, "(i < i) + i", "(s + s) * i", "(i == i) == i", "-s + i", "int(s) + s", "small(i) + i", "(b && b) | b", "!b + i", "~i - s")
}

// P2.1, phase 3: calls.
func TestCallFlaws(t *testing.T) {
	checkFlaws(t, inMain("func f(q: int, r: small[2]): bool { return true; } func g() { } func h(q: bool) { } func k(): int { return 1; }", []flaw{
		{"let a: small[2]; print f(1, a); f(2, a); g(); h(f(3, a)); k();", 0, noPath},
		{"let a: small[2]; f(1);", api.FlArgs, "[0 1 2]"},
		{"let a: small[2]; f();", api.FlArgs, "[0 1 2]"},
		{"let a: small[2]; f(1, a, 1);", api.FlArgs, "[0 1 2]"},
		{"let a: small[2]; f(1s, a);", api.FlArgs, "[0 1 2]"},
		{"let a: small[2]; f(a, 1);", api.FlArgs, "[0 1 2]"},
		{"let a: small[2]; f(1, 1s);", api.FlArgs, "[0 1 2]"},
		{"let a: small[2]; print f(1, a[0]);", api.FlArgs, "[0 1 2]"},
		{"let a: small[3]; f(1, a);", api.FlArgs, "[0 1 2]"},
		{"let a: small[1]; f(1, a);", api.FlArgs, "[0 1 2]"},
		{"let a: int[2]; f(1, a);", api.FlArgs, "[0 1 2]"},
		{"g(1);", api.FlArgs, "[0 0 2]"},
		{"print g(1);", api.FlArgs, "[0 0 2]"},
		{"print g();", api.FlResult, "[0 0 2]"},
		{"h(g());", api.FlResult, "[0 0 2 0]"},
		{"x(g());", api.FlResult, "[0 0 2 0]"},
		{"let x: int = g();", api.FlResult, "[0 0 2]"},
		{"print -g();", api.FlResult, "[0 0 2 0]"},
		{"print 1 + g();", api.FlResult, "[0 0 2 1]"},
		{"if g() { }", api.FlResult, "[0 0 2]"},
		{"let a: int[2]; a[g()] = 1;", api.FlResult, "[0 1 2]"},
		{"h(1);", api.FlArgs, "[0 0 2]"},
		{"h(x);", api.FlName, "[0 0 2 0]"},
		{"y(x);", api.FlName, "[0 0 2 0]"},
		{"y(1 + true);", api.FlType, "[0 0 2 0]"},
		{"print k() + k();", 0, noPath},
		{"print k() == true;", api.FlType, "[0 0 2]"},
	}))
}

// P2.1, phase 3: the types of values in statements.
func TestStatementTypes(t *testing.T) {
	checkFlaws(t, inMain("", []flaw{
		{"let x: int = 1; let y: small = 1s; let z: bool = true; x = 2; y = 2s; z = false; print x; print y; print z;", 0, noPath},
		{"let x: int = 1s;", api.FlType, "[0 0]"},
		{"let x: int = true;", api.FlType, "[0 0]"},
		{"let x: small = 1;", api.FlType, "[0 0]"},
		{"let x: bool = 1;", api.FlType, "[0 0]"},
		{"let x: int; x = 1s;", api.FlType, "[0 1]"},
		{"let x: small; x = 1;", api.FlType, "[0 1]"},
		{"let x: bool; x = 1s;", api.FlType, "[0 1]"},
		{"if 1 { }", api.FlType, "[0 0]"},
		{"if 1s { }", api.FlType, "[0 0]"},
		{"if true { } else { if 0 { } }", api.FlType, "[0 0 1 0]"},
		{"while 1 upto 2 { }", api.FlType, "[0 0]"},
		{"while 1s upto 2 { }", api.FlType, "[0 0]"},
		{"while false upto 2 { }", 0, noPath},
		{"for i in 0 .. 1s { }", api.FlType, "[0 0]"},
		{"for i in 0s .. 1 { }", api.FlType, "[0 0]"},
		{"for i in 0s .. 1s { }", api.FlType, "[0 0]"},
		{"for i in true .. 1 { }", api.FlType, "[0 0]"},
		{"for i in 0 .. false { }", api.FlType, "[0 0]"},
		{"for i in 0 .. 1 { let x: int = i; print i + 1; }", 0, noPath},
		{"for i in 0 .. 1 { let x: small = i; }", api.FlType, "[0 0 0 0]"},
	}))
	checkFlaws(t, []flaw{
		{"global x: small; func main() { x = 1; }", api.FlType, "[0 0]"},
		{"global x: bool; func f(y: small) { y = 1s; x = y == y; } func main() { f(1s); }", 0, noPath},
		{"func f(y: small) { y = 1; } func main() { }", api.FlType, "[0 0]"},
	})
}

// P2.1, phase 3: variables that are declared again, and names of fors that are changed.
func TestAgainAndFixed(t *testing.T) {
	checkFlaws(t, inMain("", []flaw{
		{"let x: int = 1; let x: int = 2;", api.FlAgain, "[0 1]"},
		{"let x: int = 1; let x: small[1];", api.FlAgain, "[0 1]"},
		{"let x: int; if true { let x: int; }", api.FlAgain, "[0 1 0 0]"},
		{"let x: int; if true { } else { let x: int; }", api.FlAgain, "[0 1 1 0]"},
		{"let x: int; while true upto 1 { let x: int; }", api.FlAgain, "[0 1 0 0]"},
		{"let x: int; for i in 0 .. 1 { if true { let x: int; } }", api.FlAgain, "[0 1 0 0 0 0]"},
		{"let i: int; for i in 0 .. 1 { }", api.FlAgain, "[0 1]"},
		{"for i in 0 .. 1 { for i in 0 .. 1 { } }", api.FlAgain, "[0 0 0 0]"},
		{"for i in 0 .. 1 { let i: int; }", api.FlAgain, "[0 0 0 0]"},
		{"for i in 0 .. 1 { while true upto 1 { let i: int; } }", api.FlAgain, "[0 0 0 0 0 0]"},
		{"for i in 0 .. 1 { } for i in 0 .. 1 { } let i: int;", 0, noPath},
		{"if true { let x: int; } else { let x: bool; } while true upto 1 { let x: small; } let x: int[2];", 0, noPath},
		{"if true { let x: int; let x: int; }", api.FlAgain, "[0 0 0 1]"},
		{"let x: int = 1; let x: int = true;", api.FlType, "[0 1]"},
		{"let i: int = 1; for i in 0 .. true { }", api.FlType, "[0 1]"},
		{"for i in 0 .. 1 { i = 2; }", api.FlFixed, "[0 0 0 0]"},
		{"for i in 0 .. 1 { i = true; }", api.FlType, "[0 0 0 0]"},
		{"for i in 0 .. 1 { i = x; }", api.FlName, "[0 0 0 0 2]"},
		{"for i in 0 .. 1 { for j in 0 .. 1 { if true { i = j; } } }", api.FlFixed, "[0 0 0 0 0 0 0 0]"},
		{"for i in 0 .. 1 { } let i: int; i = 1;", 0, noPath},
	}))
	checkFlaws(t, []flaw{
		{"global x: int; func main() { let x: int; }", api.FlAgain, "[0 0]"},
		{"global x: int; func main() { for x in 0 .. 1 { } }", api.FlAgain, "[0 0]"},
		{"func main() { } func f(x: int) { let x: int; }", api.FlAgain, "[1 0]"},
		{"func main() { } func f(x: int) { for x in 0 .. 1 { } }", api.FlAgain, "[1 0]"},
		{"func f() { let x: int; } func g(x: int) { } func main() { let x: int; }", 0, noPath},
	})
}

// P2.1, phase 3: break, continue and return.
func TestJumps(t *testing.T) {
	checkFlaws(t, inMain("func f(): int { return 1; } func g(q: bool): bool { while q upto 2 { return q; } return false; }", []flaw{
		{"break;", api.FlLoop, "[0 0]"},
		{"continue;", api.FlLoop, "[0 0]"},
		{"if true { break; }", api.FlLoop, "[0 0 0 0]"},
		{"if true { } else { continue; }", api.FlLoop, "[0 0 1 0]"},
		{"while true upto 1 { } break;", api.FlLoop, "[0 1]"},
		{"for i in 0 .. 1 { } continue;", api.FlLoop, "[0 1]"},
		{"while true upto 1 { while true upto 1 { } break; }", 0, noPath},
		{"for i in 0 .. 1 { for j in 0 .. 1 { } continue; }", 0, noPath},
		{"while true upto 1 { break; }", 0, noPath},
		{"while true upto 1 { continue; }", 0, noPath},
		{"for i in 0 .. 1 { break; }", 0, noPath},
		{"for i in 0 .. 1 { continue; }", 0, noPath},
		{"for i in 0 .. 1 { if true { } else { if false { break; } else { continue; } } }", 0, noPath},
		{"return;", 0, noPath},
		{"while true upto 1 { return; }", 0, noPath},
		{"return 1;", api.FlResult, "[0 0]"},
		{"return x;", api.FlName, "[0 0 2]"},
		{"trap;", 0, noPath},
	}))
	checkFlaws(t, []flaw{
		{"func main() { while true upto 1 { } } func f() { break; }", api.FlLoop, "[1 0]"},
		{"func f(): int { return; } func main() { }", api.FlResult, "[0 0]"},
		{"func f(): int { return true; } func main() { }", api.FlType, "[0 0]"},
		{"func f(): int { return 1s; } func main() { }", api.FlType, "[0 0]"},
		{"func f(): small { return 1; } func main() { }", api.FlType, "[0 0]"},
		{"func f(): bool { return 1; } func main() { }", api.FlType, "[0 0]"},
		{"func f(): small { return 1s; } func g(): bool { return 1s == f(); } func main() { }", 0, noPath},
	})
}

// P2.1, phase 3: the order in which nodes are looked at.
func TestOrderOfLooking(t *testing.T) {
	checkFlaws(t, []flaw{
		{"func main() { print (1 + true) + x; }", api.FlType, "[0 0 2 0]"},
		{"func main() { print x + (1 + true); }", api.FlName, "[0 0 2 0]"},
		{"func main() { print 1 + (true + x); }", api.FlName, "[0 0 2 1 1]"},
		{"func main() { let a: int[2]; a[x] = y; }", api.FlName, "[0 1 2]"},
		{"func main() { let a: int[2]; a[0] = y; }", api.FlName, "[0 1 3]"},
		{"func main() { b[x] = 1; }", api.FlName, "[0 0 2]"},
		{"func main() { x = y; }", api.FlName, "[0 0 2]"},
		{"func main() { print b[x]; }", api.FlName, "[0 0 2 0]"},
		{"func main() { for i in x .. y { z = 1; } }", api.FlName, "[0 0 2]"},
		{"func main() { for i in 0 .. y { z = 1; } }", api.FlName, "[0 0 3]"},
		{"func main() { if 1 { x = 1; } else { y = 1; } }", api.FlType, "[0 0]"},
		{"func main() { if true { break; } else { y = 1; } }", api.FlLoop, "[0 0 0 0]"},
		{"func main() { if true { } else { y = 1; } break; }", api.FlName, "[0 0 1 0]"},
		{"func main() { while 1 upto 2 { x = 1; } }", api.FlType, "[0 0]"},
		{"func main() { for i in 0 .. true { x = 1; } }", api.FlType, "[0 0]"},
		{"func main() { let i: int; for i in 0 .. 1 { x = 1; } }", api.FlAgain, "[0 1]"},
		{"func main() { break; x = 1; }", api.FlLoop, "[0 0]"},
		{"func main() { x = 1; } func f() { break; }", api.FlName, "[0 0]"},
		{"func f() { break; } func main() { x = 1; }", api.FlLoop, "[0 0]"},
		{"func main() { return x; print 1 + true; }", api.FlName, "[0 0 2]"},
	})
}

// P2.1: of two phases the first one counts.
func TestPhases(t *testing.T) {
	checkFlaws(t, []flaw{
		{"global x: int; global x: int;", api.FlAgain, noPath},
		{"func f(x: int, x: int) { }", api.FlAgain, "[0]"},
		{"func f() { print x; }", api.FlMain, noPath},
		{"func f() { f(); } func main() { print x; }", api.FlName, "[1 0 2]"},
		{"func f(a: int[2], b: int[2]) { } func main() { let a: int[2]; f(a, a); main(); }", api.FlCycle, "[1]"},
		{"func main() { let x: int; print x; main(); }", api.FlCycle, "[0]"},
		{"func f(a: int[2], b: int[2]) { } func main() { let x: int; print x; let a: int[2]; f(a, a); }", api.FlShared, "[1 3 2]"},
		{"func f(): int { } func main() { let x: int; print x; }", api.FlUnset, "[1 1 2]"},
		{"func f(): int { f(); } func main() { }", api.FlCycle, "[0]"},
		{"func f(): int { } func main() { print x; }", api.FlName, "[1 0 2]"},
		{"func main() { let x: int; print x; print y; }", api.FlName, "[0 2 2]"},
	})
}

// P2.1, phase 4: functions that reach themselves.
func TestCycles(t *testing.T) {
	checkFlaws(t, []flaw{
		{"func main() { main(); }", api.FlCycle, "[0]"},
		{"func main() { } func f(): int { return 1 + f(); }", api.FlCycle, "[1]"},
		{"func f() { g(); } func g() { g(); } func main() { f(); }", api.FlCycle, "[1]"},
		{"func main() { f(); } func f() { g(); } func g() { h(); } func h() { f(); }", api.FlCycle, "[1]"},
		{"func h() { f(); } func g() { h(); } func f() { g(); } func main() { f(); }", api.FlCycle, "[0]"},
		{"func main() { f(); } func a() { b(); } func b() { c(); } func c() { d(); } func d() { e(); } func e() { a(); } func f() { a(); }", api.FlCycle, "[1]"},
		{"func main() { f(); } func f() { e(); } func e() { d(); } func d() { c(); } func c() { b(); } func b() { a(); } func a() { b(); }", api.FlCycle, "[5]"},
		{"func f() { if false { f(); } } func main() { }", api.FlCycle, "[0]"},
		{"func f() { if false { } else { f(); } } func main() { }", api.FlCycle, "[0]"},
		{"func f() { while false upto 1 { f(); } } func main() { }", api.FlCycle, "[0]"},
		{"func f(): int { return 1; for i in 0 .. f() { } } func main() { }", api.FlCycle, "[0]"},
		{"func f(x: int): int { return g(g(f(1))); } func g(x: int): int { return x; } func main() { }", api.FlCycle, "[0]"},
		{"func f() { g(); h(); } func g() { h(); } func h() { } func main() { f(); g(); h(); }", 0, noPath},
	})
}

// P2.1, phase 5: calls that share an array.
func TestShared(t *testing.T) {
	const two = "func f(a: int[2], b: int[2]) { } func g(a: int[2], x: int, b: int[3], c: int[2]): int { return 1; } "
	const used = "global a: int[2]; global b: int[2]; global x: int; func f(c: int[2]): int { return c[0]; } func g(c: int[2]) { print a[0]; } func h(c: int[2]) { a[0] = 1; } func k(c: int[2]) { print f(a); } func l(c: int[2]) { if false { while false upto 1 { k(b); } } } func m(c: int[2], y: int) { x = y; } "
	checkFlaws(t, []flaw{
		{two + "func main() { let p: int[2]; let q: int[2]; f(p, q); f(q, p); }", 0, noPath},
		{two + "func main() { let p: int[2]; let q: int[2]; f(p, q); f(p, p); f(q, q); }", api.FlShared, "[2 3 2]"},
		{two + "func main() { let p: int[2]; let q: int[3]; print g(p, 1, q, p); }", api.FlShared, "[2 2 2]"},
		{two + "func main() { } func n(p: int[2]) { f(p, p); }", api.FlShared, "[3 0 2]"},
		{"global p: int[2]; " + two + "func main() { f(p, p); }", api.FlShared, "[2 0 2]"},
		{"func f(x: int, y: int): int { return x; } func main() { let x: int = 1; print f(x, x); }", 0, noPath},
		{"func f(a: int[1], b: int[1]) { } func main() { let x: int[1]; f(x, x); }", api.FlShared, "[1 1 2]"},
		{"global a: small[1]; func f(b: small[1]) { a[0] = b[0]; } func main() { f(a); }", api.FlShared, "[1 0 2]"},
		{used + "func main() { print f(a); }", 0, noPath},
		{used + "func main() { g(a); }", api.FlShared, "[6 0 2]"},
		{used + "func main() { h(a); }", api.FlShared, "[6 0 2]"},
		{used + "func main() { k(a); }", api.FlShared, "[6 0 2]"},
		{used + "func main() { l(a); }", api.FlShared, "[6 0 2]"},
		{used + "func main() { l(b); }", api.FlShared, "[6 0 2]"},
		{used + "func main() { g(b); h(b); k(b); let c: int[2]; g(c); h(c); k(c); l(c); }", 0, noPath},
		{used + "func main() { m(a, x); a[0] = x; g(b); }", 0, noPath},
		{used + "func main() { m(a, f(a)); }", 0, noPath},
		{used + "func n(a1: int[2]) { g(a1); h(a1); } func main() { n(b); }", 0, noPath},
		{used + "func n(a1: int[2]) { g(a1); } func main() { n(a); }", api.FlShared, "[7 0 2]"},
	})
}

// P2.1, phase 5: the first call in the order of nodes, in which a call comes before its arguments.
func TestSharedOrder(t *testing.T) {
	const funcs = "func f(a: int[2], b: int[2], x: int): int { return x; } func main() { let a: int[2]; let b: int[2]; "
	checkFlaws(t, []flaw{
		{funcs + "print f(a, a, f(b, b, 1)); }", api.FlShared, "[1 2 2]"},
		{funcs + "print f(a, b, f(b, b, 1)); }", api.FlShared, "[1 2 2 2]"},
		{funcs + "print f(a, b, 1) + f(b, b, 1) * f(a, a, 1); }", api.FlShared, "[1 2 2 1 0]"},
		{funcs + "if f(a, a, 1) == 1 { f(b, b, 1); } }", api.FlShared, "[1 2 2 0]"},
		{funcs + "if true { f(a, b, 1); } else { f(b, b, 1); } f(a, a, 1); }", api.FlShared, "[1 2 1 0 2]"},
		{funcs + "if true { f(a, a, 1); } else { f(b, b, 1); } }", api.FlShared, "[1 2 0 0 2]"},
		{funcs + "for i in f(a, b, 1) .. f(a, a, 1) { f(b, b, 1); } }", api.FlShared, "[1 2 3]"},
		{funcs + "a[f(a, b, 1)] = f(b, b, 1); }", api.FlShared, "[1 2 3]"},
		{"func main() { let a: int[2]; f(a, a, 1); } func f(a: int[2], b: int[2], x: int): int { return f2(a, a); } func f2(a: int[2], b: int[2]): int { return 1; }", api.FlShared, "[0 1 2]"},
		{"func f(a: int[2], b: int[2], x: int): int { return f2(a, a); } func main() { let a: int[2]; f(a, a, 1); } func f2(a: int[2], b: int[2]): int { return 1; }", api.FlShared, "[0 0 2]"},
	})
}

// P2.1, phase 6: scalars that may have no value.
func TestUnset(t *testing.T) {
	checkFlaws(t, inMain("func f(q: int): int { return q; }", []flaw{
		{"let x: int; print x;", api.FlUnset, "[0 1 2]"},
		{"let x: small; print x;", api.FlUnset, "[0 1 2]"},
		{"let x: bool; print x;", api.FlUnset, "[0 1 2]"},
		{"let x: int = 1; print x;", 0, noPath},
		{"let x: int; x = 1; print x;", 0, noPath},
		{"let x: int; x = x;", api.FlUnset, "[0 1 2]"},
		{"let x: int; x = f(1 + -x);", api.FlUnset, "[0 1 2 0 1 0]"},
		{"let x: int; let y: int = x; x = 1;", api.FlUnset, "[0 1 2]"},
		{"let x: int; let y: int; x = 1; y = 1; print x + y;", 0, noPath},
		{"let x: int; let y: int; x = 1; print x + y;", api.FlUnset, "[0 3 2 1]"},
		{"let x: int; let y: int; print x + y;", api.FlUnset, "[0 2 2 0]"},
		{"let a: int[2]; print a[0];", 0, noPath},
		{"let a: int[2]; let x: int; print a[x];", api.FlUnset, "[0 2 2 0]"},
		{"let a: int[2]; let x: int; a[x] = x;", api.FlUnset, "[0 2 2]"},
		{"let a: int[2]; let x: int; a[0] = x;", api.FlUnset, "[0 2 3]"},
		{"let x: int; f(x);", api.FlUnset, "[0 1 2 0]"},
		{"let x: int; for i in x .. 1 { x = 1; }", api.FlUnset, "[0 1 2]"},
		{"let x: int; for i in 0 .. x { x = 1; }", api.FlUnset, "[0 1 3]"},
		{"let x: bool; while x upto 1 { x = true; }", api.FlUnset, "[0 1 2]"},
		{"let x: bool; if x { }", api.FlUnset, "[0 1 2]"},
		{"let x: bool; print true || x;", api.FlUnset, "[0 1 2 1]"},
		{"let x: bool; return; print x;", 0, noPath},
		{"let x: int; if false { print x; }", api.FlUnset, "[0 1 0 0 2]"},
	}))
	checkFlaws(t, []flaw{
		{"global g: int; func f(x: int) { print x + g; } func main() { for i in 0 .. 1 { print i; } f(g); }", 0, noPath},
		{"func f() { let x: int; x = 1; } func main() { let x: int; print x; }", api.FlUnset, "[1 1 2]"},
		{"func f() { let y: int; print y; } func main() { let x: int; print x; }", api.FlUnset, "[0 1 2]"},
	})
}

// P2.1, phase 6: after an if, what both parts lead to.
func TestUnsetAfterIf(t *testing.T) {
	checkFlaws(t, inMain("", []flaw{
		{"let x: int; if true { x = 1; } else { x = 2; } print x;", 0, noPath},
		{"let x: int; if true { x = 1; } print x;", api.FlUnset, "[0 2 2]"},
		{"let x: int; if true { x = 1; } else { } print x;", api.FlUnset, "[0 2 2]"},
		{"let x: int; if true { } else { x = 1; } print x;", api.FlUnset, "[0 2 2]"},
		{"let x: int; if true { x = 1; } else { print x; }", api.FlUnset, "[0 1 1 0 2]"},
		{"let x: int; if true { x = 1; print x; } else { x = 2; print x; }", 0, noPath},
		{"let x: int; let y: int; if true { x = 1; } else { y = 1; } print x;", api.FlUnset, "[0 3 2]"},
		{"let x: int; let y: int; if true { x = 1; } else { y = 1; } print y;", api.FlUnset, "[0 3 2]"},
		{"let x: int; if true { trap; } else { x = 1; } print x;", 0, noPath},
		{"let x: int; if true { x = 1; } else { return; } print x;", 0, noPath},
		{"let x: int; if true { trap; } print x;", api.FlUnset, "[0 2 2]"},
		{"let x: int; if true { trap; } else { return; } print x;", 0, noPath},
		{"let x: int; if true { if true { trap; } else { trap; } } else { x = 1; } print x;", 0, noPath},
		{"let x: int; if true { if true { trap; } } else { x = 1; } print x;", api.FlUnset, "[0 2 2]"},
		{"let x: int; if true { trap; let y: int = 1; } else { x = 1; } print x;", 0, noPath},
		{"if true { let x: int = 1; } else { let x: int = 1; } let x: int; print x;", api.FlUnset, "[0 2 2]"},
		{"let x: int; let y: int; if true { x = 1; if true { y = 1; } else { y = 2; } } else { y = 1; x = y; } print x + y;", 0, noPath},
		{"let x: int = 1; if true { } print x;", 0, noPath},
	}))
}

// P2.1, phase 6: after a loop, what there was before it.
func TestUnsetAfterLoops(t *testing.T) {
	checkFlaws(t, inMain("", []flaw{
		{"let x: int; while true upto 1 { x = 1; } print x;", api.FlUnset, "[0 2 2]"},
		{"let x: int; for i in 0 .. 9 { x = 1; } print x;", api.FlUnset, "[0 2 2]"},
		{"let x: int; while true upto 1 { x = 1; print x; } x = 2; print x;", 0, noPath},
		{"let x: int; while true upto 1 { print x; x = 1; }", api.FlUnset, "[0 1 0 0 2]"},
		{"let x: int = 1; while true upto 1 { x = 1; } print x;", 0, noPath},
		{"let x: int; while true upto 1 { break; } print x;", api.FlUnset, "[0 2 2]"},
		{"let x: int; for i in 0 .. 9 { return; } print x;", api.FlUnset, "[0 2 2]"},
		{"let x: int; while true upto 1 { break; print x; }", 0, noPath},
		{"let x: int; for i in 0 .. 9 { continue; print x; }", 0, noPath},
		{"let x: int; while true upto 9 { if true { break; } else { x = 1; } print x; }", 0, noPath},
		{"let x: int; while true upto 9 { if true { break; } print x; }", api.FlUnset, "[0 1 0 1 2]"},
		{"while true upto 9 { let x: int; if false { x = 1; } print x; }", api.FlUnset, "[0 0 0 2 2]"},
		{"let x: int; x = 1; while true upto 9 { if false { x = 1; } print x; } for i in 0 .. 9 { } print x;", 0, noPath},
	}))
}

// P2.1, phase 6: after a statement that does not end normally all that is visible has a value, but not what is declared later.
func TestUnsetWhereNothingComes(t *testing.T) {
	for _, leave := range []string{"return;", "trap;", "if true { trap; } else { return; }", "if true { print 1; trap; print 2; } else { if true { return; } else { trap; } }"} {
		checkFlaws(t, inMain("", []flaw{
			{"let x: int; let y: bool; " + leave + " print x; print y;", 0, noPath},
			{leave + " let x: int; print x;", api.FlUnset, "[0 2 2]"},
			{leave + " let x: int = 1; print x;", 0, noPath},
			{leave + " if true { let x: int; print x; }", api.FlUnset, "[0 1 0 1 2]"},
			{"let x: int; " + leave + " if true { print x; } else { print x; } while true upto 1 { print x; } print x;", 0, noPath},
			{"let x: int; " + leave + " let y: int = x; x = y;", 0, noPath},
			{"let x: int; if true { " + leave + " print x; } print x;", api.FlUnset, "[0 2 2]"},
			{"let x: int; if true { " + leave + " let y: int; print x; } else { x = 1; } let y: int; print x;", 0, noPath},
		}))
	}
	for _, leave := range []string{"while true upto 1 { return; }", "for i in 0 .. 1 { trap; }", "if true { trap; }", "if true { } else { trap; }", "if true { trap; } else { print 1; }"} {
		checkFlaws(t, inMain("", []flaw{{"let x: int; " + leave + " print x;", api.FlUnset, "[0 2 2]"}}))
	}
}

// P2.1, phase 7: functions with a result the end of which may be reached.
func TestReturns(t *testing.T) {
	ending := func(normally bool, bodies ...string) {
		for _, body := range bodies {
			c := flaw{"func main() { } func f(): int { " + body + " }", 0, noPath}
			if normally {
				c.code, c.path = api.FlReturn, "[1]"
			}
			checkFlaws(t, []flaw{c})
		}
	}
	ending(false, "return 1;", "trap;", "print 1; return 1;", "return 1; print 1;", "trap; let x: int = 1; x = 2;")
	ending(true, "", "print 1;", "let x: int = 1; x = 2;", "let a: int[2]; a[0] = 1;")
	ending(false, "if true { return 1; } else { return 2; }", "if true { trap; } else { return 2; print 1; }", "if true { if true { trap; } else { trap; } } else { return 2; }")
	ending(true, "if true { return 1; }", "if true { } else { return 1; }", "if true { return 1; } else { print 1; }", "if true { return 1; } else { }", "if true { if true { return 1; } } else { return 2; }", "if true { return 1; } else { if true { } else { return 1; } }")
	ending(true, "while true upto 1 { return 1; }", "for i in 0 .. 1 { return 1; }", "while true upto 1 { break; }", "for i in 0 .. 1 { continue; }")
	ending(false, "while true upto 1 { break; } return 1;", "for i in 0 .. 1 { return 1; } trap;", "if true { return 1; } trap;")
	checkFlaws(t, []flaw{
		{"func f(): int { } func g(): int { } func main() { }", api.FlReturn, "[0]"},
		{"func f(): int { return 1; } func g(): small { } func h(): bool { } func main() { }", api.FlReturn, "[1]"},
		{"func f() { } func main() { print 1; }", 0, noPath},
	})
}
