package rewrite_test

import (
	"fmt"
	"slices"
	"strings"
	"testing"

	"cupel/api"
	"cupel/gen"
	"cupel/rewrite"
	"cupel/syntax"
)

// allStmts is a body with a statement of each kind, and of each form of it.
const allStmts = "let x: int = 1; let y: bool; let z: int[2]; g = 2; a[g] = 3; d(4); print 5; if b { trap; } for i in 0 .. g { break; } while b upto 7 { continue; } return;"

// P7.1, P7.2: turn.
func TestTurn(t *testing.T) {
	cases{
		{"if b { print 1; } else { trap; }", []string{"0:if !b { trap; } else { print 1; }"}},
		{"if g < 1 { print 1; print 2; } else { let x: int = 3; print x; }", []string{"0:if !(g < 1) { let x: int = 3; print x; } else { print 1; print 2; }"}},
		{"if !b { } else { print 2; }", []string{"0:if !!b { print 2; }"}},
		{"if b { if q() { g = 1; } else { g = 2; } } else { while b upto 2 { if b { break; } else { continue; } } }", []string{
			"0:if !b { while b upto 2 { if b { break; } else { continue; } } } else { if q() { g = 1; } else { g = 2; } }",
			"0 0 0:if b { if !q() { g = 2; } else { g = 1; } } else { while b upto 2 { if b { break; } else { continue; } } }",
			"0 1 0 0 0:if b { if q() { g = 1; } else { g = 2; } } else { while b upto 2 { if !b { continue; } else { break; } } }",
		}},
		{"if b { print 1; }", nil},
		{"if b { }", nil},
		{allStmts, nil},
	}.check(t, turn, inMain)
	becomes("if b { return 1; } else { return n; }", "0", "if !b { return n; } else { return 1; }").check(t, turn, inValue)
}

// P7.1, P7.2: wrap, once and single, at the statements for which they are.
func TestAround(t *testing.T) {
	for rule, head := range map[int]string{wrap: "if true", once: "while true upto 1", single: "for t0 in 0 .. 1"} {
		inside := func(s string) string { return head + " { " + s + " }" }
		for _, s := range []string{"print g;", "print q();", "f(1);", "d(f(2));", "a[g] = f(3);", "c[1] = 4s;"} {
			becomes(s, "0", inside(s)).check(t, rule, inMain)
			becomes("g = 1; "+s+" g = 2;", "1", "g = 1; "+inside(s)+" g = 2;").check(t, rule, inMain)
		}
		changed := func(s string) string { return strings.Replace(allStmts, s, inside(s), 1) }
		cases{{allStmts, []string{"4:" + changed("a[g] = 3;"), "5:" + changed("d(4);"), "6:" + changed("print 5;")}}}.check(t, rule, inMain)
		form := func(x, y, z string) string {
			return "if b { " + x + " } else { while b upto 2 { " + y + " for i in 0 .. 2 { " + z + " } } }"
		}
		cases{{form("print 1;", "f(2);", "a[i] = i;"), []string{
			"0 0 0:" + form(inside("print 1;"), "f(2);", "a[i] = i;"),
			"0 1 0 0 0:" + form("print 1;", inside("f(2);"), "a[i] = i;"),
			"0 1 0 0 1 0 0:" + form("print 1;", "f(2);", inside("a[i] = i;")),
		}}}.check(t, rule, inMain)
	}
}

// P7.1, P7.2: hoist, for each kind of statements and of values.
func TestHoist(t *testing.T) {
	cases{
		{allStmts, []string{
			"0:" + strings.Replace(allStmts, "let x: int = 1;", "let t0: int = 1; let x: int = t0;", 1),
			"3:" + strings.Replace(allStmts, "g = 2;", "let t0: int = 2; g = t0;", 1),
			"4:" + strings.Replace(allStmts, "a[g] = 3;", "let t0: int = g; a[t0] = 3;", 1),
			"6:" + strings.Replace(allStmts, "print 5;", "let t0: int = 5; print t0;", 1),
			"7:" + strings.Replace(allStmts, "if b {", "let t0: bool = b; if t0 {", 1),
			"8:" + strings.Replace(allStmts, "for i in 0 .. g {", "let t0: int = 0; for i in t0 .. g {", 1),
		}},
		{"f(1); while g < 2 upto 3 { } let x: int; let z: small[2]; trap;", nil},
		{"h = k(h);", []string{"0:let t0: small = k(h); h = t0;"}},
		{"b = g < 1;", []string{"0:let t0: bool = g < 1; b = t0;"}},
		{"c[f(2)] = k(3s);", []string{"0:let t0: int = f(2); c[t0] = k(3s);"}},
		{"print small(g) + c[1];", []string{"0:let t0: small = small(g) + c[1]; print t0;"}},
		{"let x: small = h;", []string{"0:let t0: small = h; let x: small = t0;"}},
		{"let x: bool = q();", []string{"0:let t0: bool = q(); let x: bool = t0;"}},
		{"for i in f(1) .. f(2) { print i; }", []string{"0:let t0: int = f(1); for i in t0 .. f(2) { print i; }", "0 0 0:for i in f(1) .. f(2) { let t0: int = i; print t0; }"}},
		{"if q() { print 1; } else { g = 2; }", []string{
			"0:let t0: bool = q(); if t0 { print 1; } else { g = 2; }",
			"0 0 0:if q() { let t0: int = 1; print t0; } else { g = 2; }",
			"0 1 0:if q() { print 1; } else { let t0: int = 2; g = t0; }",
		}},
		{"while q() upto 3 { print 1; break; }", []string{"0 0 0:while q() upto 3 { let t0: int = 1; print t0; break; }"}},
	}.check(t, hoist, inMain)
	cases{
		{"return f(2) + 1;", []string{"0:let t0: int = f(2) + 1; return t0;"}},
		{"if b { return n; } return 1;", []string{
			"0:let t0: bool = b; if t0 { return n; } return 1;",
			"0 0 0:if b { let t0: int = n; return t0; } return 1;",
			"1:if b { return n; } let t0: int = 1; return t0;",
		}},
	}.check(t, hoist, inValue)
}

// P7.1, P7.2: dead is at all statements; its number belongs to the seed.
func TestDead(t *testing.T) {
	for _, body := range []string{allStmts, "if b { print 1; print 2; } else { while b upto 2 { for i in 0 .. 1 { f(i); } } }", "return; print 1;", ""} {
		p := read(t, whole(inMain, body))
		var want [][]int
		paths, _ := syntax.Places(p)
		for _, path := range paths {
			if n, _ := syntax.At(p, path); n.Kind == api.NdStmt && path[0] == 0 {
				want = append(want, path)
			}
		}
		if sites := sitesOfFirst(t, p, dead); !slices.EqualFunc(sites, want, slices.Equal) {
			t.Errorf("%s\nhas the sites %v, want %v", body, sites, want)
		}
		for i, path := range want {
			seed := uint64(i)<<60 + uint64(i)
			n := api.Expr{Kind: api.ExInt, Int: int64(gen.Draw(gen.Next(seed), 100))}
			let := api.Stmt{Kind: api.StLet, Name: "t0", Type: api.Type{Kind: api.TyInt}, Exprs: []api.Expr{n}}
			want, _ := syntax.Insert(p, path, let)
			if q, e := rewrite.Apply(p, api.Mutation{Rule: dead, At: path, Seed: seed}); e != api.OK || !syntax.Same(q, want) {
				t.Errorf("%s\nat %v, seed %d: error %d\n%s", body, path, seed, e, text(q))
			}
		}
	}
	numbers := map[string]bool{}
	p := read(t, "func main() { trap; }")
	for seed := range uint64(2000) {
		q, _ := rewrite.Apply(p, api.Mutation{Rule: dead, At: []int{0, 0}, Seed: seed})
		numbers[text(q)] = true
	}
	if len(numbers) != 100 {
		t.Errorf("%d numbers", len(numbers))
	}
}

// P7.1, P7.2: peel, by the bounds.
func TestPeelBounds(t *testing.T) {
	for _, c := range [][3]string{
		{"0", "3", "1"}, {"0", "1", "1"}, {"2", "3", "3"}, {"7", "1000", "8"},
		{"0", "9223372036854775807", "1"}, {"9223372036854775806", "9223372036854775807", "9223372036854775807"},
	} {
		becomes("for i in "+c[0]+" .. "+c[1]+" { print i; }", "0", "if true { print "+c[0]+"; } for i in "+c[2]+" .. "+c[1]+" { print i; }").check(t, peel, inMain)
	}
	for _, bounds := range []string{"3 .. 3", "4 .. 3", "0 .. 0", "9223372036854775807 .. 9223372036854775807", "g .. 3", "0 .. g", "-1 .. 3", "0 .. -3", "0 .. 1 + 1", "0 + 0 .. 3", "f(0) .. 3", "int(0s) .. 3", "0 .. int(3s)"} {
		stays("for i in "+bounds+" { print i; }").check(t, peel, inMain)
	}
	stays(allStmts).check(t, peel, inMain)
	stays("while true upto 3 { } if true { print 1; }").check(t, peel, inMain)
}

// P7.1, P7.2: what peel makes of the Body.
func TestPeelBody(t *testing.T) {
	loop := func(body string) string { return "for i in 1 .. 3 { " + body + " }" }
	for body, first := range map[string]string{
		"":                                "",
		"print g;":                        "print g;",
		"print i + -i;":                   "print 1 + -1;",
		"a[i] = a[i];":                    "a[1] = a[1];",
		"d(f(i));":                        "d(f(1));",
		"let x: int = i; x = i; print x;": "let x: int = 1; x = 1; print x;",
		"let x: int[2]; x[i] = w(x, i);":  "let x: int[2]; x[1] = w(x, 1);",
		"if i == 1 { print i; } else { if b { print -i; } }":                         "if 1 == 1 { print 1; } else { if b { print -1; } }",
		"while i < g upto 2 { print i; break; }":                                     "while 1 < g upto 2 { print 1; break; }",
		"for j in i .. i + g { print j * i; continue; }":                             "for j in 1 .. 1 + g { print j * 1; continue; }",
		"if b { return; } trap;":                                                     "if b { return; } trap;",
		"while b upto 2 { if b { break; } else { continue; } }":                      "while b upto 2 { if b { break; } else { continue; } }",
		"for j in 0 .. g { while b upto 2 { break; } if b { } else { continue; } }":  "for j in 0 .. g { while b upto 2 { break; } if b { } else { continue; } }",
		"let ii: int = i; let i2: int = ii; print i2 + ii; print small(i) + h * 1s;": "let ii: int = 1; let i2: int = ii; print i2 + ii; print small(1) + h * 1s;",
	} {
		becomes(loop(body), "0", "if true { "+first+" } for i in 2 .. 3 { "+body+" }").check(t, peel, inMain)
		becomes("print g; "+loop(body)+" print h;", "1", "print g; if true { "+first+" } for i in 2 .. 3 { "+body+" } print h;").check(t, peel, inMain)
	}
	for _, body := range []string{
		"break;", "continue;", "print i; break; print i;", "if b { break; }", "if b { } else { continue; }", "if b { print 1; } else { if b { print 2; continue; } }",
		"while b upto 2 { break; } break;", "for j in 0 .. g { continue; } if b { continue; }", "return; break;",
	} {
		stays(loop(body)).check(t, peel, inMain)
	}
	becomes("for i in 0 .. 2 { return i + n; } return n;", "0", "if true { return 0 + n; } for i in 1 .. 2 { return i + n; } return n;").check(t, peel, inValue)
}

// P7.1, P7.2: peel of loops in others, and of one whose variable has the name of a function.
func TestPeelPlaces(t *testing.T) {
	cases{
		{"for i in 0 .. 2 { for j in 5 .. 7 { print i * j; } }", []string{
			"0:if true { for j in 5 .. 7 { print 0 * j; } } for i in 1 .. 2 { for j in 5 .. 7 { print i * j; } }",
			"0 0 0:for i in 0 .. 2 { if true { print i * 5; } for j in 6 .. 7 { print i * j; } }",
		}},
		{"for i in 0 .. 2 { for j in 5 .. 7 { break; } }", []string{"0:if true { for j in 5 .. 7 { break; } } for i in 1 .. 2 { for j in 5 .. 7 { break; } }"}},
		{"for i in 0 .. 2 { for j in 5 .. 7 { } break; }", []string{"0 0 0:for i in 0 .. 2 { if true { } for j in 6 .. 7 { } break; }"}},
		{"while b upto 2 { if b { } else { for i in 0 .. 1 { print i; } break; } }", []string{
			"0 0 0 1 0:while b upto 2 { if b { } else { if true { print 0; } for i in 1 .. 1 { print i; } break; } }",
		}},
		{"for f in 0 .. 2 { print f(f); f(f + f(1)); }", []string{"0:if true { print f(0); f(0 + f(1)); } for f in 1 .. 2 { print f(f); f(f + f(1)); }"}},
		{"for i in 0 .. 2 { print i; } for i in 3 .. 4 { print i; }", []string{
			"0:if true { print 0; } for i in 1 .. 2 { print i; } for i in 3 .. 4 { print i; }",
			"1:for i in 0 .. 2 { print i; } if true { print 3; } for i in 4 .. 4 { print i; }",
		}},
	}.check(t, peel, inMain)
}

// P7.1, P7.2: rename, of variables of all kinds, wherever they are meant.
func TestRename(t *testing.T) {
	cases{
		{"let x: int = 1; print x; x = x + -x; print a[x]; a[x] = x; d(f(x));", []string{"0:let t0: int = 1; print t0; t0 = t0 + -t0; print a[t0]; a[t0] = t0; d(f(t0));"}},
		{"let x: int[2]; x[0] = x[x[1]]; print w(x, 1);", []string{"0:let t0: int[2]; t0[0] = t0[t0[1]]; print w(t0, 1);"}},
		{"let x: bool; x = true; if x { x = !x; } else { while x upto 2 { x = false; } }", []string{"0:let t0: bool; t0 = true; if t0 { t0 = !t0; } else { while t0 upto 2 { t0 = false; } }"}},
		{"let x: small = h;", []string{"0:let t0: small = h;"}},
		{"for i in 0 .. g { print i; for j in i .. 2 { a[j] = i; } }", []string{
			"0:for t0 in 0 .. g { print t0; for j in t0 .. 2 { a[j] = t0; } }",
			"0 0 1:for i in 0 .. g { print i; for t0 in i .. 2 { a[t0] = i; } }",
		}},
		{"if b { let x: int = 1; print x; } else { let x: small = h; print x; } let x: bool = b; print x;", []string{
			"0 0 0:if b { let t0: int = 1; print t0; } else { let x: small = h; print x; } let x: bool = b; print x;",
			"0 1 0:if b { let x: int = 1; print x; } else { let t0: small = h; print t0; } let x: bool = b; print x;",
			"1:if b { let x: int = 1; print x; } else { let x: small = h; print x; } let t0: bool = b; print t0;",
		}},
		{"for i in 0 .. 2 { print i; } for i in 3 .. 4 { print i; } let i: int = 1; print i;", []string{
			"0:for t0 in 0 .. 2 { print t0; } for i in 3 .. 4 { print i; } let i: int = 1; print i;",
			"1:for i in 0 .. 2 { print i; } for t0 in 3 .. 4 { print t0; } let i: int = 1; print i;",
			"2:for i in 0 .. 2 { print i; } for i in 3 .. 4 { print i; } let t0: int = 1; print t0;",
		}},
		{"let f: int = f(1); print f(f); f(f + f(f));", []string{"0:let t0: int = f(1); print f(t0); f(t0 + f(t0));"}},
		{"let d: int[2]; d(d[0]); d[1] = w(d, d[1]);", []string{"0:let t0: int[2]; d(t0[0]); t0[1] = w(t0, t0[1]);"}},
		{"let x: int = 1; let xx: int = x; let x1: int = xx;", []string{
			"0:let t0: int = 1; let xx: int = t0; let x1: int = xx;",
			"1:let x: int = 1; let t0: int = x; let x1: int = t0;",
			"2:let x: int = 1; let xx: int = x; let t0: int = xx;",
		}},
		{"print g; g = 1; a[0] = 2; while b upto 2 { break; } trap;", nil},
	}.check(t, rename, inMain)
	becomes("let i: int = n; return i;", "0", "let t0: int = n; return t0;").check(t, rename, inValue)
}

// P7.2: a variable of another function with the same name is another one.
func TestRenameElsewhere(t *testing.T) {
	form := "func f() { let x: int = 1; print x; } func main() { let @: int = 2; print @; f(); } func k(x: int) { print x; }"
	p := read(t, strings.ReplaceAll(form, "@", "x"))
	q, e := rewrite.Apply(p, api.Mutation{Rule: rename, At: []int{1, 0}})
	if want := read(t, strings.ReplaceAll(form, "@", "t0")); e != api.OK || !syntax.Same(q, want) {
		t.Errorf("error %d\n%s", e, text(q))
	}
}

// P7.1, P7.2: part.
func TestPart(t *testing.T) {
	cases{
		{"let x: int;", []string{"0:let x: int = 0;"}},
		{"let x: small;", []string{"0:let x: small = 0s;"}},
		{"let x: bool;", []string{"0:let x: bool = false;"}},
		{"let x: int[1]; let y: small[16]; let u: int = 1; let v: small = 0s; let z: bool = false;", nil},
		{"print 1; let x: int; if b { let y: bool; x = 1; } else { for i in 0 .. 2 { let y: small; } }", []string{
			"1:print 1; let x: int = 0; if b { let y: bool; x = 1; } else { for i in 0 .. 2 { let y: small; } }",
			"2 0 0:print 1; let x: int; if b { let y: bool = false; x = 1; } else { for i in 0 .. 2 { let y: small; } }",
			"2 1 0 0 0:print 1; let x: int; if b { let y: bool; x = 1; } else { for i in 0 .. 2 { let y: small = 0s; } }",
		}},
		{allStmts, []string{"1:" + strings.Replace(allStmts, "let y: bool;", "let y: bool = false;", 1)}},
	}.check(t, part, inMain)
}

// P7.1, P7.2: exchange.
func TestExchange(t *testing.T) {
	cases{
		{"let x: int = g; let y: int = 2;", []string{"0:let y: int = 2; let x: int = g;"}},
		{"let x: int = g; let y: bool = b; print x;", []string{"0:let y: bool = b; let x: int = g; print x;"}},
		{"print 1; let x: small = h + 1s; let y: int = -g; print 2;", []string{"1:print 1; let y: int = -g; let x: small = h + 1s; print 2;"}},
		{"let x: int = 1; let y: int = 2; let z: int = x;", []string{
			"0:let y: int = 2; let x: int = 1; let z: int = x;",
			"1:let x: int = 1; let z: int = x; let y: int = 2;",
		}},
		{"let x: int = 1; let y: int = x; let z: int = x;", []string{"1:let x: int = 1; let z: int = x; let y: int = x;"}},
		{"let x: int = 1; let xx: int = 2;", []string{"0:let xx: int = 2; let x: int = 1;"}},
		{"let x: int = 1; let y: int = 2 - -x;", nil},
		{"let x: bool = b; let y: int = int(!x || b);", nil},
		{"let x: int = g;", nil},
		{"let x: int = g; print x; let y: int = 2;", nil},
		{"let x: int; let y: int = 2;", nil},
		{"let x: int = 1; let y: int;", nil},
		{"let x: int[2]; let y: int = 2;", nil},
		{"let x: int = 1; let y: int[2];", nil},
		{"let x: int = 1; d(2); let y: int = 2;", nil},
		{"let x: int = f(1); let y: int = 2;", nil},
		{"let x: int = 1; let y: int = f(2);", nil},
		{"let x: int = a[1]; let y: int = 2;", nil},
		{"let x: int = 1; let y: int = 4 / 2;", nil},
		{"let x: small = h << 1s; let y: int = 2;", nil},
		{"let x: int = 1; g = 2;", nil},
		{"g = 1; let x: int = 2;", nil},
		{"let x: int = 1; if b { let y: int = 2; }", nil},
		{"if b { let x: int = 1; } let y: int = 2;", nil},
		{"if b { let x: int = 1; let y: int = 2; } else { let x: int = 3; let y: int = 4; }", []string{
			"0 0 0:if b { let y: int = 2; let x: int = 1; } else { let x: int = 3; let y: int = 4; }",
			"0 1 0:if b { let x: int = 1; let y: int = 2; } else { let y: int = 4; let x: int = 3; }",
		}},
		{"while b upto 2 { for i in 0 .. 2 { print 0; let x: int = i; let y: int = i; } }", []string{
			"0 0 0 0 1:while b upto 2 { for i in 0 .. 2 { print 0; let y: int = i; let x: int = i; } }",
		}},
	}.check(t, exchange, inMain)
}

// P7.2: the new name is the first that no global, parameter, let or for has, in the whole program.
func TestNewName(t *testing.T) {
	for _, c := range []struct{ text, name string }{
		{"func main() { print 1; }", "t0"},
		{"func main() { print 1; } func t0() { } func t1(t: int) { let T0: int; }", "t0"},
		{"global t0: int; func main() { print 1; }", "t1"},
		{"global t1: small[2]; func main() { print 1; }", "t0"},
		{"func main() { print 1; } func f(a: int, t0: int[2]) { }", "t1"},
		{"func main() { print 1; let t0: int; }", "t1"},
		{"func main() { print 1; let t00: int; let t: int; let t01: int; }", "t0"},
		{"func main() { print 1; } func f() { if true { } else { let t0: int[2]; } }", "t1"},
		{"func main() { print 1; } func f() { while true upto 2 { for t0 in 0 .. 1 { } } }", "t1"},
		{"func main() { print 1; for t1 in 0 .. 1 { let t2: int; } } func f(t0: bool) { let t4: int; }", "t3"},
		{"global t2: int; func main() { print 1; for t0 in 0 .. 1 { } for t0 in 0 .. 1 { } } func f(t1: bool) { let t3: int; }", "t4"},
	} {
		p := read(t, c.text)
		for rule, form := range map[int]string{
			single: "for @ in 0 .. 1 { print 1; }",
			hoist:  "let @: int = 1; print @;",
			dead:   "let @: int = 35; print 1;",
		} {
			q, e := rewrite.Apply(p, api.Mutation{Rule: rule, At: []int{0, 0}})
			want := strings.Replace(c.text, "print 1;", strings.ReplaceAll(form, "@", c.name), 1)
			if e != api.OK || !syntax.Same(q, read(t, want)) {
				t.Errorf("rule %d of %s, error %d\n%s\nwant %s", rule, c.text, e, text(q), want)
			}
		}
		let := strings.Replace(c.text, "print 1;", "let y: int = 1; print y;", 1)
		q, e := rewrite.Apply(read(t, let), api.Mutation{Rule: rename, At: []int{0, 0}})
		want := strings.Replace(c.text, "print 1;", fmt.Sprintf("let %s: int = 1; print %[1]s;", c.name), 1)
		if e != api.OK || !syntax.Same(q, read(t, want)) {
			t.Errorf("rename of %s, error %d\n%s\nwant %s", let, e, text(q), want)
		}
	}
}

// P7.2: what has a new name gets another one.
func TestNewNameAgain(t *testing.T) {
	p := read(t, "func main() { print 1; }")
	for _, want := range []string{
		"func main() { let t0: int = 1; print t0; }",
		"func main() { let t1: int = 1; let t0: int = t1; print t0; }",
		"func main() { let t2: int = 1; let t1: int = t2; let t0: int = t1; print t0; }",
	} {
		q, e := rewrite.Apply(p, api.Mutation{Rule: hoist, At: []int{0, 0}})
		if e != api.OK || !syntax.Same(q, read(t, want)) {
			t.Errorf("error %d\n%s\nwant %s", e, text(q), want)
		}
		p = q
	}
	q, e := rewrite.Apply(p, api.Mutation{Rule: rename, At: []int{0, 1}})
	if want := "func main() { let t2: int = 1; let t3: int = t2; let t0: int = t3; print t0; }"; e != api.OK || !syntax.Same(q, read(t, want)) {
		t.Errorf("error %d\n%s\nwant %s", e, text(q), want)
	}
}
