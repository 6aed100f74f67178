package rewrite_test

import (
	"fmt"
	"slices"
	"strings"
	"testing"

	"cupel/api"
	"cupel/rewrite"
	"cupel/syntax"
)

// P7.1, P7.2: commute, for each operator.
func TestCommuteOperators(t *testing.T) {
	for _, sign := range strings.Fields("+ * & ^ | == !=") {
		becomes("print g "+sign+" 1;", "0 2", "print 1 "+sign+" g;").check(t, commute, inMain)
		becomes("print 1s "+sign+" h;", "0 2", "print h "+sign+" 1s;").check(t, commute, inMain)
	}
	for _, sign := range strings.Fields("== != && ||") {
		becomes("print b "+sign+" false;", "0 2", "print false "+sign+" b;").check(t, commute, inMain)
	}
	for _, sign := range strings.Fields("- / % << >> < <= > >=") {
		stays("print g "+sign+" 1;").check(t, commute, inMain)
	}
	for _, x := range []string{"-g", "~h", "!b", "5", "h", "true", "int(b)", "small(g)", "f(1)", "a[0]"} {
		stays("print "+x+";").check(t, commute, inMain)
	}
}

// P7.1, P7.2: commute, at nodes of all kinds, inside of others.
func TestCommutePlaces(t *testing.T) {
	cases{
		{"print g + 1 + 2;", []string{"0 2:print 2 + (g + 1);", "0 2 0:print 1 + g + 2;"}},
		{"print f(g + 1) + 2;", []string{"0 2 0 0:print f(1 + g) + 2;"}},
		{"a[g * 2] = a[g | 1];", []string{"0 2:a[2 * g] = a[g | 1];", "0 3 0:a[g * 2] = a[1 | g];"}},
		{"print (g + 1) / 2 + 1;", []string{"0 2 0 0:print (1 + g) / 2 + 1;"}},
		{"d(g + 1);", []string{"0 2 0:d(1 + g);"}},
		{"let x: int = g ^ 1; x = x & 2;", []string{"0 2:let x: int = 1 ^ g; x = x & 2;", "1 2:let x: int = g ^ 1; x = 2 & x;"}},
		{"if b && true { print g + 1; } else { print g + 2; }", []string{
			"0 2:if true && b { print g + 1; } else { print g + 2; }",
			"0 0 0 2:if b && true { print 1 + g; } else { print g + 2; }",
			"0 1 0 2:if b && true { print g + 1; } else { print 2 + g; }",
		}},
		{"while b || false upto 2 { for i in g + 1 .. g * 9 { print i + 1; } }", []string{
			"0 2:while false || b upto 2 { for i in g + 1 .. g * 9 { print i + 1; } }",
			"0 0 0 2:while b || false upto 2 { for i in 1 + g .. g * 9 { print i + 1; } }",
			"0 0 0 3:while b || false upto 2 { for i in g + 1 .. 9 * g { print i + 1; } }",
			"0 0 0 0 0 2:while b || false upto 2 { for i in g + 1 .. g * 9 { print 1 + i; } }",
		}},
	}.check(t, commute, inMain)
	becomes("return n + 1;", "0 2", "return 1 + n;").check(t, commute, inValue)
}

// P7.1, P7.2: mirror.
func TestMirror(t *testing.T) {
	for sign, mirrored := range map[string]string{"<": ">", "<=": ">=", ">": "<", ">=": "<="} {
		becomes("print g "+sign+" 1;", "0 2", "print 1 "+mirrored+" g;").check(t, mirror, inMain)
		becomes("print 1s "+sign+" h;", "0 2", "print h "+mirrored+" 1s;").check(t, mirror, inMain)
	}
	for _, sign := range strings.Fields("+ - * / % << >> & ^ | == !=") {
		stays("print g "+sign+" 1;").check(t, mirror, inMain)
	}
	cases{
		{"print b && true || !b;", nil},
		{"print (g < 1) == (2 >= g);", []string{"0 2 0:print (1 > g) == (2 >= g);", "0 2 1:print (g < 1) == (g <= 2);"}},
		{"if g - 1 > -g { }", []string{"0 2:if -g < g - 1 { }"}},
	}.check(t, mirror, inMain)
}

// P7.1: all rules that need simple expressions agree on what is simple.
func TestSimple(t *testing.T) {
	type operands struct {
		kind, literal string
		forms         string // of what the operand @ stands in; the site is the first expression of the first statement
		simple, other []string
	}
	for _, c := range []operands{
		{"int", "7", "@ + 7, 7 + @, @ == 7, 7 != @", []string{"5", "g", "n", "-g", "~(g - 2)", "int(h)", "int(b)", "g - 1", "g * -g", "g & 3 | n ^ 1", "int(h < 3s)", "int(!b && b || g >= n)"},
			[]string{"f(1)", "a[0]", "g / 2", "g % 2", "g << 1", "g >> 1", "-f(1)", "~(g / 2)", "1 + a[0]", "(2 >> g) * 3", "int(k(1s))", "int(q())", "int(c[0])", "n - (g - 4 % n)", "int(1 / 1 == 1)"}},
		{"small", "7s", "@ * 7s, 7s & @, @ == 7s, 7s != @", []string{"5s", "h", "~h", "-h", "small(g)", "h - 1s", "small(g - n)", "h ^ h | 3s"},
			[]string{"k(1s)", "c[1]", "h / 2s", "h % 2s", "h << 1s", "h >> 1s", "~c[0]", "small(f(2))", "h - h / h", "small(g >> 3)"}},
		{"bool", "true", "@ && true, true || @, @ == true, true != @", []string{"true", "b", "!b", "g < 1", "g == n", "h >= 2s", "b && !b || false", "b != b"},
			[]string{"q()", "!q()", "g < f(1)", "a[0] == n", "h >= c[0]", "b && q()", "g / 2 < 1", "h << 1s != h"}},
	} {
		forms := map[string]int{}
		for _, form := range strings.Split(c.forms, ", ") {
			forms["print "+form+";"] = commute
		}
		forms["let y: "+c.kind+" = @; let z: "+c.kind+" = "+c.literal+";"] = exchange
		forms["let y: "+c.kind+" = "+c.literal+"; let z: "+c.kind+" = @;"] = exchange
		if c.kind != "bool" {
			forms["print @ < "+c.literal+";"] = mirror
			forms["print "+c.literal+" >= @;"] = mirror
			forms["print @ * "+strings.Replace(c.literal, "7", "2", 1)+";"] = double
		}
		for form, rule := range forms {
			for i, x := range slices.Concat(c.simple, c.other) {
				body := strings.Replace(form, "@", "("+x+")", 1)
				if got, want := hasSite(t, rule, body), i < len(c.simple); got != want {
					t.Errorf("rule %d, %s: a site %t, want %t", rule, body, got, want)
				}
			}
		}
	}
}

// hasSite reports whether there is a site at the first statement, or its first expression.
func hasSite(t *testing.T, rule int, body string) bool {
	t.Helper()
	sites := sitesOfFirst(t, read(t, whole(inValue, body+" return 1;")), rule)
	return slices.ContainsFunc(sites, func(path []int) bool { return steps(path) == "0 0" || steps(path) == "0 0 2" })
}

// P7.1, P7.2: associate.
func TestAssociate(t *testing.T) {
	for _, sign := range strings.Fields("+ * & ^ | && ||") {
		write := strings.NewReplacer("X", "g", "Y", "1", "Z", "f(2)", "@", sign).Replace
		if len(sign) == 2 {
			write = strings.NewReplacer("X", "b", "Y", "true", "Z", "q()", "@", sign).Replace
		}
		for _, c := range (cases{
			{"print X @ Y @ Z;", []string{"0 2:print X @ (Y @ Z);"}},
			{"print Z @ Z @ Z;", []string{"0 2:print Z @ (Z @ Z);"}},
			{"print X @ Y @ Z @ X;", []string{"0 2:print X @ Y @ (Z @ X);", "0 2 0:print X @ (Y @ Z) @ X;"}},
			{"print (X @ Y) @ (Z @ X);", []string{"0 2:print X @ (Y @ (Z @ X));"}},
			{"print X @ (Y @ Z);", nil},
			{"print X @ (Y @ (Z @ X));", nil},
			{"print X @ Y;", nil},
		}) {
			for i := range c.want {
				c.want[i] = write(c.want[i])
			}
			cases{{write(c.body), c.want}}.check(t, associate, inMain)
		}
	}
	for _, sign := range strings.Fields("- / % << >>") {
		stays("print g "+sign+" 1 "+sign+" f(2);").check(t, associate, inMain)
	}
	cases{
		{"print 1s + h + c[0];", []string{"0 2:print 1s + (h + c[0]);"}},
		{"d(-(g + 1 + 2));", []string{"0 2 0 0:d(-(g + (1 + 2)));"}},
		{"print (g + 1) * 2;", nil},
		{"print g * 1 + 2;", nil},
		{"print g - 1 + 2;", nil},
		{"print g + 1 - 2;", nil},
		{"print (g | 1) ^ 2;", nil},
		{"print b && b || b;", nil},
		{"print (b || b) && b;", nil},
		{"print (b == b) == b;", nil},
		{"print (b != b) != b;", nil},
		{"print (g < 1) == (g < 2);", nil},
	}.check(t, associate, inMain)
}

// free are bodies of a function and all free expressions in them, in the order of nodes.
var free = []struct {
	body, head string
	free       []string
}{
	{"print g;", inMain, []string{"0 2: int"}},
	{"print h;", inMain, []string{"0 2: small"}},
	{"print b;", inMain, []string{"0 2: bool"}},
	{"print g + f(2);", inMain, []string{"0 2: int", "0 2 0: int", "0 2 1: int", "0 2 1 0: int"}},
	{"print ~h * k(2s);", inMain, []string{"0 2: small", "0 2 0: small", "0 2 0 0: small", "0 2 1: small", "0 2 1 0: small"}},
	{"print b && !q();", inMain, []string{"0 2: bool", "0 2 0: bool", "0 2 1: bool", "0 2 1 0: bool"}},
	{"a[g] = f(2);", inMain, []string{"0 2: int", "0 3: int", "0 3 0: int"}},
	{"c[1] = c[g];", inMain, []string{"0 2: int", "0 3: small", "0 3 0: int"}},
	{"f(1);", inMain, []string{"0 2 0: int"}},
	{"k(h);", inMain, []string{"0 2 0: small"}},
	{"q();", inMain, nil},
	{"d(1 / 0);", inMain, []string{"0 2 0: int", "0 2 0 0: int", "0 2 0 1: int"}},
	{"d(f(g));", inMain, []string{"0 2 0: int", "0 2 0 0: int"}},
	{"let z: int[2]; w(z, 1);", inMain, []string{"1 2 1: int"}},
	{"let z: int[2]; print w(z, 1);", inMain, []string{"1 2: int", "1 2 1: int"}},
	{"let x: int = 1; x = a[x];", inMain, []string{"0 2: int", "1 2: int", "1 2 0: int"}},
	{"let x: bool; let y: small; let z: int;", inMain, nil},
	{"if g < 1 { print h; } else { print 3; }", inMain, []string{"0 2: bool", "0 2 0: int", "0 2 1: int", "0 0 0 2: small", "0 1 0 2: int"}},
	{"for i in 0 .. g { print i; }", inMain, []string{"0 2: int", "0 3: int", "0 0 0 2: int"}},
	{"while h == 2s upto 3 { b = false; break; }", inMain, []string{"0 2: bool", "0 2 0: small", "0 2 1: small", "0 0 0 2: bool"}},
	{"print small(int(b)); trap;", inMain, []string{"0 2: small", "0 2 0: int", "0 2 0 0: bool"}},
	{"print int(small(g)); return;", inMain, []string{"0 2: int", "0 2 0: small", "0 2 0 0: int"}},
	{"return n + 1;", inValue, []string{"0 2: int", "0 2 0: int", "0 2 1: int"}},
}

// P7.1, P7.2: zero, negate, invert and deny are at all free expressions of their kinds.
func TestFree(t *testing.T) {
	for _, c := range free {
		p := read(t, whole(c.head, c.body))
		for rule := zero; rule <= deny; rule++ {
			var want []string
			for _, entry := range c.free {
				if strings.HasSuffix(entry, "bool") == (rule == deny) {
					want = append(want, entry)
				}
			}
			sites := sitesOfFirst(t, p, rule)
			if len(sites) != len(want) {
				t.Errorf("%s\nrule %d has the sites %v, want %v", c.body, rule, sites, want)
				continue
			}
			for i, path := range sites {
				place, kind, _ := strings.Cut(want[i], ": ")
				if steps(path[1:]) != place {
					t.Errorf("%s\nrule %d has the site %v, want %s", c.body, rule, path, place)
				}
				checkFree(t, p, rule, path, kind)
			}
		}
	}
}

// checkFree compares what becomes of a free expression.
func checkFree(t *testing.T, p api.Program, rule int, path []int, kind string) {
	t.Helper()
	n, _ := syntax.At(p, path)
	unary := func(op int, x api.Expr) api.Expr {
		return api.Expr{Kind: api.ExUnary, Op: op, Args: []api.Expr{x}}
	}
	switch rule {
	case zero:
		none := api.Expr{Kind: map[string]int{"int": api.ExInt, "small": api.ExSmall}[kind]}
		n.Expr = api.Expr{Kind: api.ExBinary, Op: api.BiAdd, Args: []api.Expr{n.Expr, none}}
	case negate:
		n.Expr = unary(api.UnNeg, unary(api.UnNeg, n.Expr))
	case invert:
		n.Expr = unary(api.UnComp, unary(api.UnComp, n.Expr))
	case deny:
		n.Expr = unary(api.UnNot, unary(api.UnNot, n.Expr))
	}
	want, _ := syntax.Replace(p, path, n)
	if q, e := rewrite.Apply(p, api.Mutation{Rule: rule, At: path}); e != api.OK || !syntax.Same(q, want) {
		t.Errorf("%s\nrule %d at %v, error %d\n%s", text(p), rule, path, e, text(q))
	}
}

// P7.2: some texts of what zero, negate, invert and deny make.
func TestFreeTexts(t *testing.T) {
	becomes("print g;", "0 2", "print g + 0;").check(t, zero, inMain)
	becomes("print h;", "0 2", "print h + 0s;").check(t, zero, inMain)
	becomes("print g;", "0 2", "print --g;").check(t, negate, inMain)
	becomes("print 1s;", "0 2", "print --1s;").check(t, negate, inMain)
	becomes("print h;", "0 2", "print ~~h;").check(t, invert, inMain)
	becomes("print q();", "0 2", "print !!q();").check(t, deny, inMain)
	becomes("print f(g) >= g;", "0 2", "print !!(f(g) >= g);").check(t, deny, inMain)
}

// P7.1, P7.2: double.
func TestDouble(t *testing.T) {
	cases{
		{"print g * 2;", []string{"0 2:print g + g;"}},
		{"print h * 2s;", []string{"0 2:print h + h;"}},
		{"print 2 * 2;", []string{"0 2:print 2 + 2;"}},
		{"print (g - -1) * 2;", []string{"0 2:print g - -1 + (g - -1);"}},
		{"print g * 2 * 2;", []string{"0 2:print g * 2 + g * 2;", "0 2 0:print (g + g) * 2;"}},
		{"print f(g * 2) * 2;", []string{"0 2 0 0:print f(g + g) * 2;"}},
		{"a[g * 2] = g * 2;", []string{"0 2:a[g + g] = g * 2;", "0 3:a[g * 2] = g + g;"}},
	}.check(t, double, inMain)
	for _, x := range []string{"2 * g", "2s * h", "f(1) * 2", "a[0] * 2", "g / 2 * 2", "(g << 1) * 2", "c[0] * 2s", "g * 1", "g * 3", "g * 4", "g * 0", "h * 3s", "h * 4s", "g + 2", "g << 2", "g / 2", "g * -2", "g * (1 + 1)", "g * (2 + 0)", "h * small(2)"} {
		stays("print "+x+";").check(t, double, inMain)
	}
}

// P7.1, P7.2: shift, for each power of 2.
func TestShift(t *testing.T) {
	for k := 1; k < 63; k++ {
		becomes(fmt.Sprint("print g * ", int64(1)<<k, ";"), "0 2", fmt.Sprint("print g << ", k, ";")).check(t, shift, inMain)
	}
	for k := 1; k < 8; k++ {
		becomes(fmt.Sprint("print h * ", 1<<k, "s;"), "0 2", fmt.Sprint("print h << ", k, "s;")).check(t, shift, inMain)
	}
	for _, n := range []int64{0, 1, 3, 5, 6, 7, 9, 12, 24, 255, 257, 1<<62 - 1, 1<<62 + 1, 1<<62 + 1<<61, 1<<63 - 1} {
		stays(fmt.Sprint("print g * ", n, ";")).check(t, shift, inMain)
		if n < 256 {
			stays(fmt.Sprint("print h * ", n, "s;")).check(t, shift, inMain)
		}
	}
	cases{
		{"print f(1) * 8;", []string{"0 2:print f(1) << 3;"}},
		{"print a[g] * 4;", []string{"0 2:print a[g] << 2;"}},
		{"print (1 << g) * 2;", []string{"0 2:print 1 << g << 1;"}},
		{"print k(h * 16s) * 128s;", []string{"0 2:print k(h * 16s) << 7s;", "0 2 0 0:print k(h << 4s) * 128s;"}},
		{"print 8 * 8;", []string{"0 2:print 8 << 3;"}},
	}.check(t, shift, inMain)
	for _, x := range []string{"8 * g", "g / 8", "g % 8", "g + 8", "g << 8", "g & 8", "g * -8", "g * (4 + 4)", "h * small(8)"} {
		stays("print "+x+";").check(t, shift, inMain)
	}
}
