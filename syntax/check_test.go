package syntax_test

import (
	"math"
	"reflect"
	"slices"
	"strings"
	"testing"

	"cupel/api"
	"cupel/syntax"
)

func expect(t *testing.T, what string, p api.Program, want api.Errno) {
	t.Helper()
	if e := syntax.Check(p); e != want {
		t.Errorf("%s: Check is %d, want %d", what, e, want)
	}
}

// P1.1: limits of nodes and of nests.
func TestSmall(t *testing.T) {
	traps := func(n int) api.Program { return body(slices.Repeat([]api.Stmt{{Kind: api.StTrap}}, n)...) }
	expect(t, "400 nodes", traps(399), api.OK)
	expect(t, "401 nodes", traps(400), api.ErrLong)
	wide := traps(397)
	wide.Funcs = append(wide.Funcs, api.Func{Name: "g"}, api.Func{Name: "h"})
	expect(t, "functions count", wide, api.OK)
	wide.Funcs = append(wide.Funcs, api.Func{Name: "i"})
	expect(t, "functions count", wide, api.ErrLong)
	prints := slices.Repeat([]api.Stmt{{Kind: api.StPrint, Exprs: []api.Expr{number(1)}}}, 200)
	expect(t, "expressions count", body(prints[:199]...), api.OK)
	expect(t, "expressions count", body(prints...), api.ErrLong)

	expect(t, "20 in each other", printing(negated(18)), api.OK)
	expect(t, "21 in each other", printing(negated(19)), api.ErrLong)
	for _, part := range []string{"body", "else"} {
		for nest, want := range map[int]api.Errno{19: api.OK, 20: api.ErrLong} {
			s := api.Stmt{Kind: api.StTrap}
			for range nest {
				s = api.Stmt{Kind: api.StIf, Exprs: []api.Expr{name("c")}, Body: []api.Stmt{s}}
				if part == "else" {
					s.Body, s.Else = nil, s.Body
				}
			}
			expect(t, part, body(s), want)
		}
	}
	deep := api.Stmt{Kind: api.StPrint, Exprs: []api.Expr{negated(9)}}
	for range 9 {
		deep = api.Stmt{Kind: api.StFor, Name: "i", Exprs: []api.Expr{number(0), number(1)}, Body: []api.Stmt{deep}}
	}
	expect(t, "statements and expressions", body(deep), api.OK)
	deep.Body[0].Body[0].Exprs[1] = negated(18)
	expect(t, "statements and expressions", body(deep), api.ErrLong)
}

// P1.1: ErrLong comes before ErrArg, and what is not used counts as well.
func TestSmallFirst(t *testing.T) {
	expect(t, "wrong and deep", printing(api.Expr{Kind: 77, Args: []api.Expr{negated(18)}}), api.ErrLong)
	expect(t, "wrong", printing(api.Expr{Kind: 77, Args: []api.Expr{negated(17)}}), api.ErrArg)
	p := body(slices.Repeat([]api.Stmt{{}}, 400)...)
	p.Funcs[0].Name = "if"
	expect(t, "wrong and wide", p, api.ErrLong)
	expect(t, "many globals", api.Program{Globals: make([]api.Global, 1000)}, api.ErrArg)
	expect(t, "many parameters", api.Program{Funcs: []api.Func{{Name: "f", Params: make([]api.Param, 1000)}}}, api.ErrArg)
	expect(t, "many functions", api.Program{Funcs: make([]api.Func, 401)}, api.ErrLong)
	expect(t, "nine functions", api.Program{Funcs: slices.Repeat([]api.Func{{Name: "f"}}, 9)}, api.ErrArg)
	expect(t, "eight functions", api.Program{Funcs: slices.Repeat([]api.Func{{Name: "f"}}, 8)}, api.OK)
}

// P1.1, R1: lists that contain themselves.
func TestEndless(t *testing.T) {
	expect(t, "expression", printing(endlessExpr()), api.ErrLong)
	expect(t, "statement", body(endlessStmt()), api.ErrLong)
	args := make([]api.Expr, 300)
	for i := range args {
		args[i].Args = args
	}
	expect(t, "wide", printing(api.Expr{Args: args}), api.ErrLong)
	if !syntax.Same(printing(endlessExpr()), printing(endlessExpr())) {
		t.Error("the same endless expressions")
	}
	if syntax.Same(printing(endlessExpr()), printing(negated(1000))) {
		t.Error("an endless expression, and one with an end")
	}
	other := endlessStmt()
	other.Else = other.Body[0].Else
	if !syntax.Same(body(endlessStmt()), body(other)) {
		t.Error("the same endless statements")
	}
	other.Body = []api.Stmt{other, other}
	if syntax.Same(body(endlessStmt()), body(other)) {
		t.Error("endless statements")
	}
	if !syntax.Same(printing(negated(300_000)), printing(negated(300_000))) || syntax.Same(printing(negated(300_000)), printing(negated(300_001))) {
		t.Error("deep expressions")
	}
	shared := []api.Expr{number(1), number(1)}
	for range 200 {
		shared = []api.Expr{{Args: shared}, {Args: shared}}
	}
	if !syntax.Same(printing(shared[0]), printing(shared[1])) {
		t.Error("shared expressions")
	}
	expect(t, "shared", printing(shared[0]), api.ErrLong)
}

// P1.1: names.
func TestNames(t *testing.T) {
	good := []string{"a", "z", "A", "Z", "azAZ09_", "a9_", "z_", "ifx", "If", "int1", "main", strings.Repeat("n", 16)}
	bad := []string{"", "_", "_a", "9", "9a", "a-b", "a b", "@a", "[a", "`a", "{a", "/a", ":a", "a@", "a[", "a`", "a{", "a/", "a:", "é", "aé", "a\x00", " a", "a ", strings.Repeat("n", 17)}
	keywords := strings.Fields("global func let if else while upto for in break continue return print trap int small bool true false")
	where := map[string]func(n string) api.Program{
		"global": func(n string) api.Program {
			return api.Program{Globals: []api.Global{{Name: n, Type: api.Type{Kind: 1}}}}
		},
		"function": func(n string) api.Program { return api.Program{Funcs: []api.Func{{Name: n}}} },
		"parameter": func(n string) api.Program {
			return api.Program{Funcs: []api.Func{{Name: "f", Params: []api.Param{{Name: n, Type: api.Type{Kind: 1}}}}}}
		},
		"let": func(n string) api.Program { return body(api.Stmt{Kind: api.StLet, Name: n, Type: api.Type{Kind: 1}}) },
		"set": func(n string) api.Program {
			return body(api.Stmt{Kind: api.StSet, Name: n, Exprs: []api.Expr{number(1)}})
		},
		"put": func(n string) api.Program {
			return body(api.Stmt{Kind: api.StPut, Name: n, Exprs: []api.Expr{number(1), number(1)}})
		},
		"for": func(n string) api.Program {
			return body(api.Stmt{Kind: api.StFor, Name: n, Exprs: []api.Expr{number(1), number(1)}})
		},
		"name": func(n string) api.Program { return printing(name(n)) },
		"index": func(n string) api.Program {
			return printing(api.Expr{Kind: api.ExIndex, Name: n, Args: []api.Expr{number(1)}})
		},
		"call": func(n string) api.Program { return printing(api.Expr{Kind: api.ExCall, Name: n}) },
	}
	for place, program := range where {
		for _, n := range good {
			expect(t, place+" "+n, program(n), api.OK)
		}
		for _, n := range slices.Concat(bad, keywords) {
			expect(t, place+" "+n, program(n), api.ErrArg)
		}
	}
}

// P1.1: types, results, and what globals begin with.
func TestTypes(t *testing.T) {
	ok := func(good bool) api.Errno {
		if good {
			return api.OK
		}
		return api.ErrArg
	}
	for kind := -1; kind <= 4; kind++ {
		known := kind >= 1 && kind <= 3
		expect(t, "result", api.Program{Funcs: []api.Func{{Name: "f", Result: kind}}}, ok(known || kind == 0))
		for _, n := range []int{-1, 0, 1, 16, 17, 1 << 40} {
			typ := api.Type{Kind: kind, Len: n}
			good := ok(known && (n == 0 || n >= 1 && n <= 16 && kind != api.TyBool))
			expect(t, "global", api.Program{Globals: []api.Global{{Name: "g", Type: typ}}}, good)
			expect(t, "parameter", api.Program{Funcs: []api.Func{{Name: "f", Params: []api.Param{{Name: "a", Type: typ}}}}}, good)
			expect(t, "let", body(api.Stmt{Kind: api.StLet, Name: "a", Type: typ}), good)
			if n > 0 {
				good = api.ErrArg
			}
			expect(t, "let with a value", body(api.Stmt{Kind: api.StLet, Name: "a", Type: typ, Exprs: []api.Expr{number(1)}}), good)
		}
	}
	for _, v := range []int64{math.MinInt64, math.MinInt64 + 1, -1, 0, 1, 2, 255, 256, math.MaxInt64} {
		for typ, good := range map[api.Type]bool{
			{Kind: api.TyInt}:           v != math.MinInt64,
			{Kind: api.TySmall}:         v >= 0 && v <= 255,
			{Kind: api.TyBool}:          v == 0 || v == 1,
			{Kind: api.TyInt, Len: 3}:   v == 0,
			{Kind: api.TySmall, Len: 3}: v == 0,
		} {
			expect(t, "init", api.Program{Globals: []api.Global{{Name: "g", Type: typ, Init: v}}}, ok(good))
		}
	}
	g := api.Global{Name: "g", Type: api.Type{Kind: 1}}
	expect(t, "eight globals", api.Program{Globals: slices.Repeat([]api.Global{g}, 8)}, api.OK)
	expect(t, "nine globals", api.Program{Globals: slices.Repeat([]api.Global{g}, 9)}, api.ErrArg)
	x := api.Param{Name: "x", Type: api.Type{Kind: 1}}
	expect(t, "four parameters", api.Program{Funcs: []api.Func{{Name: "f", Params: slices.Repeat([]api.Param{x}, 4)}}}, api.OK)
	expect(t, "five parameters", api.Program{Funcs: []api.Func{{Name: "f", Params: slices.Repeat([]api.Param{x}, 5)}}}, api.ErrArg)
}

// P1.1: which fields kinds of expressions use, and what stands in them.
func TestExpressions(t *testing.T) {
	one := []api.Expr{number(1)}
	type row struct {
		good       api.Expr
		least      int64 // of Int that is wrong
		ops        int
		named      bool
		from, most int // number of Args
	}
	for i, c := range []row{
		{good: number(5), least: math.MinInt64},
		{good: api.Expr{Kind: api.ExSmall, Int: 255}, least: 256},
		{good: api.Expr{Kind: api.ExBool, Int: 1}, least: 2},
		{good: name("x"), least: 1, named: true},
		{good: api.Expr{Kind: api.ExIndex, Name: "a", Args: one}, least: 1, named: true, from: 1, most: 1},
		{good: api.Expr{Kind: api.ExCall, Name: "f"}, least: 1, named: true, most: 4},
		{good: api.Expr{Kind: api.ExUnary, Op: 1, Args: one}, least: 1, ops: api.UnComp, from: 1, most: 1},
		{good: api.Expr{Kind: api.ExBinary, Op: 1, Args: []api.Expr{number(1), number(2)}}, least: 1, ops: api.BiLor, from: 2, most: 2},
		{good: api.Expr{Kind: api.ExToInt, Args: one}, least: 1, from: 1, most: 1},
		{good: api.Expr{Kind: api.ExToSmall, Args: one}, least: 1, from: 1, most: 1},
	} {
		if c.good.Kind != i+1 {
			t.Fatalf("row %d", i)
		}
		try := func(what string, good bool, change func(x *api.Expr)) {
			t.Helper()
			x := c.good
			change(&x)
			want := api.ErrArg
			if good {
				want = api.OK
			}
			expect(t, what, printing(x), want)
			expect(t, what+" inside", printing(api.Expr{Kind: api.ExToInt, Args: []api.Expr{x}}), want)
		}
		try("as it is", true, func(x *api.Expr) {})
		try("negative", false, func(x *api.Expr) { x.Int = -1 })
		try("least", false, func(x *api.Expr) { x.Int = c.least })
		for op := -1; op <= api.BiLor+1; op++ {
			try("operator", c.ops == 0 && op == 0 || op >= 1 && op <= c.ops, func(x *api.Expr) { x.Op = op })
		}
		try("name", c.named, func(x *api.Expr) { x.Name = "n" })
		try("no name", !c.named, func(x *api.Expr) { x.Name = "" })
		for n := range 6 {
			try("args", n >= c.from && n <= c.most, func(x *api.Expr) { x.Args = slices.Repeat(one, n) })
		}
		try("wrong args", false, func(x *api.Expr) { x.Args = make([]api.Expr, max(1, c.from)) })
	}
	for _, kind := range []int{math.MinInt, -1, 0, api.ExToSmall + 1, math.MaxInt} {
		expect(t, "kind", printing(api.Expr{Kind: kind}), api.ErrArg)
	}
	expect(t, "greatest", printing(number(math.MaxInt64)), api.OK)
}

// P1.1: which fields kinds of statements use, and how many expressions.
func TestStatements(t *testing.T) {
	call := api.Expr{Kind: api.ExCall, Name: "f"}
	block := []api.Stmt{{Kind: api.StTrap}}
	typ := api.Type{Kind: api.TyInt}
	type row struct {
		good                           api.Stmt
		named, typed, bound, body, alt bool
		from, most                     int
	}
	for i, c := range []row{
		{good: api.Stmt{Kind: api.StLet, Name: "x", Type: typ}, named: true, typed: true, most: 1},
		{good: api.Stmt{Kind: api.StSet, Name: "x", Exprs: []api.Expr{call}}, named: true, from: 1, most: 1},
		{good: api.Stmt{Kind: api.StPut, Name: "x", Exprs: []api.Expr{call, call}}, named: true, from: 2, most: 2},
		{good: api.Stmt{Kind: api.StCall, Exprs: []api.Expr{call}}, from: 1, most: 1},
		{good: api.Stmt{Kind: api.StPrint, Exprs: []api.Expr{call}}, from: 1, most: 1},
		{good: api.Stmt{Kind: api.StTrap}},
		{good: api.Stmt{Kind: api.StIf, Exprs: []api.Expr{call}}, from: 1, most: 1, body: true, alt: true},
		{good: api.Stmt{Kind: api.StWhile, Exprs: []api.Expr{call}, Bound: 5}, bound: true, from: 1, most: 1, body: true},
		{good: api.Stmt{Kind: api.StFor, Name: "x", Exprs: []api.Expr{call, call}}, named: true, from: 2, most: 2, body: true},
		{good: api.Stmt{Kind: api.StBreak}},
		{good: api.Stmt{Kind: api.StContinue}},
		{good: api.Stmt{Kind: api.StReturn}, most: 1},
	} {
		if c.good.Kind != i+1 {
			t.Fatalf("row %d", i)
		}
		try := func(what string, good bool, change func(s *api.Stmt)) {
			t.Helper()
			s := c.good
			change(&s)
			want := api.ErrArg
			if good {
				want = api.OK
			}
			expect(t, what, body(s), want)
			expect(t, what+" in a body", body(api.Stmt{Kind: api.StIf, Exprs: []api.Expr{call}, Body: []api.Stmt{s}}), want)
			expect(t, what+" in an else", body(api.Stmt{Kind: api.StIf, Exprs: []api.Expr{call}, Else: []api.Stmt{s}}), want)
		}
		try("as it is", true, func(s *api.Stmt) {})
		try("name", c.named, func(s *api.Stmt) { s.Name = "n" })
		try("no name", !c.named, func(s *api.Stmt) { s.Name = "" })
		try("type", c.typed, func(s *api.Stmt) { s.Type = api.Type{Kind: api.TyBool} })
		try("length", false, func(s *api.Stmt) { s.Type = api.Type{Len: 1} })
		try("no type", !c.typed, func(s *api.Stmt) { s.Type = api.Type{} })
		for _, n := range []int{math.MinInt, -1, 0, 1, 1000, 1001} {
			try("bound", c.bound && n >= 1 && n <= 1000 || !c.bound && n == 0, func(s *api.Stmt) { s.Bound = n })
		}
		for n := range 4 {
			try("exprs", n >= c.from && n <= c.most, func(s *api.Stmt) { s.Exprs = slices.Repeat([]api.Expr{call}, n) })
		}
		try("wrong exprs", false, func(s *api.Stmt) { s.Exprs = make([]api.Expr, max(1, c.from)) })
		try("body", c.body, func(s *api.Stmt) { s.Body = block })
		try("else", c.alt, func(s *api.Stmt) { s.Else = block })
	}
	expect(t, "no call", body(api.Stmt{Kind: api.StCall, Exprs: []api.Expr{name("f")}}), api.ErrArg)
	for _, kind := range []int{math.MinInt, -1, 0, api.StReturn + 1, math.MaxInt} {
		expect(t, "kind", body(api.Stmt{Kind: kind}), api.ErrArg)
	}
}

// P1.1: Same looks at each field, whether programs are well-formed or not.
func TestSame(t *testing.T) {
	if !syntax.Same(api.Program{}, api.Program{Globals: []api.Global{}, Funcs: []api.Func{}}) {
		t.Error("nil and empty")
	}
	strange := func() api.Program {
		x := api.Expr{Kind: 99, Op: 99, Int: -5, Name: "if", Args: []api.Expr{number(1), {}}}
		s := api.Stmt{Kind: 99, Name: "9", Type: api.Type{Kind: 9, Len: 9}, Exprs: []api.Expr{x}, Bound: -1, Body: []api.Stmt{{Kind: api.StTrap}, {}}, Else: []api.Stmt{{Kind: api.StBreak}}}
		p := body(s)
		p.Funcs[0].Params = []api.Param{{Name: "p", Type: api.Type{Kind: 9, Len: -9}}}
		p.Funcs[0].Result = 9
		p.Globals = []api.Global{{Name: "g", Type: api.Type{Kind: 1}, Init: math.MinInt64}}
		return p
	}
	if !syntax.Same(strange(), strange()) {
		t.Error("equal ones")
	}
	p := strange()
	changes := 0
	var vary func(v reflect.Value)
	vary = func(v reflect.Value) {
		old := reflect.New(v.Type()).Elem()
		old.Set(v)
		switch v.Kind() {
		case reflect.Struct:
			for i := range v.NumField() {
				vary(v.Field(i))
			}
			return
		case reflect.Slice:
			for i := range v.Len() {
				vary(v.Index(i))
			}
			v.Set(reflect.Append(v.Slice3(0, v.Len(), v.Len()), reflect.Zero(v.Type().Elem())))
		case reflect.String:
			v.SetString(v.String() + "x")
		default:
			v.SetInt(v.Int() + 1)
		}
		changes++
		if syntax.Same(p, strange()) || syntax.Same(strange(), p) {
			t.Errorf("a %s that differs is not seen", v.Type())
		}
		v.Set(old)
	}
	vary(reflect.ValueOf(&p).Elem())
	if changes < 60 || !syntax.Same(p, strange()) {
		t.Errorf("%d changes", changes)
	}
}

// P1.1: Size.
func TestSize(t *testing.T) {
	for text, want := range map[string]int{
		"":                                0,
		"global g: int;":                  0,
		"func f() { }":                    1,
		"func f() { trap; } func g() { }": 3,
		"func f() { print 1 + a[2]; }":    6,
		"func f() { if a { x = 1; } else { f(b, 2); return; } }": 10,
	} {
		if n := syntax.Size(read(t, text)); n != want {
			t.Errorf("%s: %d", text, n)
		}
	}
	for _, p := range []api.Program{printing(negated(19)), printing(api.Expr{}), printing(endlessExpr())} {
		if n := syntax.Size(p); n != 0 {
			t.Errorf("a wrong program: %d", n)
		}
	}
}
