package syntax_test

import (
	"math/rand/v2"
	"strings"
	"testing"

	"cupel/api"
	"cupel/syntax"
)

func refuse(t *testing.T, text string, place int, want api.Errno) {
	t.Helper()
	p, at, e := syntax.Parse(text)
	if at != place || e != want || !syntax.Same(p, api.Program{}) {
		t.Errorf("Parse(%.60q): %d at %d, want %d at %d", text, e, at, want, place)
	}
}

// wrongAt expects ErrSyntax at the place of the mark @, which is left out of the text.
func wrongAt(t *testing.T, marked string) {
	t.Helper()
	place := strings.Index(marked, "@")
	refuse(t, marked[:place]+marked[place+1:], place, api.ErrSyntax)
}

// P1.2: what texts say.
func TestReads(t *testing.T) {
	for text, want := range map[string]api.Expr{
		"7":                   number(7),
		"9223372036854775807": number(1<<63 - 1),
		"0s":                  {Kind: api.ExSmall},
		"255s":                {Kind: api.ExSmall, Int: 255},
		"true":                {Kind: api.ExBool, Int: 1},
		"false":               {Kind: api.ExBool},
		"x":                   name("x"),
		"((x))":               name("x"),
		"-7":                  {Kind: api.ExUnary, Op: api.UnNeg, Args: []api.Expr{number(7)}},
		"!x":                  {Kind: api.ExUnary, Op: api.UnNot, Args: []api.Expr{name("x")}},
		"~x":                  {Kind: api.ExUnary, Op: api.UnComp, Args: []api.Expr{name("x")}},
		"a[x]":                {Kind: api.ExIndex, Name: "a", Args: []api.Expr{name("x")}},
		"f()":                 {Kind: api.ExCall, Name: "f"},
		"f(x, 7)":             {Kind: api.ExCall, Name: "f", Args: []api.Expr{name("x"), number(7)}},
		"int(x)":              {Kind: api.ExToInt, Args: []api.Expr{name("x")}},
		"small(x)":            {Kind: api.ExToSmall, Args: []api.Expr{name("x")}},
	} {
		if p := read(t, "func main() { print "+text+"; }"); !syntax.Same(p, printing(want)) {
			t.Errorf("%s: %v", text, p)
		}
	}
}

// P1.2: statements.
func TestReadsStatements(t *testing.T) {
	x, one := name("x"), number(1)
	block := []api.Stmt{{Kind: api.StTrap}}
	for text, want := range map[string]api.Stmt{
		"let x: bool;":                 {Kind: api.StLet, Name: "x", Type: api.Type{Kind: api.TyBool}},
		"let x: int = 1;":              {Kind: api.StLet, Name: "x", Type: api.Type{Kind: api.TyInt}, Exprs: []api.Expr{one}},
		"let x: small[16];":            {Kind: api.StLet, Name: "x", Type: api.Type{Kind: api.TySmall, Len: 16}},
		"x = 1;":                       {Kind: api.StSet, Name: "x", Exprs: []api.Expr{one}},
		"x[1] = x;":                    {Kind: api.StPut, Name: "x", Exprs: []api.Expr{one, x}},
		"x(1, x);":                     {Kind: api.StCall, Exprs: []api.Expr{{Kind: api.ExCall, Name: "x", Args: []api.Expr{one, x}}}},
		"print 1;":                     {Kind: api.StPrint, Exprs: []api.Expr{one}},
		"trap;":                        {Kind: api.StTrap},
		"break;":                       {Kind: api.StBreak},
		"continue;":                    {Kind: api.StContinue},
		"return;":                      {Kind: api.StReturn},
		"return x;":                    {Kind: api.StReturn, Exprs: []api.Expr{x}},
		"if x { }":                     {Kind: api.StIf, Exprs: []api.Expr{x}},
		"if x { } else { }":            {Kind: api.StIf, Exprs: []api.Expr{x}},
		"if x { } else { trap; }":      {Kind: api.StIf, Exprs: []api.Expr{x}, Else: block},
		"if x { trap; } else { }":      {Kind: api.StIf, Exprs: []api.Expr{x}, Body: block},
		"while x upto 1 { trap; }":     {Kind: api.StWhile, Exprs: []api.Expr{x}, Bound: 1, Body: block},
		"while x upto 1000 { }":        {Kind: api.StWhile, Exprs: []api.Expr{x}, Bound: 1000},
		"for x in 1 .. x { trap; }":    {Kind: api.StFor, Name: "x", Exprs: []api.Expr{one, x}, Body: block},
		"for x in (1)..x{trap;}":       {Kind: api.StFor, Name: "x", Exprs: []api.Expr{one, x}, Body: block},
		"for x in 1..x//..\n{ trap; }": {Kind: api.StFor, Name: "x", Exprs: []api.Expr{one, x}, Body: block},
	} {
		if p := read(t, "func main() { "+text+" }"); !syntax.Same(p, body(want)) {
			t.Errorf("%s: %v", text, p)
		}
	}
}

// P1.2: globals and functions.
func TestReadsHeads(t *testing.T) {
	scalar := func(kind int) api.Type { return api.Type{Kind: kind} }
	for text, want := range map[string]api.Global{
		"global g: int;":                         {Name: "g", Type: scalar(api.TyInt)},
		"global g: int = 0;":                     {Name: "g", Type: scalar(api.TyInt)},
		"global g: int = -9223372036854775807;":  {Name: "g", Type: scalar(api.TyInt), Init: -1<<63 + 1},
		"global g: int = - 7;":                   {Name: "g", Type: scalar(api.TyInt), Init: -7},
		"global g: small = 5;":                   {Name: "g", Type: scalar(api.TySmall), Init: 5},
		"global g: small = 5s;":                  {Name: "g", Type: scalar(api.TySmall), Init: 5},
		"global g: bool = true;":                 {Name: "g", Type: scalar(api.TyBool), Init: 1},
		"global g: bool = false;":                {Name: "g", Type: scalar(api.TyBool)},
		"global g: small[2];":                    {Name: "g", Type: api.Type{Kind: api.TySmall, Len: 2}},
		"//\nglobal\tg\r:int//=\n[16 ]; // x = ": {Name: "g", Type: api.Type{Kind: api.TyInt, Len: 16}},
	} {
		if p := read(t, text); !syntax.Same(p, api.Program{Globals: []api.Global{want}}) {
			t.Errorf("%s: %v", text, p)
		}
	}
	p := read(t, "func f(): bool { } func g(a: int, b: small[3]) { }")
	want := []api.Func{{Name: "f", Result: api.TyBool}, {Name: "g", Params: []api.Param{{Name: "a", Type: scalar(api.TyInt)}, {Name: "b", Type: api.Type{Kind: api.TySmall, Len: 3}}}}}
	if !syntax.Same(p, api.Program{Funcs: want}) {
		t.Errorf("functions: %v", p)
	}
}

// P1.2: operators bind by their levels, and from left to right.
func TestBinds(t *testing.T) {
	lines := [][]string{{"||"}, {"&&"}, {"==", "!=", "<", "<=", ">", ">="}, {"|", "^"}, {"&"}, {"<<", ">>"}, {"+", "-"}, {"*", "/", "%"}}
	for i, weak := range lines {
		for _, a := range weak {
			for j, strong := range lines {
				for _, b := range strong {
					first := "func f() { print x " + a + " y " + b + " z; }"
					left := "func f() { print (x " + a + " y) " + b + " z; }"
					right := "func f() { print x " + a + " (y " + b + " z); }"
					switch {
					case i == 2 && j == 2:
						wrongAt(t, "func f() { print x "+a+" y @"+b+" z; }")
					case i < j && !syntax.Same(read(t, first), read(t, right)), i >= j && !syntax.Same(read(t, first), read(t, left)):
						t.Errorf("%s, %s", a, b)
					}
					if syntax.Same(read(t, left), read(t, right)) {
						t.Errorf("%s, %s: parentheses", a, b)
					}
					if !syntax.Same(read(t, "func f() { print -x "+a+" y; }"), read(t, "func f() { print (-x) "+a+" y; }")) {
						t.Errorf("-, %s", a)
					}
				}
			}
		}
	}
}

// P1.2: wrong tokens, and places where none begins.
func TestWrong(t *testing.T) {
	for _, s := range []string{
		"@x", "@;", "@{", "@let", "@0", "@_", "@.", "@\x00", "@é", "@'", "@\f", "@\v", "func f() { } @global g: int;", "func f() { } @}", "// x\n @x",
		"global @", "global @int: int;", "global @7: int;", "global g@", "global g @= 5;", "global g: @", "global g: @x;", "global g: int@", "global g: int @5;", "global g: int[@", "global g: int[@]", "global g: int[@5s];", "global g: int[@-5];", "global g: int[@05];", "global g: int[5@", "global g: int[5@;", "global g: int[5] @[",
		"global g: int = @", "global g: int = @;", "global g: int = @5s;", "global g: int = @true;", "global g: int = @(5);", "global g: int = @+5;", "global g: int = -@", "global g: int = -@0;", "global g: int = -@-5;", "global g: int = -@5s;", "global g: int = -@true;", "global g: int = -@00;", "global g: int = @9223372036854775808;", "global g: int = -@9223372036854775808;", "global g: int = 5 @+ 5;", "global g: int = 5@", "global g: int = 5 @global",
		"global g: small = @300s;", "global g: small = @256s;", "global g: small = -@5s;", "global g: small = -@0;", "global g: small = -@0s;", "global g: small = @false;", "global g: small = 5 @s;",
		"global g: bool = @1;", "global g: bool = @0;", "global g: bool = @1s;", "global g: bool = @-1;", "global g: bool = @!true;", "global g: bool = @", "global g: int[3] = @1;", "global g: int[3] = @-1;", "global g: int[3] = @;", "global g: int[3] = @", "global g: int[3] =  @", "global g: bool[3] = @true;", "global g: int[3] = @\"", "global g: int[0] = @1;", "global g: small[99] = @0;",
		"func @", "func @if() { }", "func f@", "func f@{ }", "func f(@", "func f(@,", "func f(@1", "func f(a@", "func f(a@)", "func f(a:@", "func f(a: @f)", "func f(a: int@", "func f(a: int @b: int) { }", "func f(a: int,@) { }", "func f(a: int,@", "func f()@", "func f() @;", "func f() @int { }", "func f():@", "func f(): @x", "func f(): int @[3] { }", "func f(): int@", "func f() {@", "func f() { }@}",
	} {
		wrongAt(t, s)
	}
}

// P1.2: wrong tokens in statements and expressions.
func TestWrongInside(t *testing.T) {
	for _, s := range []string{
		"@;", "@{ }", "@else { }", "@func", "@global", "@5;", "@(x);", "@-x;", "@true;", "@int(x);", "@upto", "@in", "@.", "@=",
		"x@;", "x @x", "x @+ 1;", "x @== 1;", "x = @;", "x = @= 1;", "x = 1@", "x = 1 @}", "x = 1 @2;", "x = 1 @x;", "x = 1 @= 2;", "x = @let;", "x[@", "x[@]", "x[1@;", "x[1] @;", "x[1] @+", "x[1] = @", "x[1@, 2] = 1;", "x(@;", "x(1@;", "x(1 @2)", "x(1,@)", "x(1)@", "x(1) @+ 1;", "x() @= 1;", "x @. y",
		"let @;", "let @let: int;", "let x@;", "let x @= 1;", "let x: @= 1;", "let x: int @:", "let x: int[@x];", "let x: int[@3s];", "let x: int[@3x];", "let x: int = @;", "let x: int = 1@", "let x: int = 1 @,",
		"print@", "print @;", "print 1@", "print 1 @}", "print @print 1;", "trap @x;", "trap@", "break @1;", "break@", "continue @1;", "return @}", "return@", "return 1 @}", "return 1 @1;", "return @return;",
		"if @{ }", "if (@", "if x@", "if x @;", "if x @trap;", "if x {@", "if x { @else", "if x { } else@", "if x { } else @if y { }", "if x { } else @;", "if x { } else { } @else { }", "if x { } @;",
		"while @{ }", "while x @{ }", "while x upto@", "while x upto @{ }", "while x upto @10s { }", "while x upto @-1 { }", "while x upto @(1) { }", "while x upto @n { }", "while x upto 1@", "while x upto 1 @;", "while x upto 1 @+ 1 { }", "while @upto 1 { }",
		"for @{ }", "for @1 in", "for x@", "for x @= 1", "for x in@", "for x in @.. 2 { }", "for x in 1 @{ }", "for x in 1@", "for x in 1 @. . 2 { }", "for x in 1 ..@", "for x in 1 .. @{ }", "for x in 1 .. 2@", "for x in 1 .. 2 @.. 3 { }", "for x in 1 .. 2 @;", "for x in 1 ..@. 2 { }",
		"x = 1 < 2 @< 3;", "x = 1 < 2 @== 3;", "x = 1 == 2 + 3 @!= 4;", "x = (1 < 2) < 3 @>= 4;", "x = 1 < 2 && 3 < 4 @< 5;", "x = (1 < 2 @< 3);", "x = a[1 < 2 @> 3];", "x = f(1 < 2 @<= 3);",
		"x = 1 + @;", "x = 1 @! 2;", "x = 1 @~ 2;", "x = 1 + @* 2;", "x = 1 && @& 2;", "x = 1 & @& 2;", "x = 1 &&@& 2;", "x = 1 <<@< 2;", "x = 1 > @;", "x = 1 > @> 2;", "x = 1 ==@= 2;", "x = 1 @= = 2;", "x = @+1;", "x = -@;", "x = !@;", "x = @!= 1;", "x = (@);", "x = (1@;", "x = (1@, 2);", "x = ((1)@;", "x = 1@);", "x = 1@];", "x = a[@];", "x = a[1@;", "x = a[1@, 2];", "x = a[1] @[2];", "x = f(@,);", "x = f(1,@);", "x = f(1@;", "x = f(1) @(2);", "x = int @x;", "x = int(@);", "x = int(1@, 2);", "x = @bool(1);", "x = small@[1];", "x = 1 @(2);", "x = true @(1);", "x = (a) @(1);", "x = (a) @[1];",
		"x = @01;", "x = @00;", "x = @5x;", "x = @5_;", "x = @5sx;", "x = @5ss;", "x = @5s1;", "x = @5s_;", "x = @256s;", "x = @01s;", "x = @00s;", "x = @9223372036854775808;", "x = @99999999999999999999999999;", "x = @99999999999999999999999999s;", "x = @5S;", "x = @0x10;", "x = 1@.5;", "x = 5@é;", "x = @é;", "x = a@é;", "x = @_a;", "x = @\";", "x = a @#;", "x = a @$", "x = a @? b", "x = @\x80;", "x@\x00= 1;", "x = 1 @\\ 2;", "x = 5 @s;",
	} {
		wrongAt(t, "func f() { "+s)
	}
	for _, text := range []string{"func f() {", "func f() { x = 5; ", "func f() { if a { } // }", "func f() // {", "global g: int //;\n", "func f(\t\r\n "} {
		refuse(t, text, len(text), api.ErrSyntax)
	}
}

// P1.2: what is read, but is not small or not well-formed.
func TestReadsWrongPrograms(t *testing.T) {
	for _, text := range []string{
		"global g: int[0];", "global g: int[17];", "global g: int[9223372036854775807];", "global g: bool[1];", "global g: bool[0];", "global g: small = -1;", "global g: small = 256;", "global g: small = 9223372036854775807;", "global g: small = -9223372036854775807;",
		"func f(a: int[0]) { }", "func f(a: small[17]) { }", "func f(a: bool[2]) { }", "func f(a: int, b: int, c: int, d: int, e: int) { }",
		"func f() { let x: int[0]; }", "func f() { let x: int[17]; }", "func f() { let x: int[4] = 1; }", "func f() { let x: int[0] = 1; }", "func f() { let x: bool[4]; }", "func f() { while a upto 0 { } }", "func f() { while a upto 1001 { } }", "func f() { while a upto 9223372036854775807 { } }", "func f() { x = f(1, 2, 3, 4, 5); }",
		"func abcdefghijklmnopq() { }", "func f() { abcdefghijklmnopq = 1; }", "global abcdefghijklmnopq: int;", "func f(abcdefghijklmnopq: int) { }", "func f() { print " + strings.Repeat("a", 15000) + "; }",
		strings.Repeat("func f() { } ", 9), strings.Repeat("global g: int; ", 9),
	} {
		refuse(t, text, 0, api.ErrArg)
	}
	long := []string{
		"func f() { " + strings.Repeat("trap; ", 400) + "}", "func f() { print " + strings.Repeat("-", 19) + "1; }", "func f() { print " + strings.Repeat("-", 15000) + "1; }", "func f() { print 1" + strings.Repeat(" + 1", 19) + "; }",
		"func f() { " + strings.Repeat("if a { ", 20) + strings.Repeat("}", 20) + " }", "func f() { " + strings.Repeat("if a { ", 1500) + strings.Repeat("}", 1500) + " }", "func f() { let x: int[0]; " + strings.Repeat("trap; ", 400) + "}",
	}
	for _, text := range long {
		refuse(t, text, 0, api.ErrLong)
	}
	for _, text := range []string{"func f() { " + strings.Repeat("trap; ", 399) + "}", "func f() { print " + strings.Repeat("-", 18) + "1; }", "func f() { print 1" + strings.Repeat(" + 1", 18) + "; }", "func f() { print " + strings.Repeat("(", 9000) + "1" + strings.Repeat(")", 9000) + "; }", strings.Repeat("func f() { } ", 8), "global g: int[16]; global h: small[1];"} {
		read(t, text)
	}
	refuse(t, strings.Repeat(" ", api.MaxSource+1), 0, api.ErrLong)
	refuse(t, "x"+strings.Repeat(" ", api.MaxSource), 0, api.ErrLong)
	refuse(t, "x"+strings.Repeat(" ", api.MaxSource-1), 0, api.ErrSyntax)
	refuse(t, "func f() {"+strings.Repeat(" ", api.MaxSource-10), api.MaxSource, api.ErrSyntax)
	read(t, "//"+strings.Repeat("x", api.MaxSource-2))
	refuse(t, "func f() { print "+strings.Repeat("(", 19000)+"1;", 19018, api.ErrSyntax)
}

// P1.2: places are those that the grammar says, whatever was changed in a text.
func TestPlacesOfErrors(t *testing.T) {
	r := &recognizer{rules: rules()}
	draw := rand.New(rand.NewPCG(7, 7))
	parts := strings.Fields("global func let if else while upto for in break continue return print trap int small bool true false x y9 0 1 17 255s 256s 0s 01 5x ( ) { } [ ] , ; : = == != < <= << > >= >> & && | || ^ ! ~ + - * / % .. . // \" _ é")
	right, wrong := 0, 0
	for round := range 1200 {
		text := whole
		if round%2 == 1 {
			text = "global g: int = -5; global h: small = 3; global b: bool = true; global a: int[2]; func f(a: int[2]): int { return a[0] * (1 - g) < 2; } func main() { if f(a) == 1 && !b { print 1; } }"
		}
		for range 1 + draw.IntN(2) {
			from := draw.IntN(len(text) + 1)
			to := min(len(text), from+draw.IntN(4))
			part := parts[draw.IntN(len(parts))]
			text = text[:from] + []string{"", part, " " + part + " "}[draw.IntN(3)] + text[to:]
		}
		if draw.IntN(4) == 0 {
			text = text[:draw.IntN(len(text)+1)]
		}
		place := r.wrongPlace(text)
		_, at, e := syntax.Parse(text)
		if place < 0 && (e == api.ErrSyntax || at != 0) || place >= 0 && (e != api.ErrSyntax || at != place) {
			t.Fatalf("Parse(%q): %d at %d, want a wrong token at %d", text, e, at, place)
		}
		if place < 0 {
			right++
		} else {
			wrong++
		}
	}
	if right < 50 || wrong < 500 {
		t.Errorf("%d right, %d wrong", right, wrong)
	}
}
