package ir_test

import (
	"math"
	"reflect"
	"strconv"
	"strings"
	"testing"

	"cupel/api"
	"cupel/ir"
)

func refuse(t *testing.T, text string, place int, want api.Errno) {
	t.Helper()
	m, at, e := ir.Parse(text)
	if at != place || e != want || !reflect.DeepEqual(m, api.Module{}) {
		t.Errorf("Parse(%.200q): %d at %d, want %d at %d", text, e, at, want, place)
	}
}

// refuseAt expects an error at the place of the mark @, which is left out of the text.
func refuseAt(t *testing.T, marked string, want api.Errno) {
	t.Helper()
	place := strings.Index(marked, "@")
	refuse(t, marked[:place]+marked[place+1:], place, want)
}

// P8.2: what instructions say.
func TestReadsInstructions(t *testing.T) {
	for text, want := range map[string]api.Instr{
		"r2 = 7;":                       {Op: api.IxCopy, To: 2, A: num(7)},
		"r0 = r3;":                      {Op: api.IxCopy, To: 0, A: reg(3)},
		"r0 = -9223372036854775808;":    {Op: api.IxCopy, To: 0, A: num(math.MinInt64)},
		"r0 = 9223372036854775807;":     {Op: api.IxCopy, To: 0, A: num(math.MaxInt64)},
		"r0 = add r1, r2;":              {Op: api.IxBin, Kind: api.IbAdd, To: 0, A: reg(1), B: reg(2)},
		"r0 = sub r1, 2;":               {Op: api.IxBin, Kind: api.IbSub, To: 0, A: reg(1), B: num(2)},
		"r0 = mul 1, r2;":               {Op: api.IxBin, Kind: api.IbMul, To: 0, A: num(1), B: reg(2)},
		"r0 = div -1, -2;":              {Op: api.IxBin, Kind: api.IbDiv, To: 0, A: num(-1), B: num(-2)},
		"r0 = rem r0, r0;":              {Op: api.IxBin, Kind: api.IbRem, To: 0, A: reg(0), B: reg(0)},
		"r0 = and r1, r2;":              {Op: api.IxBin, Kind: api.IbAnd, To: 0, A: reg(1), B: reg(2)},
		"r0 = or r1, r2;":               {Op: api.IxBin, Kind: api.IbOr, To: 0, A: reg(1), B: reg(2)},
		"r0 = xor r1, r2;":              {Op: api.IxBin, Kind: api.IbXor, To: 0, A: reg(1), B: reg(2)},
		"r0 = shl r1, r2;":              {Op: api.IxBin, Kind: api.IbShl, To: 0, A: reg(1), B: reg(2)},
		"r0 = shr r1, r2;":              {Op: api.IxBin, Kind: api.IbShr, To: 0, A: reg(1), B: reg(2)},
		"r0 = eq r1, r2;":               {Op: api.IxBin, Kind: api.IbEq, To: 0, A: reg(1), B: reg(2)},
		"r0 = ne r1, r2;":               {Op: api.IxBin, Kind: api.IbNe, To: 0, A: reg(1), B: reg(2)},
		"r0 = lt r1, r2;":               {Op: api.IxBin, Kind: api.IbLt, To: 0, A: reg(1), B: reg(2)},
		"r0 = le r1, r2;":               {Op: api.IxBin, Kind: api.IbLe, To: 0, A: reg(1), B: reg(2)},
		"check r1, 4;":                  {Op: api.IxCheck, To: -1, A: reg(1), B: num(4)},
		"check 1, r2;":                  {Op: api.IxCheck, To: -1, A: num(1), B: reg(2)},
		"r1 = load a2[r3];":             {Op: api.IxLoad, To: 1, Array: 2, A: reg(3)},
		"store a2[1] = r3;":             {Op: api.IxStore, To: -1, Array: 2, A: num(1), B: reg(3)},
		"store a0[r1] = -3;":            {Op: api.IxStore, To: -1, A: reg(1), B: num(-3)},
		"r3 = get c1;":                  {Op: api.IxGet, To: 3, Cell: 1},
		"put c1 = r2;":                  {Op: api.IxPut, To: -1, Cell: 1, A: reg(2)},
		"put c0 = 0;":                   {Op: api.IxPut, To: -1, A: num(0)},
		"print r2;":                     {Op: api.IxPrint, To: -1, A: reg(2)},
		"print 0;":                      {Op: api.IxPrint, To: -1, A: num(0)},
		"call e();":                     {Op: api.IxCall, To: -1, Func: 1},
		"call g(r1, -2; a2, a0);":       {Op: api.IxCall, To: -1, Func: 2, Args: []api.Opd{reg(1), num(-2)}, Arrays: []int{2, 0}},
		"r1 = call g(3, r2; a0, a2);":   {Op: api.IxCall, To: 1, Func: 2, Args: []api.Opd{num(3), reg(2)}, Arrays: []int{0, 2}},
		"call h(; a1);":                 {Op: api.IxCall, To: -1, Func: 3, Arrays: []int{1}},
		"r2=call g(3,r2;a0,a2);":        {Op: api.IxCall, To: 2, Func: 2, Args: []api.Opd{num(3), reg(2)}, Arrays: []int{0, 2}},
		"r1\n=\n7#\n;":                  {Op: api.IxCopy, To: 1, A: num(7)},
		"r1=add r1,1;":                  {Op: api.IxBin, Kind: api.IbAdd, To: 1, A: reg(1), B: num(1)},
		"r1=add-1,1;":                   {Op: api.IxBin, Kind: api.IbAdd, To: 1, A: num(-1), B: num(1)},
		"put\tc1\r=\n5 # ;\n ;# put ;;": {Op: api.IxPut, To: -1, Cell: 1, A: num(5)},
	} {
		m := read(t, "cell c = 0; cell d = 0; array a[4] small; main f; func f params 0 regs 4 { local[2]; global a; local[2]; b0: "+text+"\n return; } func e params 0 regs 0 { b0: return; } func g params 2 regs 2 result { param[2]; param[2]; b0: trap; } func h params 0 regs 0 { param[4] small; b0: trap; }")
		if got := m.Funcs[0].Blocks[0].Code; len(got) != 1 || !reflect.DeepEqual(got[0], want) {
			t.Errorf("%s: %+v", text, got)
		}
	}
}

// P8.2: phis, and ends.
func TestReadsBlocks(t *testing.T) {
	m := read(t, "main f; func f params 0 regs 3 { b0: jump b2; b1: r1 = phi; branch r2, b2, b3; b2: r0 = phi b0: r1, b1: -5; r2 = phi b0: 7, b1: r2; return; b3: r0 = 1; trap; b4: branch 0, b3, b3; }")
	want := []api.Block{
		{End: api.Term{Op: api.TmJump, To: 2}},
		{Code: []api.Instr{{Op: api.IxPhi, To: 1}}, End: api.Term{Op: api.TmBranch, A: reg(2), To: 2, Else: 3}},
		{Code: []api.Instr{{Op: api.IxPhi, To: 0, From: []int{0, 1}, Args: []api.Opd{reg(1), num(-5)}}, {Op: api.IxPhi, To: 2, From: []int{0, 1}, Args: []api.Opd{num(7), reg(2)}}}, End: api.Term{Op: api.TmReturn}},
		{Code: []api.Instr{{Op: api.IxCopy, To: 0, A: num(1)}}, End: api.Term{Op: api.TmTrap}},
		{End: api.Term{Op: api.TmBranch, A: num(0), To: 3, Else: 3}},
	}
	if !reflect.DeepEqual(m.Funcs[0].Blocks, want) {
		t.Errorf("%+v", m.Funcs[0].Blocks)
	}
	m = read(t, "main f; func f params 0 regs 0 { b0: trap; } func g params 1 regs 1 result { b0: branch r0, b1, b2; b1: return r0; b2: return -4; }")
	for i, want := range []api.Term{{Op: api.TmBranch, A: reg(0), To: 1, Else: 2}, {Op: api.TmReturn, A: reg(0)}, {Op: api.TmReturn, A: num(-4)}} {
		if got := m.Funcs[1].Blocks[i].End; got != want {
			t.Errorf("end %d: %v", i, got)
		}
	}
}

// P8.2: cells, arrays, main and the heads of functions.
func TestReadsHeads(t *testing.T) {
	trap := []api.Block{{End: api.Term{Op: api.TmTrap}}}
	m := read(t, "cell x=-5;cell y= 0;cell z =9223372036854775807; array x[1]; array cell[16]small; main call;\nfunc f params 8 regs 300 result{param[3];b0:trap;}func call params 0regs 0{global cell;local[16]small;global x;local[1];b0:trap;}func x params 0 regs 0 { param [ 16 ] small ; b0 : trap ; }")
	want := api.Module{
		Cells:  []api.Cell{{Name: "x", Init: -5}, {Name: "y"}, {Name: "z", Init: math.MaxInt64}},
		Arrays: []api.GArray{{Name: "x", Len: 1}, {Name: "cell", Len: 16, Small: true}},
		Main:   1,
		Funcs: []api.IFunc{
			{Name: "f", Params: 8, Regs: 300, Result: true, Blocks: trap, Arrays: []api.Array{{Kind: api.AyParam, Len: 3}}},
			{Name: "call", Blocks: trap, Arrays: []api.Array{{Kind: api.AyGlobal, Global: 1}, {Kind: api.AyLocal, Len: 16, Small: true}, {Kind: api.AyGlobal}, {Kind: api.AyLocal, Len: 1}}},
			{Name: "x", Blocks: trap, Arrays: []api.Array{{Kind: api.AyParam, Len: 16, Small: true}}},
		},
	}
	if !ir.Same(m, want) {
		t.Errorf("%+v", m)
	}
}

// P8.2: all words may be names, and a letter may follow a number at once.
func TestWordsAsNames(t *testing.T) {
	for _, n := range strings.Fields("cell array small main func params regs result local param global check store put print load get call phi add sub le jump branch return trap r0 b0 a0 c0 r1001 x_ A9 aaaaaaaaaaaaaaaa") {
		m := read(t, "cell "+n+" = 1; array "+n+"[2]; main "+n+"; func "+n+" params 0 regs 1 { global "+n+"; b0: call g(); return; } func g params 0 regs 1 { b0: return; } func h params 0 regs 0 { b0: call "+n+"(); trap; }")
		if m.Cells[0].Name != n || m.Arrays[0].Name != n || m.Funcs[0].Name != n || m.Funcs[2].Blocks[0].Code[0].Func != 0 {
			t.Errorf("%s: %+v", n, m)
		}
	}
	read(t, "main f;func f params 0regs 1{b0:r0=5;trap;}func g params 0regs 0result{b0:trap;}")
	read(t, "cell c=5;array a[5]small;main f;func f params 0regs 0{b0:check 5,-5;print-5;put c0=-5;return;}")
}

// P8.2: blanks and remarks.
func TestBlanks(t *testing.T) {
	want := read(t, whole)
	for _, blank := range []string{" ", "\t", "\n", "\r", "\r\n", "#\n", "# x ; } \r \x00 \xff é #\n", " #a\n#b\n\t"} {
		s := blank + strings.NewReplacer(" ", blank, "\n", blank, ";", blank+";"+blank, ",", blank+","+blank, ":", blank+":"+blank, "[", blank+"["+blank, "]", blank+"]"+blank, "(", blank+"("+blank, ")", blank+")"+blank).Replace(whole) + blank
		if m := read(t, s); !ir.Same(m, want) {
			t.Errorf("%q", blank)
		}
	}
	if !ir.Same(read(t, whole+"# the end"), want) || !ir.Same(read(t, "#\n"+whole+"#"), want) {
		t.Error("remarks at the end")
	}
	for _, s := range []string{"@\f", "@\v", "@\x00", "@\u00a0", "#\n@\x85", "@/", "@//"} {
		refuseAt(t, s+"main f;", api.ErrForm)
	}
	refuse(t, "# main f;\r main f; func f params 0 regs 0 { b0: trap; }", 55, api.ErrForm) // a line ends with a line feed
}

// P8.2: wrong tokens, and places where none begins, in heads.
func TestWrong(t *testing.T) {
	for _, s := range []string{
		"@", "@x", "@;", "@func", "@mai", "@Main", "@main_", "@main1 f;", "@5", "@-", "@_", "@.", "@\"", "@\xe9", "# x\n @small", "@cells c = 1;", "@CELL c = 1;", "@arr", "  @",
		"cell@", "cell @=", "cell @5", "cell @_c", "cell @abcdefghijklmnopq = 1;", "cell c@", "cell c @1;", "cell c @[", "cell c =@", "cell c = @;", "cell c = @x;", "cell c = @r0;", "cell c = @--1;", "cell c = @- 1;", "cell c = @+1;", "cell c = @01;", "cell c = @00;", "cell c = @-0;", "cell c = @-01;", "cell c = @-;", "cell c = @9223372036854775808;", "cell c = @-9223372036854775809;", "cell c = @99999999999999999999999999;", "cell c = @-99999999999999999999999999x", "cell c = 1@", "cell c = 1 @cell", "cell c = 1@x;", "cell c = 1@-;", "cell c = 1@-1;", "cell c = 1@_;", "cell c = 1@.5;", "cell c = 1 @2;", "cell c = 1;@", "cell c = 1; @func", "cell c = 1; @;", "cell c = 1; @mainf",
		"array@", "array @[", "array @4", "array @abcdefghijklmnopq[1];", "array a@", "array a @=", "array a @;", "array a @4", "array a[@", "array a[@]", "array a[@x]", "array a[@-1]", "array a[@1001]", "array a[@01]", "array a[@9223372036854775807]", "array a[@99999999999999999999]", "array a[4@", "array a[4 @;", "array a[4 @5]", "array a[4@x]", "array a[4]@", "array a[4] @smal;", "array a[4] @smalls", "array a[4] @=", "array a[4] small@", "array a[4] small @small;", "array a[4] small @array", "array a[4]; @cell c = 1;", "array a[4]; @func", "array a[4];@", "array a[4]; @small",
		"main@", "main @;", "main @5", "main @-5", "main @abcdefghijklmnopq;", "main f@", "main f @func", "main f @f", "main f @,", "main f; @cell c = 1;", "main f; @array", "main f; @main f;", "main f; @f", "main f; @}", "main f; @b0:",
		"main f; func@", "main f; func @{", "main f; func @0", "main f; func @abcdefghijklmnopq params", "main f; func f@", "main f; func f @(", "main f; func f @regs", "main f; func f @param 0", "main f; func f @params0", "main f; func f params@", "main f; func f params @regs", "main f; func f params @-1", "main f; func f params @1001", "main f; func f params @x", "main f; func f params 0@", "main f; func f params 0 @{", "main f; func f params 0 @1", "main f; func f params 0@regs0 {", "main f; func f params 0 regs@", "main f; func f params 0 regs @{", "main f; func f params 0 regs @-1", "main f; func f params 0 regs @1001 {", "main f; func f params 0 regs @00", "main f; func f params 0 regs 1@", "main f; func f params 0 regs 1 @;", "main f; func f params 0 regs 1@results {", "main f; func f params 0 regs 1 @}", "main f; func f params 0 regs 1 result@", "main f; func f params 0 regs 1 result @result", "main f; func f params 0 regs 1 result @;", "main f; func f params 0 regs 1 {@", "main f; func f params 0 regs 1 { b0: trap;@", "main f; func f params 0 regs 1 { } @}", "main f; func f params 0 regs 1 { } @;", "main f; func f params 0 regs 1 { } @main", "main f; func f params 0 regs 1 { b0: trap; } @b1:", "main f; func f params 0 regs 1 { } func@",
	} {
		refuseAt(t, s, api.ErrForm)
	}
}

// P8.2: wrong tokens in functions.
func TestWrongInside(t *testing.T) {
	for _, s := range []string{
		"@;", "@{", "@trap;", "@r0", "@b", "@b1:", "@b2:", "@b00:", "@b01:", "@b-1:", "@B0:", "@b0x:", "@b_0:", "@b9999999999999999999999:", "@0:", "@x:", "@return", "@func", "@array", "@locals", "@cell",
		"local@", "local @;", "local @4", "local @x", "local[@", "local[@]", "local[@-1]", "local[@1001]", "local[@r0]", "local[4@", "local[4 @;", "local[4]@", "local[4] @}", "local[4] @local", "local[4] @x", "local[4] small@", "local[4] small @small", "local[4]; @;", "param@", "param @x", "param @;", "param[@a]", "param[@1001]", "param[4] @=", "param[4] small @b0:", "@params 0;", "global@", "global @;", "global @[", "global @5", "global @abcdefghijklmnopq;", "global g@", "global g @[", "global g @,", "global g @global", "local[1]; param[1]; global g; b0: trap; @local[1];", "b0: trap; @param[1];", "b0: trap; @global g;",
		"b0@", "b0 @;", "b0 @b1", "b0 @trap", "b0:@", "b0: @}", "b0: @b1:", "b0: @;", "b0: @:", "b0: trap; @b0:", "b0: trap; @b2:", "b0: trap; b1: trap; @b1:", "b0: trap; b1: trap; @b3:", "b0: trap; @trap;", "b0: trap; @r0 = 1;", "b0: trap; @;",
		"b0: @x = 1;", "b0: @r = 1;", "b0: @R0 = 1;", "b0: @r00 = 1;", "b0: @r01 = 1;", "b0: @r1001 = 1;", "b0: @r99999999999999999999 = 1;", "b0: @r1x = 1;", "b0: @r_1 = 1;", "b0: @a0 = 1;", "b0: @c0 = 1;", "b0: @5 = 1;", "b0: @r", "b0: @r 0 = 1;", "b0: r0@", "b0: r0 @;", "b0: r0 @:", "b0: r0 @1;", "b0: r0 @r1;", "b0: r0 =@", "b0: r0 = @;", "b0: r0 = @=", "b0: r0 = @x;", "b0: r0 = @b0;", "b0: r0 = @c0;", "b0: r0 = @a0;", "b0: r0 = @check 1, 2;", "b0: r0 = @store a0[1] = 2;", "b0: r0 = @print 1;", "b0: r0 = @put c0 = 1;", "b0: r0 = @jump b1;", "b0: r0 = @gt 1, 2;", "b0: r0 = @copy 1;", "b0: r0 = @Add 1, 2;", "b0: r0 = @ADD 1, 2;", "b0: r0 = @adds 1, 2;", "b0: r0 = @small;", "b0: r0 = @(1);", "b0: r0 = @01;", "b0: r0 = @-0;", "b0: r0 = @-r1;", "b0: r0 = @r1001;", "b0: r0 = @r01;", "b0: r0 = @9223372036854775808;", "b0: r0 = @-9223372036854775809;", "b0: r0 = 1@", "b0: r0 = 1 @}", "b0: r0 = 1 @2;", "b0: r0 = 1 @, 2;", "b0: r0 = 1 @r1 = 2;", "b0: r0 = r1 @= 2;", "b0: r0 = r1 @+ 2;", "b0: r0 = 1@x;",
		"b0: r0 = add@", "b0: r0 = add @;", "b0: r0 = add @,", "b0: r0 = add @add", "b0: r0 = add @b0", "b0: r0 = add 1@", "b0: r0 = add 1 @2;", "b0: r0 = add 1 @;", "b0: r0 = add 1@;", "b0: r0 = add 1,@", "b0: r0 = add 1, @;", "b0: r0 = add 1, @,", "b0: r0 = add 1, @c0;", "b0: r0 = add 1, @r1001;", "b0: r0 = add 1, 2@", "b0: r0 = add 1, 2 @, 3;", "b0: r0 = add 1, r2 @}",
		"b0: r0 = load@", "b0: r0 = load @[", "b0: r0 = load @a;", "b0: r0 = load @r0;", "b0: r0 = load @c0[", "b0: r0 = load @a1001[1];", "b0: r0 = load @a01[1];", "b0: r0 = load @0[1];", "b0: r0 = load a0@", "b0: r0 = load a0 @;", "b0: r0 = load a0 @(", "b0: r0 = load a0[@", "b0: r0 = load a0[@]", "b0: r0 = load a0[@a0]", "b0: r0 = load a0[@x]", "b0: r0 = load a0[1@", "b0: r0 = load a0[1 @;", "b0: r0 = load a0[1@, 2]", "b0: r0 = load a0[1]@", "b0: r0 = load a0[1] @= 2;", "b0: r0 = load a0[1] @[2];",
		"b0: r0 = get@", "b0: r0 = get @;", "b0: r0 = get @c;", "b0: r0 = get @r0;", "b0: r0 = get @a0;", "b0: r0 = get @0;", "b0: r0 = get @c1001;", "b0: r0 = get @c00;", "b0: r0 = get c0@", "b0: r0 = get c0 @[", "b0: r0 = get c0 @= 1;",
		"b0: @check1, 2;", "b0: check@", "b0: check @;", "b0: check @,", "b0: check @x", "b0: check 1@", "b0: check 1 @;", "b0: check 1 @2;", "b0: check 1, @;", "b0: check 1, 2@", "b0: check 1, 2 @, 3;", "b0: check 1, 2 @}",
		"b0: store@", "b0: store @;", "b0: store @c0", "b0: store @r0", "b0: store @a1001[", "b0: store a0@", "b0: store a0 @= 1;", "b0: store a0[@", "b0: store a0[@]", "b0: store a0[1@;", "b0: store a0[1]@", "b0: store a0[1] @;", "b0: store a0[1] @, 2;", "b0: store a0[1] @2;", "b0: store a0[1] =@", "b0: store a0[1] = @;", "b0: store a0[1] = @add 1, 2;", "b0: store a0[1] = 2@", "b0: store a0[1] = 2 @, 3;", "b0: @load a0[1];", "b0: @get c0;", "b0: @phi;", "b0: @add 1, 2;",
		"b0: put@", "b0: put @;", "b0: put @a0", "b0: put @r0 = 1;", "b0: put @c1001 = 1;", "b0: put c0@", "b0: put c0 @;", "b0: put c0 @1;", "b0: put c0 =@", "b0: put c0 = @;", "b0: put c0 = @c0;", "b0: put c0 = @add 1, 2;", "b0: put c0 = 1@", "b0: put c0 = 1 @, 2;", "b0: print@", "b0: print @;", "b0: print @x;", "b0: print @c0;", "b0: print @print", "b0: print 1@", "b0: print 1 @2;", "b0: print 1 @, 2;", "b0: print @add 1, 2;",
		"b0: call@", "b0: call @;", "b0: call @5", "b0: call @(", "b0: call @abcdefghijklmnopq();", "b0: call f@", "b0: call f @;", "b0: call f @[", "b0: call f @1", "b0: call f(@", "b0: call f(@,", "b0: call f(@]", "b0: call f(@a0)", "b0: call f(@x)", "b0: call f(1@", "b0: call f(1 @2)", "b0: call f(1@]", "b0: call f(1,@", "b0: call f(1,@)", "b0: call f(1,@;", "b0: call f(1, @a0)", "b0: call f(1, @,", "b0: call f(;@", "b0: call f(;@)", "b0: call f(; @;", "b0: call f(; @,", "b0: call f(; @r0)", "b0: call f(; @1)", "b0: call f(; @a1001)", "b0: call f(1; @)", "b0: call f(1; a0@", "b0: call f(1; a0 @;", "b0: call f(1; a0 @a1)", "b0: call f(1; a0,@)", "b0: call f(1; a0, @r1)", "b0: call f(1; a0, a1 @; a2)", "b0: call f()@", "b0: call f() @= 1;", "b0: call f() @()", "b0: call f() @}", "b0: r0 = call@", "b0: r0 = call @(", "b0: r0 = call f @;", "b0: r0 = call f() @, 1;",
		"b0: r0 = phi@", "b0: r0 = phi @,", "b0: r0 = phi @r0;", "b0: r0 = phi @:", "b0: r0 = phi @1;", "b0: r0 = phi @b;", "b0: r0 = phi @b1001: 1;", "b0: r0 = phi @b00: 1;", "b0: r0 = phi @}", "b0: r0 = phi b0@", "b0: r0 = phi b0 @;", "b0: r0 = phi b0 @1", "b0: r0 = phi b0 @,", "b0: r0 = phi b0:@", "b0: r0 = phi b0: @;", "b0: r0 = phi b0: @b1", "b0: r0 = phi b0: @,", "b0: r0 = phi b0: 1@", "b0: r0 = phi b0: 1 @b1: 2;", "b0: r0 = phi b0: 1 @: 2;", "b0: r0 = phi b0: 1,@", "b0: r0 = phi b0: 1, @;", "b0: r0 = phi b0: 1, @2;", "b0: r0 = phi b0: 1, @,", "b0: r0 = phi b0: 1, b1 @, 2;",
		"b0: jump@", "b0: jump @;", "b0: jump @1;", "b0: jump @r1;", "b0: jump @x;", "b0: jump @b1001;", "b0: jump @b01;", "b0: jump b1@", "b0: jump b1 @, b2;", "b0: jump b1 @}", "b0: jump b1@:", "b0: branch@", "b0: branch @;", "b0: branch @b1, b2;", "b0: branch @x", "b0: branch 1@", "b0: branch 1 @b1;", "b0: branch 1 @;", "b0: branch 1,@", "b0: branch 1, @;", "b0: branch 1, @r1", "b0: branch 1, @2", "b0: branch 1, b1@", "b0: branch 1, b1 @;", "b0: branch 1, b1 @b2", "b0: branch 1, b1, @;", "b0: branch 1, b1, @1;", "b0: branch 1, b1, b2@", "b0: branch 1, b1, b2 @, b3;", "b0: return@", "b0: return @}", "b0: return @,", "b0: return @1;", "b0: return @r0;", "b0: return @-1;", "b0: return @x;", "b0: trap@", "b0: trap @}", "b0: trap @1;", "b0: trap @trap;",
	} {
		refuseAt(t, "main f; func f params 0 regs 1 { "+s, api.ErrForm)
		if !strings.Contains(s, "return") {
			refuseAt(t, "main f; func f params 0 regs 1 result { "+s, api.ErrForm)
		}
	}
	for _, s := range []string{"return @;", "return@", "return @x;", "return @return", "return @b0;", "return 1@", "return 1 @2;", "return 1 @, 2;", "return r0 @}", "return @01;", "return @r1001;"} {
		refuseAt(t, "main f; func f params 0 regs 1 result { b0: "+s, api.ErrForm)
	}
}

// P8.2: a text that ends too early has its number of bytes as the place, whatever blanks stand at its end.
func TestEndsEarly(t *testing.T) {
	for at := range whole {
		s := strings.TrimRight(whole[:at], "abcdefghijklmnopqrstuvwxyz0123456789-")
		if end := strings.TrimSpace(s); strings.HasSuffix(end, "}") || strings.HasSuffix(end, "main m;") {
			continue // a module by the grammar
		}
		for _, behind := range []string{"", " ", "\n\t ", "# x", "#\n"} {
			refuse(t, s+behind, len(s+behind), api.ErrForm)
		}
	}
	refuse(t, "", 0, api.ErrForm)
	refuse(t, " \n", 2, api.ErrForm)
	refuse(t, "# main f;", 9, api.ErrForm)
	refuse(t, "main f; func f params 0 regs 0 { b0: trap; #}", 45, api.ErrForm)
}

// P8.2: numbers up to 1000 are read, whatever is valid.
func TestNumbers(t *testing.T) {
	for _, c := range []struct {
		text string
		want api.Errno
	}{
		{"array a[N]; main f; func f params 0 regs 0 { b0: trap; }", api.ErrArg},
		{"main f; func f params N regs 0 { b0: trap; }", api.ErrArg},
		{"main f; func f params 0 regs N { b0: trap; }", api.ErrLong},
		{"main f; func f params 0 regs 0 { local[N]; b0: trap; }", api.ErrArg},
		{"main f; func f params 0 regs 0 { param[N]; b0: trap; }", api.ErrArg},
		{"main f; func f params 0 regs 0 { b0: rN = 1; trap; }", api.ErrArg},
		{"main f; func f params 0 regs 0 { b0: print rN; trap; }", api.ErrArg},
		{"main f; func f params 0 regs 0 { b0: jump bN; }", api.ErrArg},
		{"main f; func f params 0 regs 0 { b0: branch 1, bN, b0; }", api.ErrArg},
		{"main f; func f params 0 regs 0 { b0: branch 1, b0, bN; }", api.ErrArg},
		{"main f; func f params 0 regs 0 { b0: put cN = 1; trap; }", api.ErrArg},
		{"main f; func f params 0 regs 1 { b0: r0 = get cN; trap; }", api.ErrArg},
		{"main f; func f params 0 regs 0 { b0: store aN[1] = 1; trap; }", api.ErrArg},
		{"main f; func f params 0 regs 0 { b0: call f(; aN); trap; }", api.ErrArg},
		{"main f; func f params 0 regs 1 { b0: trap; b1: r0 = phi bN: 1; trap; }", api.ErrArg},
	} {
		at := strings.Index(c.text, "N")
		word := at
		for strings.IndexByte("rabc", c.text[word-1]) >= 0 {
			word--
		}
		for n, want := range map[string]api.Errno{"1000": c.want, "999": c.want, "1001": api.ErrForm, "01000": api.ErrForm, "2000": api.ErrForm, "00": api.ErrForm, "18446744073709551616": api.ErrForm, "-1": api.ErrForm} {
			place := 0
			if want == api.ErrForm {
				place = word
			}
			refuse(t, strings.Replace(c.text, "N", n, 1), place, want)
		}
	}
}

// P8.2: blocks are numbered from 0 on, in each function.
func TestBlockNumbers(t *testing.T) {
	blocks := func(n int) string {
		s := ""
		for i := range n {
			s += "b" + strconv.Itoa(i) + ":trap;"
		}
		return s
	}
	m := read(t, "main f; func f params 0 regs 0 {"+blocks(60)+"} func g params 0 regs 0 {"+blocks(12)+"}")
	if len(m.Funcs[0].Blocks) != 60 || len(m.Funcs[1].Blocks) != 12 {
		t.Error("blocks")
	}
	head := "main f; func f params 0 regs 0 {"
	refuse(t, head+blocks(61)+"}", 0, api.ErrLong)
	refuse(t, head+blocks(1001)+"}", 0, api.ErrLong)
	refuseAt(t, head+blocks(1001)+"@b1001:trap;}", api.ErrForm)
	refuseAt(t, head+blocks(3)+"@b4:trap;}", api.ErrForm)
	refuseAt(t, head+blocks(3)+"} func g params 0 regs 0 { @b3:trap;}", api.ErrForm)
	refuseAt(t, head+blocks(3)+"} func g params 0 regs 0 { @b1:trap;}", api.ErrForm)
}

// P8.2: names that are declared twice come after wrong tokens, and before those that are not declared.
func TestTwice(t *testing.T) {
	const f = "func f params 0 regs 0 { b0: trap; }"
	for _, s := range []string{
		"cell c = 1; cell @c = 2; main f; " + f,
		"cell c = 1; cell d = 2; cell e = 3; cell @d = 2; cell c = 5; main f; " + f,
		"cell c = 1; cell @c = 2; cell c = 2; main f; " + f,
		"array a[1]; array @a[2] small; main f; " + f,
		"main f; " + f + " func @f params 1 regs 1 result { b0: return 1; }",
		"main f; " + f + " func g params 0 regs 0 { b0: trap; } func @g params 1 regs 1 result { b0: return 1; } " + f,
		"cell c = 1; array a[1]; array @a[2]; main f; " + f + f,
		"cell c = 1; cell @c = 1; array a[1]; array a[2]; main f; " + f + f,
		"main g; " + f + " func @f params 0 regs 0 { b0: trap; }",
		"main f; func f params 0 regs 0 { global x; b0: call y(); trap; } func @f params 0 regs 0 { b0: trap; }",
		"array a[0]; array @a[99]; main f; func f params 100 regs 1000 { }",
	} {
		refuseAt(t, s, api.ErrTwice)
	}
	refuseAt(t, "cell c = 1; cell c = 2; main f; "+f+" @;", api.ErrForm)
	read(t, "cell f = 1; array f[1]; main f; func f params 0 regs 0 { global f; b0: trap; }")
}

// P8.2: names that are used and not declared, of which the first one counts.
func TestNone(t *testing.T) {
	const f = "func f params 0 regs 0 { b0: trap; }"
	for _, s := range []string{
		"main @f;",
		"main @g; " + f,
		"cell g = 1; array g[1]; main @g; " + f,
		"main @g; func f params 0 regs 0 { b0: call h(); trap; }",
		"main f; func f params 0 regs 0 { b0: call @h(); trap; }",
		"main f; func f params 0 regs 1 { b0: r0 = call @h(1; a0); call i(); trap; }",
		"main f; func f params 0 regs 0 { global @x; b0: trap; }",
		"cell x = 1; main f; func f params 0 regs 0 { global @x; b0: trap; }",
		"array y[1]; main f; func f params 0 regs 0 { global y; global @f; b0: trap; }",
		"array y[1]; main f; func f params 0 regs 0 { global y; b0: call @y(); trap; }",
		"array y[1]; main f; func f params 0 regs 0 { global @x; b0: call g(); trap; }",
		"array y[1]; main f; func f params 0 regs 0 { global y; b0: call f(); call @F(); trap; } func g params 0 regs 0 { global x; b0: trap; }",
		"main f; func f params 100 regs 1000 { local[0]; local[1000]; b0: call @h(); trap; }",
	} {
		refuseAt(t, s, api.ErrNone)
	}
	refuseAt(t, "main g; "+f+" @;", api.ErrForm)
	refuse(t, "main g; "+f+" func", 49, api.ErrForm)
	m := read(t, "array x[1]; array y[1]; main g; func f params 0 regs 0 { global y; b0: call h(); trap; } func g params 0 regs 0 { global y; global x; b0: call f(); call h(); trap; } func h params 0 regs 0 { b0: trap; }")
	if m.Main != 1 || m.Funcs[0].Blocks[0].Code[0].Func != 2 || m.Funcs[1].Blocks[0].Code[0].Func != 0 || m.Funcs[1].Blocks[0].Code[1].Func != 2 || m.Funcs[0].Arrays[0].Global != 1 || m.Funcs[1].Arrays[0].Global != 1 || m.Funcs[1].Arrays[1].Global != 0 {
		t.Errorf("%+v", m)
	}
}

// P8.2: errors of Check come last, with the place 0.
func TestReadsWrongModules(t *testing.T) {
	const f = "main f; func f params 0 regs 0 { b0: trap; }"
	for s, want := range map[string]api.Errno{
		"main f; func f params 0 regs 0 { }":                     api.ErrArg,
		"main f; func f params 1 regs 1 { b0: trap; }":           api.ErrArg,
		"main f; func f params 0 regs 0 result { b0: trap; }":    api.ErrArg,
		"main f; func f params 0 regs 0 { param[1]; b0: trap; }": api.ErrArg,
		"array a[0]; " + f:  api.ErrArg,
		"array a[17]; " + f: api.ErrArg,
		"array a[1]; main f; func f params 0 regs 0 { global a; global a; b0: trap; }":        api.ErrArg,
		f + " func g params 9 regs 9 { b0: trap; }":                                           api.ErrArg,
		f + " func g params 2 regs 1 { b0: trap; }":                                           api.ErrArg,
		f + " func g params 9 regs 301 { b0: trap; }":                                         api.ErrLong,
		"main f; func f params 0 regs 0 { b0: jump b0; }":                                     api.ErrArg,
		"main f; func f params 0 regs 0 { b0: jump b1; }":                                     api.ErrArg,
		"main f; func f params 0 regs 0 { b0: call f(); trap; }":                              api.ErrArg,
		"main f; func f params 0 regs 0 { " + strings.Repeat("local[1];", 21) + "b0: trap; }": api.ErrLong,
		"main f; func f params 0 regs 0 { b0: " + strings.Repeat("print 1;", 401) + "trap; }": api.ErrLong,
	} {
		refuse(t, s, 0, want)
	}
	for prefix, most := range map[string]int{"cell xN = 1; ": 40, "array xN[1]; ": 20} {
		s := ""
		for i := range most + 1 {
			s += strings.Replace(prefix, "N", strconv.Itoa(i), 1)
		}
		refuse(t, s+f, 0, api.ErrLong)
	}
	s := f
	for i := range 19 {
		s += " func g" + strconv.Itoa(i) + " params 0 regs 0 { b0: trap; }"
	}
	read(t, s)
	refuse(t, s+" func h params 0 regs 0 { b0: trap; }", 0, api.ErrLong)
}

// P8.2: texts of 60000 bytes, and longer ones.
func TestLongTexts(t *testing.T) {
	const f = "main f; func f params 0 regs 0 { b0: trap; }"
	read(t, f+strings.Repeat(" ", 60000-len(f)))
	read(t, strings.Repeat("#", 60000-len(f)-1)+"\n"+f)
	refuse(t, f+strings.Repeat(" ", 60001-len(f)), 0, api.ErrLong)
	refuse(t, "x"+strings.Repeat(" ", 60000), 0, api.ErrLong)
	refuse(t, strings.Repeat(" ", 59999)+"x", 59999, api.ErrForm)
	refuse(t, strings.Repeat("x", 60000), 0, api.ErrForm)
	refuse(t, strings.Repeat("x", 60001), 0, api.ErrLong)
	refuse(t, strings.Repeat("-", 60000), 0, api.ErrForm)
	refuse(t, "cell c = "+strings.Repeat("9", 50000), 9, api.ErrForm)
	refuse(t, strings.Repeat("#", 60000), 60000, api.ErrForm)
	refuse(t, strings.Repeat("cell c=1;", 6666), 59994, api.ErrForm)
	refuse(t, strings.Repeat("cell c=1;", 6600)+"main c;", 14, api.ErrTwice)
}
