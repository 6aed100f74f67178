package target_test

import (
	"math"
	"slices"
	"strings"
	"testing"

	"cupel/api"
	"cupel/target"
)

// whole has every operation in it, and is canonical.
const whole = `entry 2;
data -1;
data 9223372036854775807;
move r0, r9;
set r1, -2147483648;
set r1, 2147483647;
wide r2, -9223372036854775808;
wide r2, 9223372036854775807;
load r3, -2147483648(r4);
store 2147483647(r5), r6;
jump 0;
jump 20000;
zero r7, 20000;
check r8, r9;
checki r0, -1;
print r1;
call 0;
return;
trap;
halt;
add r1, r2, r3;
sub r1, r2, r3;
mul r1, r2, r3;
div r1, r2, r3;
rem r1, r2, r3;
and r1, r2, r3;
or r1, r2, r3;
xor r1, r2, r3;
shl r1, r2, r3;
shr r1, r2, r3;
eq r1, r2, r3;
ne r1, r2, r3;
lt r1, r2, r3;
le r1, r2, r3;
addi r4, r5, 6;
subi r4, r5, -6;
muli r4, r5, 0;
divi r4, r5, 6;
remi r4, r5, 6;
andi r4, r5, 6;
ori r4, r5, 6;
xori r4, r5, 6;
shli r4, r5, 6;
shri r4, r5, 6;
eqi r4, r5, 6;
nei r4, r5, 6;
lti r4, r5, 2147483647;
lei r4, r5, -2147483648;
`

func refuse(t *testing.T, text string, place int, want api.Errno) {
	t.Helper()
	i, at, e := target.Parse(text)
	if at != place || e != want || !sameImage(i, api.Image{}) {
		t.Errorf("Parse(%.200q): %d at %d, want %d at %d", text, e, at, want, place)
	}
}

// refuseAt expects ErrForm at the place of the mark @, which is left out of the text.
func refuseAt(t *testing.T, marked string) {
	t.Helper()
	place := strings.Index(marked, "@")
	refuse(t, marked[:place]+marked[place+1:], place, api.ErrForm)
}

// P20.4: what instructions say.
func TestReads(t *testing.T) {
	for text, want := range map[string]api.MInstr{
		"move r0, r9;":                      {Op: api.MoMove, D: 0, A: 9},
		"set r1, -2147483648;":              {Op: api.MoSet, D: 1, Imm: math.MinInt32},
		"set r1, 2147483647;":               {Op: api.MoSet, D: 1, Imm: math.MaxInt32},
		"wide r2, 0;":                       {Op: api.MoWide, D: 2},
		"wide r2, -9223372036854775808;":    {Op: api.MoWide, D: 2, Imm: math.MinInt64},
		"wide r2, 9223372036854775807;":     {Op: api.MoWide, D: 2, Imm: math.MaxInt64},
		"load r3, -5(r4);":                  {Op: api.MoLoad, D: 3, A: 4, Imm: -5},
		"store 6(r5), r7;":                  {Op: api.MoStore, A: 5, B: 7, Imm: 6},
		"jump 20000;":                       {Op: api.MoJump, Imm: 20000},
		"call 0;":                           {Op: api.MoCall},
		"zero r7, 8;":                       {Op: api.MoZero, A: 7, Imm: 8},
		"check r8, r9;":                     {Op: api.MoCheck, A: 8, B: 9},
		"checki r8, -9;":                    {Op: api.MoCheckI, A: 8, Imm: -9},
		"print r1;":                         {Op: api.MoPrint, A: 1},
		"return;":                           {Op: api.MoReturn},
		"trap;":                             {Op: api.MoTrap},
		"halt;":                             {Op: api.MoHalt},
		"add r1, r2, r3;":                   {Op: 16, D: 1, A: 2, B: 3},
		"sub r1, r2, r3;":                   {Op: 17, D: 1, A: 2, B: 3},
		"mul r1, r2, r3;":                   {Op: 18, D: 1, A: 2, B: 3},
		"div r1, r2, r3;":                   {Op: 19, D: 1, A: 2, B: 3},
		"rem r1, r2, r3;":                   {Op: 20, D: 1, A: 2, B: 3},
		"and r1, r2, r3;":                   {Op: 21, D: 1, A: 2, B: 3},
		"or r1, r2, r3;":                    {Op: 22, D: 1, A: 2, B: 3},
		"xor r1, r2, r3;":                   {Op: 23, D: 1, A: 2, B: 3},
		"shl r1, r2, r3;":                   {Op: 24, D: 1, A: 2, B: 3},
		"shr r1, r2, r3;":                   {Op: 25, D: 1, A: 2, B: 3},
		"eq r1, r2, r3;":                    {Op: 26, D: 1, A: 2, B: 3},
		"ne r1, r2, r3;":                    {Op: 27, D: 1, A: 2, B: 3},
		"lt r1, r2, r3;":                    {Op: 28, D: 1, A: 2, B: 3},
		"le r1, r2, r3;":                    {Op: 29, D: 1, A: 2, B: 3},
		"addi r4, r5, 6;":                   {Op: 36, D: 4, A: 5, Imm: 6},
		"subi r4, r5, -6;":                  {Op: 37, D: 4, A: 5, Imm: -6},
		"muli r4, r5, 6;":                   {Op: 38, D: 4, A: 5, Imm: 6},
		"divi r4, r5, 6;":                   {Op: 39, D: 4, A: 5, Imm: 6},
		"remi r4, r5, 6;":                   {Op: 40, D: 4, A: 5, Imm: 6},
		"andi r4, r5, 6;":                   {Op: 41, D: 4, A: 5, Imm: 6},
		"ori r4, r5, 6;":                    {Op: 42, D: 4, A: 5, Imm: 6},
		"xori r4, r5, 6;":                   {Op: 43, D: 4, A: 5, Imm: 6},
		"shli r4, r5, 6;":                   {Op: 44, D: 4, A: 5, Imm: 6},
		"shri r4, r5, 6;":                   {Op: 45, D: 4, A: 5, Imm: 6},
		"eqi r4, r5, 6;":                    {Op: 46, D: 4, A: 5, Imm: 6},
		"nei r4, r5, 6;":                    {Op: 47, D: 4, A: 5, Imm: 6},
		"lti r4, r5, 6;":                    {Op: 48, D: 4, A: 5, Imm: 6},
		"lei r4, r5, 6;":                    {Op: 49, D: 4, A: 5, Imm: 6},
		"load\tr3\r,\n-5 # (\n ( #\nr4 ) ;": {Op: api.MoLoad, D: 3, A: 4, Imm: -5},
		"store-6(r5),r7;":                   {Op: api.MoStore, A: 5, B: 7, Imm: -6},
		"jump 7;":                           {Op: api.MoJump, Imm: 7},
		"set r1,-2;":                        {Op: api.MoSet, D: 1, Imm: -2},
	} {
		i := read(t, "entry 0;"+text)
		if !slices.Equal(i.Code, modelWords(want)) || i.Entry != 0 || len(i.Data) > 0 {
			t.Errorf("Parse(%q): %x, want %x", text, i, modelWords(want))
		}
	}
}

// P20.4: the entry and the data; no instruction is needed.
func TestReadsHeads(t *testing.T) {
	for text, want := range map[string]api.Image{
		"entry 0;":           {},
		" \t\r\nentry 0 ; #": {},
		"entry#\n0;":         {},
		"entry 0;data 5;data -9223372036854775808;data 9223372036854775807;data 0;": {Data: []int64{5, math.MinInt64, math.MaxInt64, 0}},
		"entry 1;halt;":           {Code: []uint64{14}, Entry: 1},
		"entry 2;wide r1,-1;":     {Code: []uint64{0x103, math.MaxUint64}, Entry: 2},
		"entry 0;data 1;halt;":    {Code: []uint64{14}, Data: []int64{1}},
		"entry 1;data-1;halt;#;;": {Code: []uint64{14}, Data: []int64{-1}, Entry: 1},
	} {
		if i := read(t, text); !sameImage(i, want) {
			t.Errorf("Parse(%q): %+v, want %+v", text, i, want)
		}
	}
	read(t, "entry 20000;"+strings.Repeat("halt;", 20000))
}

// P20.4: tokens with which nothing goes on.
func TestWrongTokens(t *testing.T) {
	for _, s := range []string{
		"@", " @", "#@", "@entri 0;", "@entry0;", "@Entry 0;", "@;", "@0;", "@data 1;", "@halt;", "@(", "@!",
		"entry@", "entry @;", "entry @-1;", "entry @20001;", "entry @20000000000;", "entry @99999999999999999999;", "entry @-0;", "entry @00;", "entry @01;", "entry @r0;", "entry @halt;", "entry @-;", "entry @_;", "entry 0@", "entry 0 @1;", "entry 0@,", "entry 0 @data 1;", "entry 0@.", "entry 0 @halt;",
		"entry 0; @0", "entry 0; @entry 0;", "entry 0;@;", "entry 0; @fly;", "entry 0; @Halt;", "entry 0; @HALT;", "entry 0; @ha_lt;", "entry 0; @haLt;", "entry 0; halt@_;", "entry 0; @r0", "entry 0; @()", "entry 0; @-1", "entry 0; add@", "entry 0; @\"", "entry 0; @\x00", "entry 0; @\xe9", "entry 0; @/", "entry 0; @:",
		"entry 0; data@", "entry 0; data @;", "entry 0; data @r1;", "entry 0; data @9223372036854775808;", "entry 0; data @-9223372036854775809;", "entry 0; data @-0;", "entry 0; data 1@", "entry 0; data 1@,", "entry 0; data 1 @data", "entry 0; data 1; halt; @data 1;", "entry 0; data 1; @entry",
		"entry 0; move@", "entry 0; move @;", "entry 0; move @1", "entry 0; move @r;", "entry 0; move @r10,", "entry 0; move @r00,", "entry 0; move @r01,", "entry 0; move @r0x,", "entry 0; move @s0,", "entry 0; move @x,", "entry 0; move r1@", "entry 0; move r1@;", "entry 0; move r1 @r2;", "entry 0; move r1,@", "entry 0; move r1, @;", "entry 0; move r1, @5;", "entry 0; move r1, @r10;", "entry 0; move r1, r2@", "entry 0; move r1, r2@,", "entry 0; move r1, r2 @r3",
		"entry 0; set @1", "entry 0; set r0, @r1;", "entry 0; set r0, @2147483648;", "entry 0; set r0, @-2147483649;", "entry 0; set r0, @-0;", "entry 0; set r0, @007;", "entry 0; set r0, 1@(", "entry 0; set r0, @(", "entry 0; set r0, 1@,",
		"entry 0; wide r0, @9223372036854775808;", "entry 0; wide r0, @-9223372036854775809;", "entry 0; wide r0, @r1;", "entry 0; wide r0@;",
		"entry 0; load @0(r1)", "entry 0; load r0, @r1;", "entry 0; load r0, 1@;", "entry 0; load r0, 1@,", "entry 0; load r0, 1(@1", "entry 0; load r0, 1(@r10)", "entry 0; load r0, 1(r1@;", "entry 0; load r0, 1(r1@,", "entry 0; load r0, 1(r1)@)", "entry 0; load r0, 1(r1)@,", "entry 0; load r0, @2147483648(r1);", "entry 0; load r0, @-2147483649(r1);", "entry 0; load r0, 1(@);", "entry 0; load r0, @(r1);", "entry 0; load r0, 1(r1)@", "entry 0; load r0, 1(r1@", "entry 0; load r0, 1(@", "entry 0; load r0, 1@", "entry 0; load r0,@",
		"entry 0; store @r1", "entry 0; store @(r1)", "entry 0; store 1@,", "entry 0; store 1(r1)@;", "entry 0; store 1(r1), @1;", "entry 0; store 1(r1), @r10;", "entry 0; store 1(r1), r2@,", "entry 0; store @2147483648(r1), r2;", "entry 0; store @-2147483649(r1), r2;", "entry 0; store 1(r1), @1(r2)", "entry 0; store 1(r1) @r2;",
		"entry 0; jump @-1;", "entry 0; jump @20001;", "entry 0; jump @r1;", "entry 0; jump @;", "entry 0; jump 1@,", "entry 0; jump 1@(", "entry 0; call @20001;", "entry 0; call @-1;", "entry 0; call @;", "entry 0; call @r1;",
		"entry 0; zero @1", "entry 0; zero r1@;", "entry 0; zero r1, @r2;", "entry 0; zero r1, @20001;", "entry 0; zero r1, @-1;", "entry 0; zero r1, 1@,",
		"entry 0; check r1, @1;", "entry 0; check r1@;", "entry 0; check r1, r2@,", "entry 0; checki r1, @r1;", "entry 0; checki r1, @2147483648;", "entry 0; checki r1, @-2147483649;", "entry 0; print @1;", "entry 0; print @;", "entry 0; print r1@,",
		"entry 0; halt @r1;", "entry 0; halt @1;", "entry 0; halt@,", "entry 0; halt @halt;", "entry 0; return @r1;", "entry 0; return @0;", "entry 0; trap @1;", "entry 0; trap@(",
		"entry 0; add r0, r1@;", "entry 0; add r0, r1, @1;", "entry 0; add r0@;", "entry 0; add r0, @1", "entry 0; add r0, r1, r2@,", "entry 0; addi r0, r1@;", "entry 0; addi r0, r1, @r2;", "entry 0; addi r0, @1", "entry 0; addi r0, r1, @2147483648;", "entry 0; addi r0, r1, @-2147483649;", "entry 0; addi r0, r1, 2@,", "entry 0; lei r0, r1, @2147483648;", "entry 0; le r0, r1, @-1;", "entry 0; @ge r0, r1, r2;", "entry 0; @gti r0, r1, 2;", "entry 0; @movei r0, 1;", "entry 0; @checkii r0, 1;", "entry 0; @addii r0, r1, 1;", "entry 0; @halti;",
	} {
		refuseAt(t, s)
	}
}

// P20.4: each token of a text left out, there twice, or another one; places are those that the model finds.
func TestOtherTokens(t *testing.T) {
	var list []string
	for at := 0; ; {
		token, from := tokenAt(whole, at)
		if token == "" {
			break
		}
		list = append(list, token)
		at = from + len(token)
	}
	others := strings.Fields("r0 r9 r10 r01 r rx 0 1 -1 -0 01 20000 20001 -2147483648 -2147483649 2147483647 2147483648 9223372036854775807 9223372036854775808 -9223372036854775808 , ; ( ) , ; ( ) move set wide load store jump halt add lei entry data x X _ - . # #\n é")
	r := random(6)
	right := 0
	for range 12_000 {
		from := r.IntN(len(list))
		tokens := slices.Clone(list[max(0, from-6):min(len(list), from+9)])
		at := r.IntN(len(tokens))
		switch other := others[r.IntN(len(others))]; r.IntN(3) {
		case 0:
			tokens[at] = other
		case 1:
			tokens = slices.Insert(tokens, at, other)
		default:
			tokens = slices.Delete(tokens, at, at+1)
		}
		text := "entry 0;" + strings.Join(tokens, []string{" ", "", "\n", "#\n"}[r.IntN(4)])
		if first := strings.IndexByte(text[8:], ';'); first >= 0 && r.IntN(4) > 0 {
			text = text[:8] + text[8+first+1:] // most begin with a line
		}
		right += expectModel(t, text)
	}
	if right < 100 {
		t.Errorf("%d texts are right", right)
	}
}

// P20.4: bytes of a text changed, and texts cut off anywhere.
func TestOtherBytes(t *testing.T) {
	r := random(7)
	parts := strings.Fields("r r0 r9 r10 0 1 -1 - 20000 20001 2147483647 2147483648 , ; ( ) a x i entry data halt # #\n _ A é \x00")
	right := 0
	for range 12_000 {
		at := r.IntN(len(whole))
		from := strings.LastIndexByte(whole[:at], '\n') + 1
		text := "entry 0; data 5;\n" + whole[from:min(len(whole), from+90)]
		for range 1 + r.IntN(2) {
			at := r.IntN(len(text))
			part := parts[r.IntN(len(parts))]
			text = text[:at] + []string{"", part, " ", " " + part + " "}[r.IntN(4)] + text[min(len(text), at+r.IntN(3)):]
		}
		right += expectModel(t, text[:len(text)-r.IntN(2)*r.IntN(len(text))])
	}
	if right < 100 {
		t.Errorf("%d texts are right", right)
	}
}

// expectModel expects what the model says of a text; it returns 1 if that has an image.
func expectModel(t *testing.T, text string) int {
	t.Helper()
	want, place, right := modelParse(text)
	if !right {
		refuse(t, text, place, api.ErrForm)
		return 0
	}
	if e := modelCheck(want); e != api.OK {
		refuse(t, text, 0, e)
		return 0
	}
	if i := read(t, text); !sameImage(i, want) {
		t.Fatalf("Parse(%q): %+v, want %+v", text, i, want)
	}
	return 1
}

// P20.4: a text that ends too early has its number of bytes as the place, whatever blanks stand at its end.
func TestEndsEarly(t *testing.T) {
	for at := range whole {
		s := strings.TrimRight(whole[:at], "abcdefghijklmnopqrstuvwxyz0123456789-")
		if strings.HasSuffix(strings.TrimSpace(s), ";") {
			continue // an image by the grammar
		}
		for _, behind := range []string{"", " ", "\n\t ", "# x", "#\n"} {
			refuse(t, s+behind, len(s+behind), api.ErrForm)
		}
	}
	refuse(t, "entry 0; halt #;", 16, api.ErrForm)
}

// P20.4: errors of Check come last, with the place 0.
func TestReadsWrongImages(t *testing.T) {
	const halts, wides = 20001, 10001
	for _, c := range []struct {
		text string
		want api.Errno
	}{
		{"entry 1;", api.ErrArg},
		{"entry 20000; halt;", api.ErrArg},
		{"entry 3; wide r0, 0;", api.ErrArg},
		{"entry 0;" + strings.Repeat("halt;", halts), api.ErrLong},
		{"entry 20000;" + strings.Repeat("halt;", halts), api.ErrLong},
		{"entry 0;" + strings.Repeat("wide r1,2;", wides), api.ErrLong},
		{"entry 0; halt;" + strings.Repeat("wide r1,2;", 10000), api.ErrLong},
		{"entry 1;" + strings.Repeat("data 1;", 20001), api.ErrLong},
	} {
		refuse(t, c.text, 0, c.want)
		refuse(t, c.text+"@", len(c.text), api.ErrForm)
	}
	read(t, "entry 20000;"+strings.Repeat("wide r1,2;", 10000))
	read(t, "entry 20000;"+strings.Repeat("data 1;", 20000)+strings.Repeat("halt;", 20000))
}

// P20.4: texts of 600000 bytes, and longer ones.
func TestLongTexts(t *testing.T) {
	const f = "entry 0; halt;"
	read(t, f+strings.Repeat(" ", 600000-len(f)))
	read(t, strings.Repeat("#", 600000-len(f)-1)+"\n"+f)
	refuse(t, f+strings.Repeat(" ", 600001-len(f)), 0, api.ErrLong)
	refuse(t, "x"+strings.Repeat(" ", 600000), 0, api.ErrLong)
	refuse(t, strings.Repeat(" ", 599999)+"x", 599999, api.ErrForm)
	refuse(t, strings.Repeat("x", 600000), 0, api.ErrForm)
	refuse(t, strings.Repeat("x", 600001), 0, api.ErrLong)
	refuse(t, strings.Repeat("#", 600000), 600000, api.ErrForm)
	refuse(t, "entry "+strings.Repeat("9", 500000), 6, api.ErrForm)
	refuse(t, "entry 0;"+strings.Repeat("halt;", 119998), 0, api.ErrLong)
	refuse(t, "entry 0;"+strings.Repeat("halt;", 119998)+";;", 599998, api.ErrForm)
}
