package target_test

import (
	"math"
	"math/big"
	"regexp"
	"strconv"
	"strings"

	"cupel/api"
)

// table has the operations of the chapter with the tokens of their texts: D, A and B are registers; S is Imm in S32, W any Imm, and J an ADDRESS.
const table = `
1 move D , A ;
2 set D , S ;
3 wide D , W ;
4 load D , S ( A ) ;
5 store S ( A ) , B ;
6 jump J ;
7 zero A , J ;
8 check A , B ;
9 checki A , S ;
10 print A ;
11 call J ;
12 return ;
13 trap ;
14 halt ;
16 add D , A , B ;
17 sub D , A , B ;
18 mul D , A , B ;
19 div D , A , B ;
20 rem D , A , B ;
21 and D , A , B ;
22 or D , A , B ;
23 xor D , A , B ;
24 shl D , A , B ;
25 shr D , A , B ;
26 eq D , A , B ;
27 ne D , A , B ;
28 lt D , A , B ;
29 le D , A , B ;
36 addi D , A , S ;
37 subi D , A , S ;
38 muli D , A , S ;
39 divi D , A , S ;
40 remi D , A , S ;
41 andi D , A , S ;
42 ori D , A , S ;
43 xori D , A , S ;
44 shli D , A , S ;
45 shri D , A , S ;
46 eqi D , A , S ;
47 nei D , A , S ;
48 lti D , A , S ;
49 lei D , A , S ;
`

// row is an operation with the tokens that follow its word.
type row struct {
	op     int
	word   string
	tokens []string
}

// rows returns those of the table, by their Ops.
func rows() map[int]row {
	all := map[int]row{}
	for _, line := range strings.Split(strings.TrimSpace(table), "\n") {
		tokens := strings.Fields(line)
		op, _ := strconv.Atoi(tokens[0])
		all[op] = row{op, tokens[1], tokens[2:]}
	}
	return all
}

var byOp = rows()

// rowOf returns the row with a word.
func rowOf(word string) (row, bool) {
	for _, r := range byOp {
		if r.word == word {
			return r, true
		}
	}
	return row{}, false
}

// isAllowed reports whether a field may have a value, by its letter in the table.
func isAllowed(letter string, value int64) bool {
	switch letter {
	case "D", "A", "B":
		return value >= 0 && value <= 9
	case "S":
		return value >= -2147483648 && value <= 2147483647
	case "J":
		return value >= 0 && value <= 20000
	}
	return letter == "W"
}

// fieldsOf returns the values of the fields that a table may name, S, W and J being Imm.
func fieldsOf(x api.MInstr) map[string]int64 {
	return map[string]int64{"D": int64(x.D), "A": int64(x.A), "B": int64(x.B), "S": x.Imm, "W": x.Imm, "J": x.Imm}
}

// modelValid says what Valid has to say.
func modelValid(x api.MInstr) bool {
	r := byOp[x.Op]
	if r.word == "" {
		return false
	}
	left := x
	left.Op = 0
	for _, t := range r.tokens {
		value, field := fieldsOf(x)[t]
		if field && !isAllowed(t, value) {
			return false
		}
		set(&left, t, 0)
	}
	return left == api.MInstr{}
}

// set sets the field that a letter names, if it names one.
func set(x *api.MInstr, letter string, value int64) {
	switch letter {
	case "D":
		x.D = int(value)
	case "A":
		x.A = int(value)
	case "B":
		x.B = int(value)
	case "S", "W", "J":
		x.Imm = value
	}
}

// modelWords returns the words of a valid instruction, by sums of products.
func modelWords(x api.MInstr) []uint64 {
	word := uint64(x.Op) + uint64(x.D)*256 + uint64(x.A)*4096 + uint64(x.B)*65536
	if x.Op == 3 {
		return []uint64{word, modulo(x.Imm, 64)}
	}
	return []uint64{word + modulo(x.Imm, 32)*4294967296}
}

// modulo returns the rest of a division by a power of 2, which is never negative.
func modulo(v int64, bits uint) uint64 {
	return new(big.Int).Mod(big.NewInt(v), new(big.Int).Lsh(big.NewInt(1), bits)).Uint64()
}

// modelDecode looks for an instruction that has a word, or two, as its words: it tries all registers, and the numbers that the highest bits, or the second word, may stand for.
func modelDecode(code []uint64, at int) (api.MInstr, int, api.Errno) {
	if at < 0 || at >= len(code) {
		return api.MInstr{}, 0, api.ErrArg
	}
	r := byOp[int(code[at]%256)]
	rest := code[at] / 256
	x := api.MInstr{Op: r.op, D: int(rest % 16), A: int(rest / 16 % 16), B: int(rest / 256 % 16)}
	numbers := []int64{int64(code[at] / 4294967296), int64(code[at]/4294967296) - 4294967296}
	if at+1 < len(code) {
		numbers = append(numbers, int64(code[at+1]))
	}
	for _, imm := range numbers {
		x.Imm = imm
		if !modelValid(x) {
			continue
		}
		if w := modelWords(x); at+len(w) <= len(code) && w[0] == code[at] && w[len(w)-1] == code[at+len(w)-1] {
			return x, at + len(w), api.OK
		}
	}
	return api.MInstr{}, 0, api.ErrForm
}

// modelCheck says what Check has to say.
func modelCheck(i api.Image) api.Errno {
	switch {
	case len(i.Code) > 20000 || len(i.Data) > 20000:
		return api.ErrLong
	case i.Entry < 0 || i.Entry > len(i.Code):
		return api.ErrArg
	}
	for at := 0; at < len(i.Code); {
		_, next, e := modelDecode(i.Code, at)
		if e != api.OK {
			return e
		}
		at = next
	}
	return api.OK
}

// modelLine returns the line of a valid instruction in a canonical text.
func modelLine(x api.MInstr) string {
	r := byOp[x.Op]
	line := r.word + " "
	for _, t := range r.tokens {
		switch value := fieldsOf(x)[t]; t {
		case "D", "A", "B":
			line += "r" + strconv.FormatInt(value, 10)
		case "S", "W", "J":
			line += strconv.FormatInt(value, 10)
		case ",":
			line += ", "
		default:
			line += t
		}
	}
	return strings.Replace(line, " ;", ";", 1) + "\n"
}

// modelText returns the canonical text of an image of instructions.
func modelText(entry int, data []int64, l []api.MInstr) string {
	text := "entry " + strconv.Itoa(entry) + ";\n"
	for _, d := range data {
		text += "data " + strconv.FormatInt(d, 10) + ";\n"
	}
	for _, x := range l {
		text += modelLine(x)
	}
	return text
}

var (
	blanks   = regexp.MustCompile(`^(?:[ \t\n\r]|#[^\n]*)*`)
	tokens   = regexp.MustCompile(`^(?:[a-z][a-z0-9]*|-?[0-9]+|[,;()])`)
	integers = regexp.MustCompile(`^(?:0|-?[1-9][0-9]*)$`)
)

// tokenAt returns the first token of a text from a place on, nothing if none begins there, and where it begins.
func tokenAt(text string, at int) (string, int) {
	at += len(blanks.FindString(text[at:]))
	token := tokens.FindString(text[at:])
	if strings.Trim(token, "-0123456789") == "" && !isInteger(token) {
		return "", at
	}
	return token, at
}

func isInteger(token string) bool {
	_, err := strconv.ParseInt(token, 10, 64)
	return err == nil && integers.MatchString(token)
}

// meets reports whether a token is what a row asks for, and puts its value into the field.
func meets(x *api.MInstr, want, token string) bool {
	if len(want) > 1 || strings.Contains(",;()", want) {
		return token == want
	}
	number := token
	if strings.Contains("DAB", want) {
		if !strings.HasPrefix(token, "r") {
			return false
		}
		number = token[1:]
	}
	if !isInteger(number) {
		return false
	}
	value, _ := strconv.ParseInt(number, 10, 64)
	set(x, want, value)
	return isAllowed(want, value)
}

// modelParse reads a text by the rows of the table: its image, the place of a wrong token, and whether it has none.
func modelParse(text string) (i api.Image, place int, right bool) {
	head := []string{"entry", "J", ";"}
	wanted, op, x, data := head, -1, api.MInstr{}, true
	for at := 0; ; {
		token, from := tokenAt(text, at)
		if len(wanted) == 0 { // a new line begins
			if from == len(text) {
				return i, 0, true
			}
			r, known := rowOf(token)
			switch {
			case token == "data" && data:
				wanted, op, x = []string{"W", ";"}, 0, api.MInstr{}
			case known:
				wanted, op, x, data = r.tokens, r.op, api.MInstr{Op: r.op}, false
			default:
				return api.Image{}, from, false
			}
		} else if token == "" || !meets(&x, wanted[0], token) {
			return api.Image{}, from, false
		} else if wanted = wanted[1:]; len(wanted) == 0 {
			switch op {
			case -1:
				i.Entry = int(x.Imm)
			case 0:
				i.Data = append(i.Data, x.Imm)
			default:
				i.Code = append(i.Code, modelWords(x)...)
			}
		}
		at = from + len(token)
	}
}

// extremes are numbers that are the last ones of some range, or the first ones behind it.
func extremes() []int64 {
	return []int64{math.MinInt64, math.MinInt32 - 1, math.MinInt32, -20001, -20000, -2, -1, 0, 1, 7, 9, 10, 15, 16, 255, 19999, 20000, 20001, math.MaxInt32, math.MaxInt32 + 1, math.MaxUint32, math.MaxUint32 + 1, math.MaxInt64}
}
