package copies_test

import (
	"fmt"
	"testing"

	"cupel/api"
	"cupel/samples"
)

// P14.1, rule 2: a phi of one operand, besides itself, becomes a copy of it behind the other phis.
func TestPhis(t *testing.T) {
	const two = "b0: branch r0, b1, b2; b1: jump b3; b2: jump b3; b3: "
	const loop = "b0: jump b1; b1: "
	samples.ExpectSoundRows(t, pass, []row{
		{"a single operand", "1 regs 2 result", "b0: jump b1; b1: r1 = phi b0: r0; return r1;", "b0: jump b1; b1: r1 = r0; return r0;", "b1:0/2 b1:end"},
		{"one edge for both ways", "1 regs 2 result", "b0: branch r0, b1, b1; b1: r1 = phi b0: r0; return r1;", "b0: branch r0, b1, b1; b1: r1 = r0; return r0;", "b1:0/2 b1:end"},
		{"equal registers", "1 regs 2 result", two + "r1 = phi b1: r0, b2: r0; return r1;", two + "r1 = r0; return r0;", "b3:0/2 b3:end"},
		{"equal constants", "1 regs 2 result", two + "r1 = phi b1: 0, b2: 0; return r1;", two + "r1 = 0; return 0;", "b3:0/2 b3:end"},
		same("different constants", "1 regs 2 result", two+"r1 = phi b1: 0, b2: 1; return r1;"),
		same("a constant and the register of its number", "1 regs 2 result", two+"r1 = phi b1: 0, b2: r0; return r1;"),
		same("different registers", "2 regs 3 result", two+"r2 = phi b1: r1, b2: r0; return r2;"),
		{"a register defined above", "1 regs 3 result", "b0: r1 = get c0; branch r0, b1, b2; b1: jump b3; b2: jump b3; b3: r2 = phi b1: r1, b2: r1; return r2;", "b0: r1 = get c0; branch r0, b1, b2; b1: jump b3; b2: jump b3; b3: r2 = r1; return r1;", "b3:0/2 b3:end"},
		{"the example", "1 regs 2", loop + "r1 = phi b0: r0, b1: r1; print r1; jump b1;", loop + "r1 = r0; print r0; jump b1;", "b1:0/2 b1:1"},
		{"itself several times", "1 regs 2", loop + "r1 = phi b0: 5, b1: r1, b2: r1; branch r0, b1, b2; b2: print r1; branch r0, b1, b3; b3: return;", loop + "r1 = 5; branch r0, b1, b2; b2: print 5; branch r0, b1, b3; b3: return;", "b1:0/2 b2:0"},
		{"itself first", "1 regs 2", "b0: jump b2; b1: jump b2; b2: r1 = phi b0: r0, b1: r1; branch r1, b1, b3; b3: return;", "b0: jump b2; b1: jump b2; b2: r1 = r0; branch r0, b1, b3; b3: return;", "b2:0/2 b2:end"},
		{"itself before the other one", "1 regs 2", "b0: jump b3; b1: return; b2: jump b3; b3: r1 = phi b0: r0, b2: r1; branch r1, b2, b1;", "b0: jump b3; b1: return; b2: jump b3; b3: r1 = r0; branch r0, b2, b1;", "b3:0/2 b3:end"},
		same("another operand besides itself and one", "1 regs 2", loop+"r1 = phi b0: 5, b1: r1, b2: 6; branch r0, b1, b2; b2: print r1; branch r0, b1, b3; b3: return;"),
		same("two that exchange what is equal", "1 regs 3", loop+"r1 = phi b0: 3, b1: r2; r2 = phi b0: 3, b1: r1; branch r0, b1, b2; b2: print r1; return;"),
		same("a phi that counts", "1 regs 3", loop+"r1 = phi b0: 0, b1: r2; r2 = add r1, 1; branch r0, b1, b2; b2: print r1; return;"),
		same("a block without edges", "0 regs 1", "b0: return; b1: r0 = phi; return;"),
	})
	samples.ExpectSoundRows(t, pass, []row{
		{"behind the others", "1 regs 5", two + "r1 = phi b1: r0, b2: r0; r2 = phi b1: 1, b2: 2; r3 = phi b1: 3, b2: 4; print r2; return;", two + "r2 = phi b1: 1, b2: 2; r3 = phi b1: 3, b2: 4; r1 = r0; print r2; return;", "b3:0/2"},
		{"before what others have become", "1 regs 5", two + "r1 = phi b1: r0, b2: r0; r2 = phi b1: 1, b2: 2; r3 = phi b1: 3, b2: 3; r4 = phi b1: 3, b2: 4; print r4; return;", two + "r2 = phi b1: 1, b2: 2; r4 = phi b1: 3, b2: 4; r3 = 3; r1 = r0; print r4; return;", "b3:0/2 b3:1/2"},
		{"the next one is looked at", "1 regs 4", two + "r1 = phi b1: r0, b2: r0; r2 = phi b1: 7, b2: 7; r3 = phi b1: 8, b2: 8; print r1; print r2; print r3; return;", two + "r3 = 8; r2 = 7; r1 = r0; print r0; print 7; print 8; return;", "b3:0/2 b3:0/2 b3:0/2 b3:3 b3:4 b3:5"},
		{"the last one", "1 regs 3", two + "r1 = phi b1: 1, b2: 2; r2 = phi b1: 7, b2: 7; print r2; print r1; return;", two + "r1 = phi b1: 1, b2: 2; r2 = 7; print 7; print r1; return;", "b3:1/2 b3:2"},
		{"another phi of the block reads it", "1 regs 3", loop + "r1 = phi b0: r0, b1: r1; r2 = phi b0: 3, b1: r1; print r2; jump b1;", loop + "r2 = phi b0: 3, b1: r0; r1 = r0; print r2; jump b1;", "b1:0/2 b1:0"},
	})
}

// P14.1, rule 3: equal operations of all kinds; the operands of some may be exchanged.
func TestOperations(t *testing.T) {
	words := []string{"add", "sub", "mul", "div", "rem", "and", "or", "xor", "shl", "shr", "eq", "ne", "lt", "le"}
	turns := map[string]bool{"add": true, "mul": true, "and": true, "or": true, "xor": true, "eq": true, "ne": true}
	const code = "b0: r2 = %s r0, r1; r3 = %s %s; print r2; print r3; return;"
	for _, word := range words {
		made := fmt.Sprintf("b0: r2 = %s r0, r1; r3 = r2; print r2; print r2; return;", word)
		samples.ExpectSoundRows(t, pass, []row{{word, "2 regs 4", fmt.Sprintf(code, word, word, "r0, r1"), made, "b0:1/3 b0:3"}})
		exchanged := fmt.Sprintf(code, word, word, "r1, r0")
		r := row{word + " exchanged", "2 regs 4", exchanged, made, "b0:1/3 b0:3"}
		if turns[word] {
			samples.ExpectSoundRows(t, pass, []row{r})
		} else {
			samples.ExpectSoundRows(t, pass, []row{same(r.What, r.Head, exchanged)})
		}
		if turns[word] || word == "sub" {
			samples.ExpectRows(t, pass, samples.All(api.FtMinus), []row{r})
		} else {
			samples.ExpectRows(t, pass, samples.All(api.FtMinus), []row{same(r.What, r.Head, exchanged)})
		}
		for _, other := range words {
			if other != word {
				samples.ExpectSoundRows(t, pass, []row{same(word+" and "+other, "2 regs 4", fmt.Sprintf(code, word, other, "r0, r1"))})
			}
		}
		for _, pair := range []string{"r0, r0", "r1, r1", "r0, 1", "0, r1"} {
			samples.ExpectSoundRows(t, pass, []row{same("other operands", "2 regs 4", fmt.Sprintf(code, word, word, pair))})
		}
	}
}

// P14.1, rule 3: what is above, and which one of it is the nearest.
func TestNearest(t *testing.T) {
	samples.ExpectSoundRows(t, pass, []row{
		{"constants", "1 regs 4", "b0: r1 = add 2, r0; r2 = add r0, 2; r3 = add 2, 3; print r2; return;", "b0: r1 = add 2, r0; r2 = r1; r3 = add 2, 3; print r1; return;", "b0:1/3 b0:3"},
		{"two constants", "1 regs 4", "b0: r1 = sub 2, 3; r2 = sub 3, 2; r3 = sub 2, 3; print r3; return;", "b0: r1 = sub 2, 3; r2 = sub 3, 2; r3 = r1; print r1; return;", "b0:2/3 b0:3"},
		same("one below", "1 regs 4", "b0: branch r0, b1, b2; b1: r1 = add r0, 2; jump b2; b2: r2 = add r0, 2; print r2; return;"),
		same("one beside", "1 regs 4", "b0: branch r0, b1, b2; b1: r1 = add r0, 2; print r1; return; b2: r2 = add r0, 2; print r2; return;"),
		{"one in a block that dominates", "1 regs 4", "b0: r1 = add r0, 2; branch r0, b1, b2; b1: jump b2; b2: branch r0, b3, b4; b3: r2 = add r0, 2; print r2; return; b4: r3 = add r0, 2; print r3; return;", "b0: r1 = add r0, 2; branch r0, b1, b2; b1: jump b2; b2: branch r0, b3, b4; b3: r2 = r1; print r1; return; b4: r3 = r1; print r1; return;", "b4:0/3 b4:1 b3:0/3 b3:1"},
		{"several", "1 regs 5", "b0: r1 = xor r0, 2; r2 = xor 2, r0; r3 = xor r0, 2; jump b1; b1: r4 = xor 2, r0; print r4; return;", "b0: r1 = xor r0, 2; r2 = r1; r3 = r1; jump b1; b1: r4 = r1; print r1; return;", "b0:1/3 b0:2/3 b1:0/3 b1:1"},
		{"in a loop", "1 regs 4", "b0: r1 = mul r0, r0; jump b1; b1: r2 = mul r0, r0; print r2; branch r2, b1, b2; b2: return;", "b0: r1 = mul r0, r0; jump b1; b1: r2 = r1; print r1; branch r1, b1, b2; b2: return;", "b1:0/3 b1:1 b1:end"},
		{"the first one of the same block is not above itself", "1 regs 3", "b0: jump b1; b1: r1 = mul r0, r0; print r1; branch r1, b1, b2; b2: r2 = mul r0, r0; print r2; return;", "b0: jump b1; b1: r1 = mul r0, r0; print r1; branch r1, b1, b2; b2: r2 = r1; print r1; return;", "b2:0/3 b2:1"},
	})
}
