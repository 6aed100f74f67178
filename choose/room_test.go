package choose

import (
	"testing"

	"cupel/api"
	"cupel/samples"
)

// P21.3: local arrays for which there is no room are a trap. Valid code has room for all of them, so this one is not.
func TestNoRoom(t *testing.T) {
	for _, c := range []struct {
		words, length, end, code int
	}{
		{0, 19999, api.EnDone, 0}, {1, 19998, api.EnDone, 0}, {0, 20000, api.EnTrap, api.TrMemory}, {1, 19999, api.EnTrap, api.TrMemory}, {19999, 0, api.EnDone, 0}, {20000, 0, api.EnTrap, api.TrMemory},
	} {
		v := samples.ReadVirtual(t, "words 0; data; main 0; func args 0 regs 1 locals { b0: print r0; call 1; return; } func args 0 regs 1 locals 0 1 { b0: local r0, 1; store 0, r0, r0; return; }")
		v.Words, v.Funcs[1].Locals[0] = c.words, c.length
		if b := newRun(&v, 100).behaviour(); len(b.Out) != 1 || b.End != c.end || b.Code != c.code {
			t.Errorf("%d words, and %d: end %d, %d, want %d, %d", c.words, c.length, b.End, b.Code, c.end, c.code)
		}
	}
}
