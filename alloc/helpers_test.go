package alloc_test

import (
	"fmt"
	"slices"
	"strings"
	"testing"

	"cupel/alloc"
	"cupel/api"
	"cupel/choose"
	"cupel/samples"
	"cupel/target"
)

const (
	least    = -1 << 63
	greatest = 1<<63 - 1
	most     = 6 // registers of the machine that virtual registers may get
)

// own are the faults of this layer.
func own() []int { return []int{api.FtAlloc1, api.FtAlloc2, api.FtAlloc3} }

// faultLists returns all lists of the faults of this layer, the one without any first.
func faultLists() [][]int { return samples.Pass{Faults: own()}.FaultLists() }

// read returns the virtual code of a text, which has to be valid.
func read(t *testing.T, text string) api.VCode {
	t.Helper()
	v := samples.ReadVirtual(t, text)
	if e := choose.Check(v); e != api.OK {
		t.Fatalf("%.3000s\nis not valid (%d)", text, e)
	}
	return v
}

// made returns the virtual code of a module without phis.
func made(t *testing.T, m api.Module) api.VCode {
	t.Helper()
	v, e := choose.Make(m, samples.All())
	if e != api.OK {
		t.Fatalf("%s\nMake: error %d", samples.Text(m), e)
	}
	return v
}

// spansOf returns what Spans does for valid virtual code.
func spansOf(t *testing.T, v api.VCode, f int, faults ...int) []api.VSpan {
	t.Helper()
	list, e := alloc.Spans(v, f, samples.All(faults...))
	if e != api.OK {
		t.Fatalf("%s\nSpans of %d with %v: error %d", samples.VirtualText(v), f, faults, e)
	}
	return list
}

// spilledOf returns what Spilled does for valid virtual code.
func spilledOf(t *testing.T, v api.VCode, f, k int, faults ...int) []int {
	t.Helper()
	list, e := alloc.Spilled(v, f, k, samples.All(faults...))
	if e != api.OK {
		t.Fatalf("%s\nSpilled of %d, %d with %v: error %d", samples.VirtualText(v), f, k, faults, e)
	}
	return list
}

// imageOf returns the image of valid virtual code, which has to be valid.
func imageOf(t *testing.T, v api.VCode, k int, faults ...int) api.Image {
	t.Helper()
	i, e := alloc.Alloc(v, k, samples.All(faults...))
	if e != api.OK {
		t.Fatalf("%.5000s\nAlloc with %d, %v: error %d", samples.VirtualText(v), k, faults, e)
	}
	if e := target.Check(i); e != api.OK {
		t.Fatalf("%.5000s\nAlloc with %d, %v: not valid (%d): %+v", samples.VirtualText(v), k, faults, e, i)
	}
	return i
}

// textOf writes a valid image.
func textOf(i api.Image) string {
	s, _ := target.Print(i)
	return strings.TrimSpace(strings.ReplaceAll(s, "\n", " "))
}

func sameImage(a, b api.Image) bool {
	return slices.Equal(a.Code, b.Code) && slices.Equal(a.Data, b.Data) && a.Entry == b.Entry
}

// showSpans writes spans as rows of tests have them.
func showSpans(list []api.VSpan) string {
	var words []string
	for _, s := range list {
		words = append(words, fmt.Sprintf("r%d:%d-%d", s.Reg, s.From, s.To))
	}
	return strings.Join(words, " ")
}

// showRegisters writes registers as rows of tests have them.
func showRegisters(list []int) string {
	var words []string
	for _, r := range list {
		words = append(words, fmt.Sprint("r", r))
	}
	return strings.Join(words, " ")
}

// inFunc is virtual code of a function with these blocks and the registers r0 to r9, which may call another one.
func inFunc(blocks string) string {
	return "words 3; data 5; main 0; func args 0 regs 10 locals { b0: " + blocks + " } func args 4 regs 0 locals { b0: return; }"
}

// otherLimits are those of which nothing matters in this layer: any Most, and the faults of others.
func otherLimits() []api.Limit {
	var others []int
	for fault := 1; fault <= api.MaxFaults; fault++ {
		if !slices.Contains(own(), fault) {
			others = append(others, fault)
		}
	}
	return []api.Limit{{}, {Most: 1}, {Most: -1}, {Most: -2}, {Most: least}, {Most: greatest}, {Most: 5, Faults: others}, {Most: -1, Faults: []int{}}, {Most: -1, Faults: others[3:5]}}
}
