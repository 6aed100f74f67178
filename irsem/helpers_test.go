package irsem_test

import (
	"fmt"
	"math/rand/v2"
	"slices"
	"testing"

	"cupel/api"
	"cupel/ir"
	"cupel/irsem"
)

func read(t *testing.T, text string) api.Module {
	t.Helper()
	m, at, e := ir.Parse(text)
	if e != api.OK {
		t.Fatalf("Parse(%q): error %d at %d", text, e, at)
	}
	return m
}

func text(m api.Module) string {
	s, _ := ir.Print(m)
	return s
}

// random draws numbers, always the same ones.
func random(seed uint64) *rand.Rand { return rand.New(rand.NewPCG(seed, 10)) }

// run returns what a valid module does.
func run(t *testing.T, m api.Module, steps int) api.Behaviour {
	t.Helper()
	b, e := irsem.Run(m, steps)
	if e != api.OK {
		t.Fatalf("%s\nRun with %d steps: error %d", text(m), steps, e)
	}
	return b
}

// trace returns the blocks that a valid module enters.
func trace(t *testing.T, m api.Module, steps, most int) []api.Visit {
	t.Helper()
	list, e := irsem.Trace(m, steps, most)
	if e != api.OK {
		t.Fatalf("%s\nTrace with %d steps, %d blocks: error %d", text(m), steps, most, e)
	}
	return list
}

func equal(a, b api.Behaviour) bool {
	return slices.Equal(a.Out, b.Out) && a.End == b.End && a.Code == b.Code
}

// Ends of rows, as show writes them.
const (
	done    = "done"
	divide  = "trap 1"
	index   = "trap 2"
	stated  = "trap 3"
	cutOff  = "cut"
	endless = 200 // steps, where a run would go on for ever
)

func show(b api.Behaviour) string {
	how := fmt.Sprintf("end %d %d", b.End, b.Code)
	switch {
	case b.End == api.EnDone && b.Code == 0:
		how = done
	case b.End == api.EnTrap:
		how = fmt.Sprintf("trap %d", b.Code)
	case b.End == api.EnSteps && b.Code == 0:
		how = cutOff
	}
	return fmt.Sprint(b.Out, " ", how)
}
