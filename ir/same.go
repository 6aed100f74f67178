package ir

import (
	"slices"

	"cupel/api"
)

// Same reports whether all fields of two modules are equal, valid or not.
func Same(a, b api.Module) bool {
	return a.Main == b.Main && slices.Equal(a.Cells, b.Cells) && slices.Equal(a.Arrays, b.Arrays) && slices.EqualFunc(a.Funcs, b.Funcs, sameFuncs)
}

func sameFuncs(a, b api.IFunc) bool {
	return a.Name == b.Name && a.Params == b.Params && a.Regs == b.Regs && a.Result == b.Result &&
		slices.Equal(a.Arrays, b.Arrays) && slices.EqualFunc(a.Blocks, b.Blocks, sameBlocks)
}

func sameBlocks(a, b api.Block) bool {
	return a.End == b.End && slices.EqualFunc(a.Code, b.Code, sameInstrs)
}

func sameInstrs(a, b api.Instr) bool {
	return a.Op == b.Op && a.Kind == b.Kind && a.To == b.To && a.A == b.A && a.B == b.B &&
		a.Array == b.Array && a.Cell == b.Cell && a.Func == b.Func &&
		slices.Equal(a.Args, b.Args) && slices.Equal(a.Arrays, b.Arrays) && slices.Equal(a.From, b.From)
}
