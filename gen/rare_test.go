package gen_test

import "cupel/api"

// tooLarge are plans of which the first program is too large: as it is made, or by its guards.
var tooLarge = []api.Plan{
	{Seed: 994099, Funcs: 4, Stmts: 40, Depth: 4},
	{Seed: 994874, Funcs: 4, Stmts: 40, Depth: 4},
	{Seed: 1003972, Funcs: 2, Stmts: 40, Depth: 4},
	{Seed: 1020731, Funcs: 1, Stmts: 40, Depth: 4},
	{Seed: 995243, Funcs: 3, Stmts: 40, Depth: 4},
	{Seed: 997369, Funcs: 4, Stmts: 40, Depth: 4},
	{Seed: 1007843, Funcs: 3, Stmts: 40, Depth: 4},
	{Seed: 1008275, Funcs: 0, Stmts: 40, Depth: 4},
	{Seed: 1008617, Funcs: 2, Stmts: 40, Depth: 4},
}

// sharing are plans in which a call has two arrays of one type, or lacks the second one.
var sharing = []api.Plan{
	{Seed: 16732, Funcs: 1, Stmts: 40, Depth: 1},
	{Seed: 17664, Funcs: 1, Stmts: 40, Depth: 0},
	{Seed: 21606, Funcs: 3, Stmts: 40, Depth: 1},
	{Seed: 33324, Funcs: 1, Stmts: 40, Depth: 0},
	{Seed: 39943, Funcs: 4, Stmts: 40, Depth: 1},
	{Seed: 54412, Funcs: 1, Stmts: 40, Depth: 1},
	{Seed: 66783, Funcs: 4, Stmts: 40, Depth: 0},
	{Seed: 117653, Funcs: 2, Stmts: 40, Depth: 1},
	{Seed: 163772, Funcs: 1, Stmts: 40, Depth: 2},
	{Seed: 234721, Funcs: 2, Stmts: 40, Depth: 0},
	{Seed: 17258, Funcs: 3, Stmts: 40, Depth: 0},
	{Seed: 17882, Funcs: 3, Stmts: 40, Depth: 0},
	{Seed: 17984, Funcs: 1, Stmts: 40, Depth: 2},
}
