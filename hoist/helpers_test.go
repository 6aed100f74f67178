package hoist_test

import (
	"cupel/api"
	"cupel/hoist"
	"cupel/samples"
)

var pass = samples.Pass{Number: api.PsHoist, Run: hoist.Run, Faults: []int{api.FtStores, api.FtTrap}, Model: modelRun, Steps: enough}

// enough says how many steps P17.2 speaks of.
func enough(before int) int { return 100*before + 100 }

// row is a samples.Row whose fields need no names.
type row struct{ What, Head, Before, After, Made string }

// same is a row of a function that stays as it is.
func same(what, head, body string) row { return row{what, head, body, body, ""} }
