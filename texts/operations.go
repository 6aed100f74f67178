package texts

import "cupel/api"

var operations = [...]string{
	api.IbAdd: "add",
	api.IbSub: "sub",
	api.IbMul: "mul",
	api.IbDiv: "div",
	api.IbRem: "rem",
	api.IbAnd: "and",
	api.IbOr:  "or",
	api.IbXor: "xor",
	api.IbShl: "shl",
	api.IbShr: "shr",
	api.IbEq:  "eq",
	api.IbNe:  "ne",
	api.IbLt:  "lt",
	api.IbLe:  "le",
}

// IsOperation reports whether there is an operation of a kind, from api.IbAdd to api.IbLe.
func IsOperation(kind int) bool { return kind >= api.IbAdd && kind <= api.IbLe }

// Operation returns the word of an operation.
func Operation(kind int) string { return operations[kind] }
