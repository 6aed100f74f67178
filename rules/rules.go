// Package rules has nothing but tests: of the rules of the document for errors, memory, empty lists and state, for functions of several layers.
package rules
