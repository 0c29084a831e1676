package program

import (
	"armature/api"
	"slices"
	"strings"
)

// Arithmetic returns the opcode that computes a binary operator for ints, or -1.
func Arithmetic(s string) int {
	i := slices.Index(strings.Fields("+ - * / % << >> >>> & | ^"), s)
	switch {
	case i < 0:
		return -1
	case i >= 5:
		// The negation stands between the two groups.
		i++
	}
	return api.IAdd + i
}

// Comparison returns the place of an operator in the order of the branch opcodes, or -1; its opposite is beside it.
func Comparison(s string) int {
	return slices.Index(strings.Fields("== != < >= > <="), s)
}
