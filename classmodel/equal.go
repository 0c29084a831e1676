package classmodel

import (
	"armature/api"
	"slices"
)

// Equal reports whether all parts of two class models are equal; nil and empty lists are equal.
func Equal(a, b api.ClassModel) bool {
	return a.Flags == b.Flags && a.Name == b.Name && a.Super == b.Super && a.Source == b.Source &&
		slices.Equal(a.Interfaces, b.Interfaces) && slices.Equal(a.Fields, b.Fields) &&
		slices.EqualFunc(a.Methods, b.Methods, equalMethods)
}

func equalMethods(a, b api.Method) bool {
	return a.Flags == b.Flags && a.Name == b.Name && a.Desc == b.Desc && a.HasCode == b.HasCode &&
		slices.Equal(a.Exceptions, b.Exceptions) && equalCode(a.Code, b.Code)
}

func equalCode(a, b api.Code) bool {
	return a.Stack == b.Stack && a.Locals == b.Locals && slices.Equal(a.Handlers, b.Handlers) && slices.Equal(a.Lines, b.Lines) &&
		slices.EqualFunc(a.Insns, b.Insns, equalInsns) && slices.EqualFunc(a.StackMaps, b.StackMaps, equalMaps)
}

func equalInsns(a, b api.Insn) bool {
	return a.Op == b.Op && a.A == b.A && a.B == b.B && a.To == b.To && a.Ref == b.Ref && a.S == b.S &&
		slices.Equal(a.Keys, b.Keys) && slices.Equal(a.Tos, b.Tos)
}

func equalMaps(a, b api.StackMap) bool {
	return a.Index == b.Index && a.Frame.Uninit == b.Frame.Uninit &&
		slices.Equal(a.Frame.Locals, b.Frame.Locals) && slices.Equal(a.Frame.Stack, b.Frame.Stack)
}
