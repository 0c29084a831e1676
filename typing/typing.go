// Package typing holds the effects of instructions on frames for a method that has been checked once.
// Layers 20, 21 and 23 apply many instructions of one method, so the check of the whole class is not repeated for each.
package typing

import (
	"armature/api"
	"armature/classmodel"
	"armature/desc"
	"armature/hier"
	"armature/vtype"
	"slices"
)

const (
	root      = "lang/Object"
	throwable = "lang/Throwable"
	text      = "lang/String"
)

// Method is a method with code, in a valid hierarchy and class.
type Method struct {
	Classes []api.ClassInfo
	Model   api.ClassModel
	Code    api.Code
	flags   int
	name    string
	sig     api.Sig
}

// New checks a method context.
func New(w api.MethodContext) (*Method, api.Errno) {
	if _, e := hier.Check(w.Classes); e != api.OK {
		return nil, e
	}
	if e := classmodel.Check(w.Model); e != api.OK {
		return nil, e
	}
	if w.Method < 0 || w.Method >= len(w.Model.Methods) || !w.Model.Methods[w.Method].HasCode {
		return nil, api.ErrBadArgument
	}
	if _, ok := hier.Lookup(w.Classes, w.Model.Name); !ok {
		return nil, api.ErrNoClass
	}
	m := w.Model.Methods[w.Method]
	g, _ := desc.ParseSignature(m.Desc)
	return &Method{Classes: w.Classes, Model: w.Model, Code: m.Code, flags: m.Flags, name: m.Name, sig: g}, api.OK
}

func class(s string) api.VType {
	return api.VType{Kind: api.VRef, Type: api.Type{Base: 'L', Name: s}}
}

// Initial returns the frame before the first instruction.
func (m *Method) Initial() api.Frame {
	var f api.Frame
	if m.flags&api.Static == 0 {
		this := class(m.Model.Name)
		if m.name == "<init>" && m.Model.Name != root {
			this.Kind = api.VUninitializedThis
			f.Uninit = true
		}
		f.Locals = append(f.Locals, this)
	}
	for _, p := range m.sig.Params {
		f.Locals = append(f.Locals, vtype.FromType(p))
	}
	for len(f.Locals) < m.Code.Locals {
		f.Locals = append(f.Locals, api.VType{})
	}
	return f
}

// Suits reports whether a frame has the shape that the code requires.
func (m *Method) Suits(f api.Frame) bool {
	wrong := func(v api.VType) bool { return !vtype.Valid(v) }
	return len(f.Locals) == m.Code.Locals && len(f.Stack) <= m.Code.Stack &&
		!slices.ContainsFunc(f.Locals, wrong) && !slices.ContainsFunc(f.Stack, wrong)
}

// HandlerFrame returns the frame at an existing handler, for a frame that suits.
func (m *Method) HandlerFrame(f api.Frame, row int) (api.Frame, api.Errno) {
	caught := m.Code.Handlers[row].Type
	if caught == "" {
		caught = throwable
	}
	if !hier.IsSubclass(m.Classes, caught, throwable) {
		return api.Frame{}, api.ErrTypeMismatch
	}
	if m.Code.Stack == 0 {
		return api.Frame{}, api.ErrStackHeight
	}
	return api.Frame{Locals: f.Locals, Stack: []api.VType{class(caught)}, Uninit: f.Uninit}, api.OK
}

// Apply returns the frame after an existing instruction, for a frame that suits.
func (m *Method) Apply(f api.Frame, at int) (api.Frame, api.Errno) {
	s := state{Method: m, locals: slices.Clone(f.Locals), uninit: f.Uninit, at: at}
	s.stack = append(make([]api.VType, 0, len(f.Stack)+1), f.Stack...)
	s.run(m.Code.Insns[at])
	if s.e != api.OK {
		return api.Frame{}, s.e
	}
	return api.Frame{Locals: s.locals, Stack: s.stack, Uninit: s.uninit}, api.OK
}
