package typing

import (
	"armature/api"
	"armature/vtype"
)

// state is a frame in the course of an instruction; e is the first error.
type state struct {
	*Method
	locals, stack []api.VType
	uninit        bool
	at            int
	e             api.Errno
}

func (s *state) fail(e api.Errno) {
	if s.e == api.OK {
		s.e = e
	}
}

func of(kind int) api.VType { return api.VType{Kind: kind} }

func (s *state) push(v api.VType) {
	if len(s.stack) >= s.Code.Stack {
		s.fail(api.ErrStackHeight)
		return
	}
	s.stack = append(s.stack, v)
}

func (s *state) pushType(t api.Type) {
	if t.Base != 'V' {
		s.push(vtype.FromType(t))
	}
}

func (s *state) pop() api.VType {
	if len(s.stack) == 0 {
		s.fail(api.ErrStackHeight)
		return api.VType{}
	}
	v := s.stack[len(s.stack)-1]
	s.stack = s.stack[:len(s.stack)-1]
	return v
}

// popKinds pops values of the given kinds, the first one first.
func (s *state) popKinds(kinds ...int) {
	for _, k := range kinds {
		if v := s.pop(); v.Kind != k {
			s.fail(api.ErrTypeMismatch)
		}
	}
}

func isRaw(v api.VType) bool {
	return v.Kind == api.VUninitialized || v.Kind == api.VUninitializedThis
}

// popFor pops a value that must be assignable to another type.
func (s *state) popFor(want api.VType) api.VType {
	v := s.pop()
	if want.Kind == api.VRef && isRaw(v) {
		s.fail(api.ErrUninitialized)
	}
	if !vtype.Assignable(s.Classes, v, want) {
		s.fail(api.ErrTypeMismatch)
	}
	return v
}

func (s *state) popObject() api.VType { return s.popFor(class(root)) }

func (s *state) popArguments(l []api.Type) {
	for i := len(l) - 1; i >= 0; i-- {
		s.popFor(vtype.FromType(l[i]))
	}
}

func isReferenceKind(v api.VType) bool {
	return v.Kind == api.VNull || v.Kind == api.VRef || isRaw(v)
}

// load pushes a local variable that passes a test.
func (s *state) load(n int, fits func(api.VType) bool) {
	if !fits(s.locals[n]) {
		s.fail(api.ErrBadLocal)
		return
	}
	s.push(s.locals[n])
}

// store pops a value that passes a test into a local variable.
func (s *state) store(n int, fits func(api.VType) bool) {
	v := s.pop()
	if !fits(v) {
		s.fail(api.ErrTypeMismatch)
		return
	}
	s.locals[n] = v
}

func isKind(kind int) func(api.VType) bool {
	return func(v api.VType) bool { return v.Kind == kind }
}

// replace puts another type in the place of every equal one.
func (s *state) replace(l []api.VType, old, fresh api.VType) {
	for i := range l {
		if l[i] == old {
			l[i] = fresh
		}
	}
}
