// Package validity tells which parts of a machine are valid in it (chapter 36).
// Layer 36 defines valid machines with it, and layer 39 uses it to check one new activation without checking the rest again.
package validity

import (
	"armature/api"
	"armature/classspace"
	"armature/layout"
	"armature/rtype"
)

// All reports whether all elements of a list pass a test.
func All[T any](l []T, ok func(T) bool) bool {
	for _, x := range l {
		if !ok(x) {
			return false
		}
	}
	return true
}

// Exists reports whether an object exists.
func Exists(m api.Machine, n int) bool {
	return n >= 1 && n <= len(m.Heap) && m.Heap[n-1].Kind != api.ObjFree
}

// NullOrExists reports whether n is 0 or an object.
func NullOrExists(m api.Machine, n int) bool { return n == 0 || Exists(m, n) }

// Value reports whether a value is valid.
func Value(m api.Machine, v api.Value) bool {
	switch v.Kind {
	case api.KNone:
		return v.N == 0
	case api.KInt:
		return v.N == int(int32(v.N))
	case api.KLong:
		return true
	case api.KRef:
		return NullOrExists(m, v.N)
	}
	return false
}

// Shaped reports whether values are valid and of the kinds of other values.
func Shaped(m api.Machine, l, like []api.Value) bool {
	if len(l) != len(like) {
		return false
	}
	for i, v := range l {
		if v.Kind != like[i].Kind || !Value(m, v) {
			return false
		}
	}
	return true
}

func thread(m api.Machine, t int) bool { return t >= 0 && t < len(m.Threads) }

// Object reports whether the object with number n of a machine is valid in it.
func Object(m api.Machine, n int) bool {
	o := m.Heap[n-1]
	switch o.Kind {
	case api.ObjFree:
		return isZero(o)
	case api.ObjInstance:
		if o.String != "" || !isClass(m, o.Type) || m.Space.Classes[o.Type.Class].Model.Flags&api.Interface != 0 {
			return false
		}
		if !Shaped(m, o.Values, layout.InitialInstance(m.Space, o.Type.Class)) {
			return false
		}
	case api.ObjArray:
		if o.String != "" || !validArray(m, o) {
			return false
		}
	case api.ObjString:
		text, ok := classspace.FindLoaded(m.Space, 0, "lang/String")
		if !ok || o.Type != (api.RuntimeType{Base: 'L', Class: text}) || len(o.Values) > 0 || len(o.String) > api.MaxUTF8 {
			return false
		}
	default:
		return false
	}
	return validMonitor(m, n, o)
}

func isZero(o api.Object) bool {
	return o.Type == (api.RuntimeType{}) && len(o.Values) == 0 && o.String == "" && o.Owner == 0 && o.Count == 0 && len(o.WaitSet) == 0
}

func isClass(m api.Machine, r api.RuntimeType) bool {
	return r.Dim == 0 && r.Base == 'L' && rtype.Valid(m.Space, r)
}

func validArray(m api.Machine, o api.Object) bool {
	element, ok := rtype.Element(o.Type)
	if !ok || !rtype.Valid(m.Space, o.Type) || len(o.Values) > api.MaxArray {
		return false
	}
	kind := rtype.Kind(element)
	return All(o.Values, func(v api.Value) bool { return v.Kind == kind && Value(m, v) })
}

func validMonitor(m api.Machine, n int, o api.Object) bool {
	if o.Owner != 0 && !thread(m, o.Owner-1) || (o.Owner != 0) != (o.Count > 0) || o.Count < 0 {
		return false
	}
	seen := map[int]bool{}
	return All(o.WaitSet, func(t int) bool {
		ok := thread(m, t) && !seen[t] && m.Threads[t].State == api.Waiting && m.Threads[t].Monitor == n
		seen[t] = true
		return ok
	})
}

// Activation reports whether an activation is valid.
func Activation(m api.Machine, a api.Activation) bool {
	if a.Class < 0 || a.Class >= len(m.Space.Classes) || !NullOrExists(m, a.Lock) {
		return false
	}
	if a.Method == -1 || a.Method == -2 {
		return a.IsInit == (a.Method == -1) && a.PC == 0 && len(a.Locals) == 0 && len(a.Stack) == 0
	}
	methods := m.Space.Classes[a.Class].Model.Methods
	if a.Method < 0 || a.Method >= len(methods) || !methods[a.Method].HasCode {
		return false
	}
	c := &methods[a.Method].Code
	value := func(v api.Value) bool { return Value(m, v) }
	return a.PC >= 0 && a.PC < len(c.Insns) && len(a.Locals) == c.Locals && len(a.Stack) <= c.Stack &&
		All(a.Locals, value) && All(a.Stack, func(v api.Value) bool { return v.Kind != api.KNone && Value(m, v) })
}
