package objectops

import (
	"armature/access"
	"armature/api"
	"armature/classinit"
	"armature/classspace"
	"armature/desc"
	"armature/field"
	"armature/heap"
	"armature/layout"
	"armature/load"
	"armature/rtype"
	"slices"
)

// resolve resolves the field in the instruction.
func (r *run) resolve(static bool) (api.MemberRef, api.Errno) {
	w, f, e := field.Resolve(r.m.Space, r.top.Class, r.insn.Ref, static)
	r.m.Space = w
	return f, e
}

// ensure starts the initialization of a class unless the thread may use it.
func (r *run) ensure(c int) api.Errno {
	m, ready, e := classinit.Ensure(r.m, r.t, c)
	r.m = m
	r.later = !ready
	return e
}

func (r *run) static() (api.Value, api.Errno) {
	f, e := r.resolve(true)
	if e != api.OK {
		return api.Value{}, e
	}
	if e := r.ensure(f.Class); e != api.OK || r.later {
		return api.Value{}, e
	}
	slot, _ := layout.SlotIndex(r.m.Space, f.Class, f)
	statics := r.m.Init[f.Class].Statics
	if r.insn.Op == api.GetStatic {
		return statics[slot], api.OK
	}
	r.m.Init = slices.Clone(r.m.Init)
	r.m.Init[f.Class].Statics = slices.Clone(statics)
	r.m.Init[f.Class].Statics[slot] = r.operands[0]
	return api.Value{}, api.OK
}

func (r *run) field() (api.Value, api.Errno) {
	f, e := r.resolve(false)
	if e != api.OK {
		return api.Value{}, e
	}
	n := r.operands[0].N
	if n == 0 {
		return api.Value{}, api.ErrNullPointer
	}
	o, _ := heap.Object(r.m, n)
	if o.Kind != api.ObjInstance || !classspace.IsSubtype(r.m.Space, o.Type.Class, f.Class) {
		return api.Value{}, api.ErrClassCast
	}
	slot, _ := layout.SlotIndex(r.m.Space, o.Type.Class, f)
	if r.insn.Op == api.GetField {
		return heap.Get(r.m, n, slot)
	}
	r.m, e = heap.Set(r.m, n, slot, r.operands[1])
	return api.Value{}, e
}

// keep takes over the outcome of an allocation.
func (r *run) keep(m api.Machine, n int, e api.Errno) (api.Value, api.Errno) {
	if e != api.OK {
		return api.Value{}, e
	}
	r.m = m
	return api.Value{Kind: api.KRef, N: n}, api.OK
}

func (r *run) create() (api.Value, api.Errno) {
	w, c, e := load.Load(r.m.Space, r.loader(), r.insn.Ref.Class)
	r.m.Space = w
	if e != api.OK {
		return api.Value{}, e
	}
	if !access.CanAccessClass(r.m.Space, r.top.Class, c) {
		return api.Value{}, api.ErrIllegalAccess
	}
	if e := r.ensure(c); e != api.OK || r.later {
		return api.Value{}, e
	}
	return r.keep(heap.NewObject(r.m, c))
}

func (r *run) createArray() (api.Value, api.Errno) {
	t, _ := desc.Parse(r.insn.S)
	w, element, e := rtype.Resolve(r.m.Space, r.loader(), t)
	r.m.Space = w
	if e != api.OK {
		return api.Value{}, e
	}
	return r.keep(heap.NewArray(r.m, element, r.operands[0].N))
}

func (r *run) test() (api.Value, api.Errno) {
	t, _ := desc.ParseClassConstant(r.insn.Ref.Class)
	w, want, e := rtype.Resolve(r.m.Space, r.loader(), t)
	r.m.Space = w
	if e != api.OK {
		return api.Value{}, e
	}
	v := r.operands[0]
	conforms := heap.Conforms(r.m, v, want)
	if r.insn.Op == api.CheckCast {
		if !conforms {
			return api.Value{}, api.ErrClassCast
		}
		return v, api.OK
	}
	if v.N != 0 && conforms {
		return api.Value{Kind: api.KInt, N: 1}, api.OK
	}
	return api.Value{Kind: api.KInt}, api.OK
}

func (r *run) array() (api.Value, api.Errno) {
	n := r.operands[0].N
	if n == 0 {
		return api.Value{}, api.ErrNullPointer
	}
	o, _ := heap.Object(r.m, n)
	element, _ := rtype.Element(o.Type)
	length := r.insn.Op == api.ArrayLength
	if o.Kind != api.ObjArray || !length && rtype.Kind(element) != elementKind(r.insn.Op) {
		return api.Value{}, api.ErrClassCast
	}
	if length {
		return api.Value{Kind: api.KInt, N: len(o.Values)}, api.OK
	}
	at := r.operands[1].N
	if at < 0 || at >= len(o.Values) {
		return api.Value{}, api.ErrIndexOutOfBounds
	}
	if r.insn.Op <= api.AALoad {
		return heap.Get(r.m, n, at)
	}
	if r.insn.Op == api.AAStore && !heap.Conforms(r.m, r.operands[2], element) {
		return api.Value{}, api.ErrArrayStore
	}
	m, e := heap.Set(r.m, n, at, r.operands[2])
	r.m = m
	return api.Value{}, e
}
