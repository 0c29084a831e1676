package unwind_test

import (
	"armature/api"
	"armature/builtin"
	"armature/callstack"
	"armature/classspace"
	"armature/heap"
	"armature/sample"
	"armature/unwind"
	"reflect"
	"slices"
	"testing"
)

const listing = `class 1 E extends lang/Throwable
m 1 <init> ()V
class 1 F extends E
m 1 <init> ()V
class 1 MyError extends lang/Error
m 1 <init> ()V
class 1 S extends lang/Object
method 8 <clinit> ()V
code 1 0
nop
return
pop
return
catch 0 2 2 *
end
class 1 D extends S
method 8 <clinit> ()V
code 1 0
nop
return
pop
return
catch 0 2 2 *
end
class 1 T extends lang/Object
method 9 h ()V
code 2 1
nop
nop
nop
return
pop
return
catch 0 2 4 lang/Throwable
end
method 9 one ()V
code 1 0
nop
return
pop
return
catch 0 1 2 *
end
method 9 typed ()V
code 1 0
nop
return
pop
return
pop
return
catch 0 1 2 F
catch 0 1 4 E
catch 0 1 2 Nowhere
end
method 9 flat ()V
code 0 0
nop
return
nop
return
catch 0 2 2 *
end
method 9 plain ()V
code 1 0
nop
return
end`

type bench struct {
	*testing.T
	m api.Machine
}

// newBench has objects 1: E, 2: F, 3: MyError, 4: T, 5: int[], and two threads without activations.
func newBench(t *testing.T) *bench {
	t.Helper()
	m, e := sample.Machine(20, listing)
	if e != api.OK {
		t.Fatal(e)
	}
	b := &bench{t, m}
	for _, s := range []string{"E", "F", "MyError", "T"} {
		if b.m, _, e = heap.NewObject(b.m, b.id(s)); e != api.OK {
			t.Fatal(e)
		}
	}
	b.m, _, e = heap.NewArray(b.m, api.RuntimeType{Base: 'I'}, 0)
	if e != api.OK {
		t.Fatal(e)
	}
	b.m.Threads = make([]api.Thread, 2)
	return b
}

func (b *bench) id(s string) int {
	b.Helper()
	c, ok := classspace.FindLoaded(b.m.Space, 0, s)
	if !ok {
		b.Fatal(s)
	}
	return c
}

// frame is an activation of a method of class T by its index.
func (b *bench) frame(which, pc int) api.Activation {
	code := b.m.Space.Classes[b.id("T")].Model.Methods[which].Code
	return api.Activation{Class: b.id("T"), Method: which, PC: pc, Locals: make([]api.Value, code.Locals)}
}

const (
	handles = iota
	single
	typed
	flat
	plain
)

func (b *bench) with(l ...api.Activation) api.Machine {
	b.Helper()
	m := b.m
	m.Threads = slices.Clone(m.Threads)
	m.Threads[0].Activations = l
	if !heap.Valid(m) {
		b.Fatal("not valid")
	}
	return m
}

func (b *bench) throw(m api.Machine, obj int) api.Machine {
	b.Helper()
	r, e := unwind.Throw(m, 0, obj)
	if e != api.OK || !heap.Valid(r) || !reflect.DeepEqual(r.Threads[1:], m.Threads[1:]) {
		b.Fatal(obj, e)
	}
	return r
}

// caught expects the only reference at a place.
func (b *bench) caught(m api.Machine, frames, pc, obj int) {
	b.Helper()
	top, e := callstack.Top(m, 0)
	if e != api.OK || len(m.Threads[0].Activations) != frames || top.PC != pc || !slices.Equal(top.Stack, []api.Value{{Kind: api.KRef, N: obj}}) {
		b.Error(m.Threads[0], e)
	}
}

func (b *bench) ended(m api.Machine, obj int) {
	b.Helper()
	if x := m.Threads[0]; !reflect.DeepEqual(x, api.Thread{State: api.Terminated, Exception: obj}) {
		b.Error(x)
	}
}

func TestHandlers(t *testing.T) { // P44.1, P44.2, P44.4
	b := newBench(t)
	b.caught(b.throw(b.with(b.frame(handles, 1)), 2), 1, 4, 2)
	b.ended(b.throw(b.with(b.frame(handles, 2)), 2), 2)
	b.caught(b.throw(b.with(b.frame(handles, 2), b.frame(plain, 0)), 1), 1, 4, 1)
	b.ended(b.throw(b.with(b.frame(handles, 3), b.frame(plain, 0)), 1), 1)
	b.caught(b.throw(b.with(b.frame(single, 1), b.frame(plain, 0)), 1), 1, 2, 1)
	b.ended(b.throw(b.with(b.frame(single, 0), b.frame(plain, 0)), 1), 1)
	b.caught(b.throw(b.with(b.frame(typed, 0)), 1), 1, 4, 1)
	b.caught(b.throw(b.with(b.frame(typed, 0)), 2), 1, 2, 2)
	b.ended(b.throw(b.with(b.frame(typed, 0)), 3), 3)
	b.ended(b.throw(b.with(b.frame(flat, 0)), 1), 1)
	b.caught(b.throw(b.with(b.frame(single, 0), api.Activation{Class: 0, Method: -2}), 1), 1, 2, 1)
	for _, x := range []struct {
		which, pc, obj, row int
		ok                  bool
	}{{handles, 1, 1, 0, true}, {handles, 2, 1, 0, false}, {typed, 0, 1, 1, true}, {typed, 0, 2, 0, true}, {flat, 0, 1, 0, false}, {handles, 0, 4, 0, false}, {handles, 0, 5, 0, false}, {handles, 0, 99, 0, false}, {handles, 0, 0, 0, false}} {
		if row, ok := unwind.FindHandler(b.with(b.frame(x.which, x.pc)), 0, x.obj); row != x.row || ok != x.ok {
			t.Error(x, row, ok)
		}
	}
	for _, k := range []int{-1, 1, 2} {
		if row, ok := unwind.FindHandler(b.with(b.frame(handles, 0)), k, 1); row != 0 || ok {
			t.Error(k)
		}
	}
	if _, ok := unwind.FindHandler(b.with(api.Activation{Class: 0, Method: -2}), 0, 1); ok {
		t.Error("a wait frame")
	}
}

func TestLoadingOfTypes(t *testing.T) { // P44.1, P44.2
	m, e := sample.Machine(20, "", "class 1 X extends lang/Object\nmethod 9 f ()V\ncode 1 0\nnop\nreturn\npop\nreturn\ncatch 0 1 2 lang/ArithmeticException\nend")
	if e != api.OK {
		t.Fatal(e)
	}
	c, _ := classspace.FindLoaded(m.Space, 1, "X")
	m.Threads = []api.Thread{{Activations: []api.Activation{{Class: c}}}}
	r, e := unwind.ThrowBuiltin(m, 0, api.ErrDivideByZero)
	if e != api.OK || r.Threads[0].State == api.Terminated || r.Threads[0].Activations[0].PC != 2 {
		t.Error(r.Threads, e)
	}
	if _, ok := classspace.FindLoaded(r.Space, 1, "lang/ArithmeticException"); !ok {
		t.Error("the type of the handler is loaded by the loader of the frame")
	}
	if _, ok := unwind.FindHandler(m, 0, 1); ok {
		t.Error("there is no object")
	}
}

func TestThrowErrors(t *testing.T) { // P44.2, P44.3
	b := newBench(t)
	m := b.with(b.frame(plain, 0))
	blocked := m
	blocked.Threads = slices.Clone(m.Threads)
	blocked.Threads[0].State, blocked.Threads[0].Monitor = api.Blocked, 1
	for k, x := range []struct {
		m      api.Machine
		t, obj int
		e      api.Errno
	}{{m, -1, 0, api.ErrRange}, {m, 2, 1, api.ErrRange}, {m, 1, 0, api.ErrTerminated}, {blocked, 0, 0, api.ErrBlocked}, {m, 0, 0, api.ErrNullPointer}, {m, 0, 9, api.ErrRange}, {m, 0, 4, api.ErrClassCast}, {m, 0, 5, api.ErrClassCast}} {
		if r, e := unwind.Throw(x.m, x.t, x.obj); e != x.e || !reflect.DeepEqual(r, x.m) {
			t.Error(k, e)
		}
		if x.obj > 1 || x.e == api.ErrNullPointer {
			continue
		}
		if r, e := unwind.ThrowBuiltin(x.m, x.t, api.ErrNullPointer); e != x.e || !reflect.DeepEqual(r, x.m) {
			t.Error(k, e)
		}
		if r, e := unwind.ThrowBuiltin(x.m, x.t, api.ErrRange); e != api.ErrBadArgument || !reflect.DeepEqual(r, x.m) {
			t.Error(k, e)
		}
	}
	for e := api.Errno(-2); e < 80; e++ {
		if unwind.HasExceptionClass(e) != (builtin.ExceptionClass(e) != "") {
			t.Error(e)
		}
	}
}

func TestThrowBuiltin(t *testing.T) { // P44.3
	b := newBench(t)
	b.m.MaxObjects = 5
	m := b.with(b.frame(plain, 0))
	r, e := unwind.ThrowBuiltin(m, 0, api.ErrOutOfMemory)
	if e != api.OK || !heap.Valid(r) || heap.Count(r) != 6 || r.MaxObjects != 5 || r.Space.Classes[r.Heap[5].Type.Class].Model.Name != "lang/OutOfMemoryError" || len(r.Init) != 0 {
		t.Fatal(e)
	}
	b.ended(r, 6)
	full := m
	full.Heap = append(slices.Clip(m.Heap), slices.Repeat([]api.Object{m.Heap[4]}, 4995)...)
	if r, e := unwind.ThrowBuiltin(full, 0, api.ErrOutOfMemory); e != api.ErrOutOfMemory || len(r.Heap) != 5000 || r.Threads[0].State != api.Runnable || len(r.Space.Classes) != len(m.Space.Classes) {
		t.Error(e)
	}
	w, _ := sample.Loaded(sample.Root + "\nclass 1 T extends lang/Object\nmethod 9 f ()V\ncode 0 0\nreturn\nend\nclass 1025 lang/LinkageError extends lang/Throwable")
	c, _ := classspace.FindLoaded(w, 0, "T")
	odd := api.Machine{Space: w, MaxObjects: 9, Threads: []api.Thread{{Activations: []api.Activation{{Class: c}}}}}
	for e, want := range map[api.Errno]api.Errno{api.ErrNoClass: api.ErrAbstractMethod, api.ErrNullPointer: api.ErrNoClass} {
		if r, got := unwind.ThrowBuiltin(odd, 0, e); got != want || !reflect.DeepEqual(r, odd) {
			t.Error(e, got)
		}
	}
}

func TestMonitors(t *testing.T) { // P44.2, P44.5
	b := newBench(t)
	b.m.Heap[3].Owner, b.m.Heap[3].Count = 1, 2
	b.m.Heap[4].Owner, b.m.Heap[4].Count = 2, 1
	locked := func(obj int) api.Activation {
		a := b.frame(plain, 0)
		a.Lock = obj
		return a
	}
	r := b.throw(b.with(b.frame(handles, 1), locked(5), locked(4)), 1)
	b.caught(r, 1, 4, 1)
	if r.Heap[3].Count != 1 || r.Heap[4].Owner != 2 || len(r.Heap) != 5 {
		t.Error(r.Heap[3:])
	}
	r = b.throw(b.with(locked(4), locked(4)), 1)
	if r.Heap[3].Owner != 0 {
		t.Error(r.Heap[3])
	}
}

func TestInitializers(t *testing.T) { // P44.2, P44.6
	b := newBench(t)
	s, d := b.id("S"), b.id("D")
	b.m.Init = make([]api.InitRecord, max(s, d)+1)
	b.m.Init[s], b.m.Init[d] = api.InitRecord{State: api.Initializing}, api.InitRecord{State: api.Initializing}
	frame := func(c, pc int) api.Activation { return api.Activation{Class: c, PC: pc, IsInit: true} }
	name := func(m api.Machine, obj int) string { return m.Space.Classes[m.Heap[obj-1].Type.Class].Model.Name }
	b.caught(b.throw(b.with(frame(s, 0)), 1), 1, 2, 1)
	m := b.with(b.frame(single, 0), frame(d, 0), frame(s, 2))
	r := b.throw(m, 1)
	if name(r, 6) != "lang/InitializerError" || r.Init[s].State != api.InitFailed || r.Init[d].State != api.InitFailed || len(r.Heap) != 6 {
		t.Error(r.Init, len(r.Heap))
	}
	b.caught(r, 1, 2, 6)
	r = b.throw(m, 3)
	b.caught(r, 1, 2, 3)
	if r.Init[s].State != api.InitFailed || len(r.Heap) != 5 {
		t.Error(r.Init)
	}
	r = b.throw(b.with(frame(d, 0), b.frame(plain, 0), frame(s, 2)), 1)
	if r.Threads[0].State != api.Terminated || r.Init[d].State != api.InitFailed {
		t.Error("the call at -1 is not covered", r.Threads[0], r.Init[d])
	}
	r = b.throw(b.with(frame(d, 1), b.frame(plain, 0), frame(s, 2)), 1)
	b.caught(r, 1, 2, 6)
	r = b.throw(b.with(frame(d, 2), api.Activation{Class: s, Method: -1, IsInit: true}), 1)
	if r.Threads[0].State != api.Terminated || r.Init[s].State != api.InitFailed {
		t.Error(r.Threads[0])
	}
	b.m.Init[s].Thread = 1
	r = b.throw(b.with(b.frame(single, 0), frame(s, 2)), 1)
	b.caught(r, 1, 2, 1)
	if r.Init[s].State != api.Initializing {
		t.Error("the class is being initialized by another thread")
	}
}
