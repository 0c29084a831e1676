package native_test

import (
	"armature/api"
	"armature/classspace"
	"armature/heap"
	"armature/intern"
	"armature/native"
	"armature/sample"
	"reflect"
	"slices"
	"testing"
)

func v(kind, n int) api.Value { return api.Value{Kind: kind, N: n} }

// example has objects 1: a string ab, 2: a MyThread, 3: a lang/Thread, 4: an int[], 5: an Odd; thread 0 runs, thread 1 has ended.
func example(t *testing.T) api.Machine {
	t.Helper()
	m, e := sample.Machine(20, "class 1 MyThread extends lang/Thread\nm 1 <init> ()V\nm 1 run ()V\nclass 1025 Odd0 extends lang/Thread\nm 1025 run ()V\nclass 1 Odd extends Odd0\nm 1 <init> ()V\nclass 1 T extends lang/Object\nmethod 9 f ()V\ncode 0 0\nreturn\nend")
	if e != api.OK {
		t.Fatal(e)
	}
	id := func(s string) int { c, _ := classspace.FindLoaded(m.Space, 0, s); return c }
	m, _, _ = intern.NewString(m, "a\xfe")
	m, _, _ = heap.NewObject(m, id("MyThread"))
	m, _, _ = heap.NewObject(m, id("lang/Thread"))
	m, _, _ = heap.NewArray(m, api.RuntimeType{Base: 'I'}, 1)
	m, _, _ = heap.NewObject(m, id("Odd"))
	m.Threads = []api.Thread{{Activations: []api.Activation{{Class: id("T")}}}, {State: api.Terminated}}
	if !heap.Valid(m) || len(m.Heap) != 5 {
		t.Fatal("not valid")
	}
	return m
}

func call(m api.Machine, t int, class, name, desc string, args ...api.Value) (api.Machine, api.Value, api.Errno) {
	return native.Call(m, t, class, name, desc, args)
}

func TestExists(t *testing.T) { // P45.1
	for _, x := range [][3]string{{"lang/Object", "wait", "()V"}, {"lang/Object", "notify", "()V"}, {"lang/Object", "notifyAll", "()V"}, {"lang/String", "length", "()I"}, {"lang/String", "at", "(I)I"}, {"lang/Thread", "start", "()V"}, {"lang/Console", "printInt", "(I)V"}, {"lang/Console", "printString", "(Llang/String;)V"}, {"lang/Console", "printLong", "(J)V"}} {
		if !native.Exists(x[0], x[1], x[2]) || native.Exists(x[0], x[1], x[2]+" ") || native.Exists("p/"+x[0], x[1], x[2]) || native.Exists(x[0]+"."+x[1], "", x[2]) {
			t.Error(x)
		}
	}
	if native.Exists("", "", "") || native.Exists("lang/Thread", "run", "()V") || native.Exists("lang/Console", "printInt", "(J)V") {
		t.Error("there is none")
	}
}

func TestChecks(t *testing.T) { // P45.2
	m := example(t)
	for k, x := range []struct {
		t                 int
		class, name, desc string
		args              []api.Value
		e                 api.Errno
	}{
		{-1, "x", "x", "x", nil, api.ErrRange}, {2, "x", "x", "x", nil, api.ErrRange}, {1, "x", "x", "x", nil, api.ErrTerminated}, {0, "x", "x", "x", nil, api.ErrNoNative}, {0, "lang/String", "at", "(I)I", []api.Value{v(3, 0)}, api.ErrTooMany}, {0, "lang/Console", "printInt", "(I)V", nil, api.ErrTooMany}, {0, "lang/String", "at", "(I)I", []api.Value{v(3, 0), v(2, 1)}, api.ErrTypeMismatch}, {0, "lang/String", "at", "(I)I", []api.Value{v(3, 99), v(1, 1)}, api.ErrTypeMismatch}, {0, "lang/Console", "printInt", "(I)V", []api.Value{v(1, 1<<31)}, api.ErrTypeMismatch}, {0, "lang/String", "at", "(I)I", []api.Value{v(3, 0), v(1, 1)}, api.ErrNullPointer}, {0, "lang/Object", "wait", "()V", []api.Value{v(3, 0)}, api.ErrNullPointer},
		{0, "lang/Console", "printString", "(Llang/String;)V", []api.Value{v(3, 0)}, api.ErrNullPointer}, {0, "lang/Console", "printString", "(Llang/String;)V", []api.Value{v(3, 2)}, api.ErrClassCast}, {0, "lang/String", "length", "()I", []api.Value{v(3, 2)}, api.ErrClassCast}, {0, "lang/String", "at", "(I)I", []api.Value{v(3, 1), v(1, 2)}, api.ErrIndexOutOfBounds}, {0, "lang/String", "at", "(I)I", []api.Value{v(3, 1), v(1, -1)}, api.ErrIndexOutOfBounds}, {0, "lang/Object", "wait", "()V", []api.Value{v(3, 2)}, api.ErrMonitorOwner}, {0, "lang/Object", "notifyAll", "()V", []api.Value{v(3, 2)}, api.ErrMonitorOwner}, {0, "lang/Thread", "start", "()V", []api.Value{v(3, 1)}, api.ErrClassCast}, {0, "lang/Thread", "start", "()V", []api.Value{v(3, 4)}, api.ErrClassCast}, {0, "lang/Thread", "start", "()V", []api.Value{v(3, 5)}, api.ErrAbstractMethod},
	} {
		if r, w, e := native.Call(m, x.t, x.class, x.name, x.desc, x.args); e != x.e || w != (api.Value{}) || !reflect.DeepEqual(r, m) {
			t.Error(k, w, e)
		}
	}
}

func TestStringsAndOutput(t *testing.T) { // P45.2, P45.3
	m := example(t)
	if r, w, e := call(m, 0, "lang/String", "length", "()I", v(3, 1)); e != api.OK || w != v(1, 2) || !reflect.DeepEqual(r, m) {
		t.Error(w, e)
	}
	if r, w, e := call(m, 0, "lang/String", "at", "(I)I", v(3, 1), v(1, 1)); e != api.OK || w != v(1, 254) || !reflect.DeepEqual(r, m) {
		t.Error(w, e)
	}
	a, _, e1 := call(m, 0, "lang/Console", "printInt", "(I)V", v(1, -5))
	b, _, e2 := call(a, 0, "lang/Console", "printLong", "(J)V", v(2, -1<<63))
	c, w, e3 := call(b, 0, "lang/Console", "printString", "(Llang/String;)V", v(3, 1))
	if e1 != api.OK || e2 != api.OK || e3 != api.OK || w != (api.Value{}) || !slices.Equal(c.Output, []string{"-5", "-9223372036854775808", "a\xfe"}) || len(m.Output) != 0 {
		t.Error(c.Output, e1, e2, e3)
	}
	d, _, _ := call(b, 0, "lang/Console", "printInt", "(I)V", v(1, 7))
	if c.Output[2] != "a\xfe" || d.Output[2] != "7" {
		t.Error("the lists share their ends")
	}
	c.Output = nil
	if !reflect.DeepEqual(c, m) {
		t.Error("something else has changed")
	}
}

func TestMonitors(t *testing.T) { // P45.2, P45.3
	m := example(t)
	m.Threads = append(m.Threads, m.Threads[0], m.Threads[0])
	m.Heap[1].Owner, m.Heap[1].Count = 1, 1
	a, w, e := call(m, 0, "lang/Object", "wait", "()V", v(3, 2))
	if e != api.OK || w != (api.Value{}) || a.Threads[0].State != api.Waiting || !heap.Valid(a) {
		t.Fatal(e)
	}
	a.Heap[1].Owner, a.Heap[1].Count = 3, 1
	a, _, e = call(a, 2, "lang/Object", "wait", "()V", v(3, 2))
	if e != api.OK || !slices.Equal(a.Heap[1].WaitSet, []int{0, 2}) {
		t.Fatal(e)
	}
	a.Heap[1].Owner, a.Heap[1].Count = 4, 1
	one, _, e := call(a, 3, "lang/Object", "notify", "()V", v(3, 2))
	if e != api.OK || !slices.Equal(one.Heap[1].WaitSet, []int{2}) {
		t.Error(e)
	}
	all, _, e := call(a, 3, "lang/Object", "notifyAll", "()V", v(3, 2))
	if e != api.OK || len(all.Heap[1].WaitSet) != 0 {
		t.Error(e)
	}
}

func TestStart(t *testing.T) { // P45.2, P45.3
	m := example(t)
	r, w, e := call(m, 0, "lang/Thread", "start", "()V", v(3, 2))
	if e != api.OK || w != (api.Value{}) || !heap.Valid(r) || len(r.Threads) != 3 || r.Threads[2].Object != 2 {
		t.Fatal(e)
	}
	top := r.Threads[2].Activations[0]
	if x := r.Space.Classes[top.Class].Model; x.Name != "MyThread" || x.Methods[top.Method].Name != "run" || top.Locals[0] != v(3, 2) {
		t.Error(top)
	}
	if s, _, e := call(r, 0, "lang/Thread", "start", "()V", v(3, 2)); e != api.ErrMonitorOwner || !reflect.DeepEqual(s, r) {
		t.Error(e)
	}
	r, _, e = call(r, 0, "lang/Thread", "start", "()V", v(3, 3))
	if e != api.OK || r.Space.Classes[r.Threads[3].Activations[0].Class].Model.Name != "lang/Thread" {
		t.Error(e)
	}
	r = m
	r.Threads = append(slices.Clip(m.Threads), make([]api.Thread, 6)...)
	if s, _, e := call(r, 0, "lang/Thread", "start", "()V", v(3, 2)); e != api.ErrStackOverflow || !reflect.DeepEqual(s, r) {
		t.Error(e)
	}
}
