package step_test

import (
	"armature/api"
	"armature/callstack"
	"armature/classspace"
	"armature/heap"
	"armature/sample"
	"armature/step"
	"reflect"
	"slices"
	"testing"
)

const listing = `class 1 S extends lang/Object
field 9 x I
method 8 <clinit> ()V
code 1 0
push 5
putstatic S x I
return
end
m 9 cold ()V
class 1 Fails extends lang/Object
field 9 x I
method 8 <clinit> ()V
code 2 0
push 5
push 0
idiv
putstatic Fails x I
return
end
class 1 T extends lang/Object
m 1 <init> ()V
method 9 div ()I
code 2 0
push 1
push 0
idiv
ireturn
pop
push 9
ireturn
catch 0 3 4 lang/ArithmeticException
end
method 9 uncaught ()I
code 2 0
push 1
push 0
idiv
ireturn
end
method 9 main ()V
code 2 1
invokestatic T div ()I
invokestatic lang/Console printInt (I)V
getstatic S x I
invokestatic lang/Console printInt (I)V
ldc string "s"
invokestatic lang/Console printString (Llang/String;)V
return
end
method 9 nullThrow ()V
code 1 0
aconstnull
athrow
end
method 9 throwNew ()V
code 2 0
new lang/Error
dup
invokespecial lang/Error <init> ()V
athrow
end
method 9 sync (LT;)V
code 1 1
aload 0
monitorenter
aload 0
monitorexit
return
end
method 9 exit (LT;)V
code 1 1
aload 0
monitorexit
return
end
method 9 fails ()I
code 1 0
getstatic Fails x I
ireturn
end
class 1 U extends lang/Object
method 9 cast (LT;)V
code 1 1
aload 0
athrow
end`

type bench struct {
	*testing.T
	m api.Machine
}

// newBench has an object 1 of class T.
func newBench(t *testing.T) *bench {
	t.Helper()
	m, e := sample.Machine(50, listing)
	if e != api.OK {
		t.Fatal(e)
	}
	b := &bench{t, m}
	if b.m, _, e = heap.NewObject(m, b.id("T")); e != api.OK {
		t.Fatal(e)
	}
	return b
}

func (b *bench) id(s string) int {
	b.Helper()
	c, ok := classspace.FindLoaded(b.m.Space, 0, s)
	if !ok {
		b.Fatal(s)
	}
	return c
}

// start adds a thread in a method of class T.
func (b *bench) start(m api.Machine, name string, args ...api.Value) api.Machine {
	b.Helper()
	class := "T"
	if name == "cast" {
		class = "U"
	}
	which := slices.IndexFunc(m.Space.Classes[b.id(class)].Model.Methods, func(x api.Method) bool { return x.Name == name })
	m, t, e := callstack.NewThread(m, 0)
	if e == api.OK {
		m, e = callstack.Push(m, t, b.id(class), which, args)
	}
	if e != api.OK {
		b.Fatal(name, e)
	}
	return m
}

// steps makes a number of steps of a thread and expects the actions that they are.
func (b *bench) steps(m api.Machine, t int, actions ...int) api.Machine {
	b.Helper()
	for i, a := range actions {
		if got := step.NextAction(m, t); got != a {
			b.Fatalf("step %d: action %d, want %d", i, got, a)
		}
		r, e := step.Step(m, t)
		if e != api.OK || !heap.Valid(r) {
			b.Fatal(i, e)
		}
		m = r
	}
	return m
}

func (b *bench) thrown(m api.Machine, t int) string {
	b.Helper()
	x := m.Threads[t]
	if x.State != api.Terminated || x.Exception == 0 {
		b.Fatal(x)
	}
	return m.Space.Classes[m.Heap[x.Exception-1].Type.Class].Model.Name
}

func TestProgram(t *testing.T) { // P47.1, P47.2, P47.3, P47.4
	b := newBench(t)
	m := b.start(b.m, "main")
	// T is initialized first, then lang/Console and S.
	m = b.steps(m, 0, 5, 2, 2, 5, 3, 3, 3, 3, 3, 5)
	if top, _ := callstack.Top(m, 0); top.PC != 1 || !slices.Equal(top.Stack, []api.Value{{Kind: 1, N: 9}}) {
		t.Fatal(top)
	}
	m = b.steps(m, 0, 5, 2, 5, 4, 3, 4, 5, 4, 5, 4, 5, 5)
	if !slices.Equal(m.Output, []string{"9", "5", "s"}) || !reflect.DeepEqual(m.Threads[0], api.Thread{State: api.Terminated}) {
		t.Error(m.Output, m.Threads[0])
	}
	all, n, e := step.Run(b.start(b.m, "main"), 0, 1000)
	if n != 22 || e != api.OK || !reflect.DeepEqual(all, m) {
		t.Error(n, e)
	}
	for most := -1; most < 24; most++ {
		p, k, e := step.Run(b.start(b.m, "main"), 0, most)
		q, rest, f := step.Run(p, 0, 1000)
		if k != max(0, min(most, 22)) || k+rest != 22 || e != api.OK || f != api.OK || !reflect.DeepEqual(q, m) {
			t.Error(most, k, rest, e, f)
		}
	}
}

func TestExceptions(t *testing.T) { // P47.1
	b := newBench(t)
	for name, want := range map[string]string{"uncaught": "lang/ArithmeticException", "nullThrow": "lang/NullPointerException", "throwNew": "lang/Error", "fails": "lang/InitializerError"} {
		m, _, e := step.Run(b.start(b.m, name), 0, 1000)
		if got := b.thrown(m, 0); got != want || e != api.OK || !heap.Valid(m) {
			t.Error(name, got, e)
		}
	}
	m, _, _ := step.Run(b.start(b.m, "fails"), 0, 1000)
	m, _, e := step.Run(b.start(m, "fails"), 1, 1000)
	if got := b.thrown(m, 1); got != "lang/LinkageError" || e != api.OK {
		t.Error(got, e)
	}
	m, _, e = step.Run(b.start(b.m, "cast", api.Value{Kind: 3, N: 1}), 0, 10)
	if got := b.thrown(m, 0); got != "lang/ClassCastException" || e != api.OK {
		t.Error(got, e)
	}
	m, _, e = step.Run(b.start(b.m, "exit", api.Value{Kind: 3, N: 1}), 0, 10)
	if got := b.thrown(m, 0); got != "lang/IllegalMonitorStateException" || e != api.OK {
		t.Error(got, e)
	}
}

func TestMonitors(t *testing.T) { // P47.1, P47.2, P47.5
	b := newBench(t)
	this := api.Value{Kind: 3, N: 1}
	m := b.start(b.start(b.m, "sync", this), "sync", this)
	m = b.steps(m, 0, 3, 7)
	if m.Heap[0].Owner != 1 {
		t.Error(m.Heap[0])
	}
	m = b.steps(m, 1, 3, 7)
	if x := m.Threads[1]; x.State != api.Blocked || x.Activations[0].PC != 1 || len(x.Activations[0].Stack) != 1 || step.NextAction(m, 1) != 0 {
		t.Error(x)
	}
	if r, e := step.Step(m, 1); e != api.ErrBlocked || !reflect.DeepEqual(r, m) {
		t.Error(e)
	}
	if r, n, e := step.Run(m, 1, 5); e != api.OK || n != 0 || !reflect.DeepEqual(r, m) {
		t.Error(n, e)
	}
	m = b.steps(m, 0, 3, 7)
	if m.Heap[0].Owner != 0 {
		t.Error(m.Heap[0])
	}
	m = b.steps(m, 1, 7, 3, 7, 5)
	if m.Threads[1].State != api.Terminated || m.Heap[0].Owner != 0 {
		t.Error(m.Threads[1])
	}
	again := m
	again.Threads = slices.Clone(m.Threads)
	again.Threads[0].State, again.Threads[0].Monitor, again.Threads[0].Count = api.Reacquiring, 1, 3
	again = b.steps(again, 0, 1)
	if o := again.Heap[0]; o.Owner != 1 || o.Count != 3 || again.Threads[0].Activations[0].PC != m.Threads[0].Activations[0].PC {
		t.Error(o)
	}
	again.Threads[0].State, again.Threads[0].Monitor, again.Threads[0].Count = api.Waiting, 1, 3
	again.Heap[0].WaitSet = []int{0}
	if _, e := step.Step(again, 0); e != api.ErrBlocked {
		t.Error(e)
	}
}

func TestErrors(t *testing.T) { // P47.1, P47.2, P47.3
	b := newBench(t)
	m := b.start(b.m, "nullThrow")
	m.Threads = append(m.Threads, api.Thread{State: api.Terminated}, api.Thread{})
	for k, want := range map[int]api.Errno{-1: api.ErrRange, 3: api.ErrRange, 1: api.ErrTerminated, 2: api.ErrBlocked} {
		if r, e := step.Step(m, k); e != want || !reflect.DeepEqual(r, m) || step.NextAction(m, k) != 0 {
			t.Error(k, e)
		}
	}
	if r, n, e := step.Run(m, 9, 5); e != api.ErrRange || n != 0 || !reflect.DeepEqual(r, m) {
		t.Error(n, e)
	}
	for stack, want := range map[api.Value]api.Errno{{}: api.ErrStackHeight, {Kind: 1}: api.ErrTypeMismatch} {
		for _, name := range []string{"nullThrow", "sync", "exit"} {
			var args []api.Value
			if name != "nullThrow" {
				args = []api.Value{{Kind: 3, N: 1}}
			}
			bad := b.start(b.m, name, args...)
			top, _ := callstack.Top(bad, 0)
			top.PC = 1
			if stack.Kind != 0 {
				top.Stack = []api.Value{stack}
			}
			bad, _ = callstack.ReplaceTop(bad, 0, top)
			if r, e := step.Step(bad, 0); e != want || !reflect.DeepEqual(r, bad) {
				t.Error(name, e)
			}
		}
	}
	b.m.Heap = append(b.m.Heap, slices.Repeat([]api.Object{b.m.Heap[0]}, 4999)...)
	full := b.start(b.m, "uncaught")
	full, _, _ = step.Run(full, 0, 2)
	if r, e := step.Step(full, 0); e != api.ErrOutOfMemory || r.Threads[0].State != api.Runnable || !reflect.DeepEqual(r.Threads, full.Threads) {
		t.Error(e)
	}
}

func TestWaitingForClasses(t *testing.T) { // P47.1, P47.2
	b := newBench(t)
	m := b.start(b.start(b.m, "fails"), "fails")
	m = b.steps(m, 0, 4, 2)
	m = b.steps(m, 1, 4)
	if top, _ := callstack.Top(m, 1); top.Method != -2 || step.NextAction(m, 1) != 0 {
		t.Error(top)
	}
	m, _, _ = step.Run(m, 0, 100)
	m = b.steps(m, 1, 2)
	if got := b.thrown(m, 1); got != "lang/LinkageError" {
		t.Error(got)
	}
	one := b.m
	one.Init = make([]api.InitRecord, b.id("T")+1)
	one.Init[b.id("T")] = api.InitRecord{State: api.Initializing}
	one.Threads = []api.Thread{{Activations: []api.Activation{{Class: b.id("T"), Method: -1, IsInit: true}}}}
	one = b.steps(one, 0, 2)
	if one.Threads[0].State != api.Terminated || one.Init[b.id("T")].State != api.Initialized {
		t.Error(one.Threads[0])
	}
}
