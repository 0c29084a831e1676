package typeaudit_test

import (
	"armature/api"
	"armature/callstack"
	"armature/classspace"
	"armature/codegen"
	"armature/gc"
	"armature/heap"
	"armature/link"
	"armature/machine"
	"armature/parse"
	"armature/sample"
	"armature/typeaudit"
	"reflect"
	"slices"
	"testing"
)

const listing = `class 1537 I extends lang/Object
class 1 A extends lang/Object
field 1 x I
field 1 r LA;
field 1 i LI;
field 9 s LB;
m 1 <init> ()V
method 9 f (ILA;)I
code 2 3
new A
dup
invokespecial A <init> ()V
astore 1
iload 0
aload 1
invokestatic A g (LA;)I
iadd
ireturn
end
m 9 g (LA;)I
m 9 v ()V
class 1 B extends A
m 1 <init> ()V
class 1 U extends lang/Object
m 9 u ()V`

func v(kind, n int) api.Value { return api.Value{Kind: kind, N: n} }

func ref(name string, dim int) api.VType {
	return api.VType{Kind: api.VRef, Type: api.Type{Dim: dim, Base: 'L', Name: name}}
}

type bench struct {
	*testing.T
	m api.Machine
}

// newBench has objects 1: A, 2: B, 3: int[], 4: B[], 5: string, 6: I[]; A and B are linked.
func newBench(t *testing.T) *bench {
	t.Helper()
	m, e := sample.Machine(20, listing, "")
	if e != api.OK {
		t.Fatal(e)
	}
	b := &bench{t, m}
	for _, s := range []string{"A", "B"} {
		if b.m.Space, e = link.Link(b.m.Space, b.id(s)); e != api.OK {
			t.Fatal(e)
		}
		b.m, _, _ = heap.NewObject(b.m, b.id(s))
	}
	b.m, _, _ = heap.NewArray(b.m, api.RuntimeType{Base: 'I'}, 1)
	b.m, _, _ = heap.NewArray(b.m, api.RuntimeType{Base: 'L', Class: b.id("B")}, 1)
	c, _ := classspace.FindLoaded(b.m.Space, 0, "lang/String")
	b.m, _, _ = heap.Allocate(b.m, api.Object{Kind: api.ObjString, Type: api.RuntimeType{Base: 'L', Class: c}})
	b.m, _, _ = heap.NewArray(b.m, api.RuntimeType{Base: 'L', Class: b.id("I")}, 1)
	b.m.Threads = make([]api.Thread, 1)
	if !heap.Valid(b.m) || len(b.m.Heap) != 6 {
		t.Fatal("not valid")
	}
	return b
}

func (b *bench) id(s string) int {
	b.Helper()
	c, ok := classspace.FindLoaded(b.m.Space, 0, s)
	if !ok {
		b.Fatal(s)
	}
	return c
}

func TestValueConforms(t *testing.T) { // P59.1
	b := newBench(t)
	kind := func(k int) api.VType { return api.VType{Kind: k} }
	raw := func(k int, name string) api.VType {
		return api.VType{Kind: k, Type: api.Type{Base: 'L', Name: name}}
	}
	ints := api.VType{Kind: api.VRef, Type: api.Type{Dim: 1, Base: 'I'}}
	for k, x := range []struct {
		loader int
		v      api.Value
		k      api.VType
		want   bool
	}{
		{0, api.Value{}, kind(api.VTop), true}, {0, v(1, 5), kind(api.VTop), true}, {0, v(1, 5), kind(api.VInt), true}, {0, v(2, 5), kind(api.VInt), false}, {0, v(2, 5), kind(api.VLong), true}, {0, api.Value{}, kind(api.VInt), false}, {0, v(3, 0), kind(api.VNull), true}, {0, v(3, 1), kind(api.VNull), false}, {0, v(1, 0), kind(api.VNull), false}, {0, v(3, 0), kind(7), false}, {0, v(3, 0), kind(-1), false},
		{0, v(3, 0), ref("B", 0), true}, {0, v(3, 1), ref("A", 0), true}, {0, v(3, 2), ref("A", 0), true}, {0, v(3, 1), ref("B", 0), false}, {0, v(1, 1), ref("A", 0), false}, {0, v(3, 9), ref("A", 0), false}, {0, v(3, 9), ref("Unknown", 0), false}, {0, v(3, 3), ref("Unknown", 2), true}, {0, v(3, 3), ref("I", 0), true}, {0, v(3, 1), ref("I", 3), true}, {1, v(3, 3), ref("A", 0), true}, {0, v(3, 3), ref("A", 0), false}, {0, v(3, 3), ints, true}, {0, v(3, 4), ints, false}, {0, v(3, 4), ref("A", 1), true}, {0, v(3, 4), ref("lang/Object", 1), true}, {0, v(3, 4), ref("lang/Object", 0), true}, {0, v(3, 4), ref("B", 2), false}, {0, v(3, 5), ref("lang/String", 0), true},
		{0, v(3, 1), raw(api.VUninitialized, "A"), true}, {0, v(3, 2), raw(api.VUninitializedThis, "A"), true}, {0, v(3, 1), raw(api.VUninitialized, "B"), false}, {0, v(3, 0), raw(api.VUninitialized, "A"), false}, {0, v(1, 1), raw(api.VUninitialized, "A"), false}, {0, v(3, 3), raw(api.VUninitialized, "Unknown"), false}, {0, v(3, 1), raw(api.VUninitialized, "Unknown"), true}, {0, v(3, 5), raw(api.VUninitialized, "lang/String"), false},
	} {
		if got := typeaudit.ValueConforms(b.m, x.loader, x.v, x.k); got != x.want {
			t.Errorf("case %d: %v", k, got)
		}
	}
}

func (b *bench) frame(name string, pc int, locals, stack []api.Value) api.Activation {
	c := b.m.Space.Classes[b.id("A")].Model
	which := slices.IndexFunc(c.Methods, func(m api.Method) bool { return m.Name == name })
	return api.Activation{Class: b.id("A"), Method: which, PC: pc, Locals: locals, Stack: stack}
}

func TestActivations(t *testing.T) { // P59.2, P59.3
	b := newBench(t)
	start := []api.Value{v(1, 7), v(3, 2), {}}
	later := []api.Value{v(1, 7), v(3, 1), v(2, 5)}
	g := b.frame("g", 0, []api.Value{v(3, 0)}, nil)
	void := b.frame("v", 0, nil, nil)
	drop := g
	drop.DropResult = true
	init := api.Activation{Class: b.id("A"), Method: -1, IsInit: true}
	wait := api.Activation{Class: b.id("A"), Method: -2}
	f := func(pc int, locals []api.Value, stack ...api.Value) api.Activation {
		return b.frame("f", pc, locals, stack)
	}
	for k, x := range []struct {
		l []api.Activation
		i int
		e api.Errno
	}{
		{[]api.Activation{f(0, start)}, 0, api.OK}, {[]api.Activation{f(0, later)}, 0, api.OK}, {[]api.Activation{f(0, []api.Value{v(2, 7), v(3, 2), {}})}, 0, api.ErrBadLocal}, {[]api.Activation{f(0, []api.Value{v(1, 7), v(3, 3), {}})}, 0, api.ErrBadLocal}, {[]api.Activation{f(0, start, v(1, 1))}, 0, api.ErrStackHeight}, {[]api.Activation{f(1, start, v(3, 1))}, 0, api.OK}, {[]api.Activation{f(1, start, v(3, 0))}, 0, api.ErrTypeMismatch}, {[]api.Activation{f(1, start)}, 0, api.ErrStackHeight}, {[]api.Activation{f(6, later, v(1, 7), v(3, 1))}, 0, api.OK}, {[]api.Activation{f(6, later, v(3, 1), v(1, 7))}, 0, api.ErrTypeMismatch},
		{[]api.Activation{f(7, later, v(1, 7)), g}, 0, api.OK}, {[]api.Activation{f(7, later, v(1, 7)), g}, 1, api.OK}, {[]api.Activation{f(7, later, v(1, 7), v(1, 7)), g}, 0, api.ErrStackHeight}, {[]api.Activation{f(7, later, v(1, 7), v(1, 7)), drop}, 0, api.OK}, {[]api.Activation{f(7, later, v(1, 7), v(1, 7)), void}, 0, api.OK}, {[]api.Activation{f(7, later, v(1, 7), v(1, 7)), wait}, 0, api.OK}, {[]api.Activation{f(7, later, v(1, 7), v(1, 7)), init}, 0, api.OK}, {[]api.Activation{f(0, start), g}, 0, api.ErrStackHeight}, {[]api.Activation{wait, init}, 0, api.OK}, {[]api.Activation{wait, init}, 1, api.OK}, {[]api.Activation{wait}, 1, api.ErrRange}, {[]api.Activation{wait}, -1, api.ErrRange},
		{[]api.Activation{{Class: b.id("U")}}, 0, api.ErrVerify},
	} {
		m := b.m
		m.Threads = []api.Thread{{}, {Activations: x.l}}
		if !heap.Valid(m) {
			t.Fatal(k, "not valid")
		}
		if e := typeaudit.CheckActivation(m, 1, x.i); e != x.e {
			t.Errorf("case %d: %d, want %d", k, e, x.e)
		}
		if x.e == api.ErrRange {
			continue
		}
		th, i, e := typeaudit.CheckThreads(m)
		if x.e != api.OK && (th != 1 || i != x.i || e != x.e) || x.e == api.OK && (th != 0 || i != 0 || e != api.OK) || typeaudit.Consistent(m) != (x.e == api.OK) {
			t.Error(k, th, i, e)
		}
		r, n, e := typeaudit.Watch(m, []int{0})
		if x.e != api.OK && (n != 0 || e != api.ErrVerify || !reflect.DeepEqual(r, m)) {
			t.Error(k, n, e)
		}
	}
	for _, k := range []int{-1, 1} {
		if e := typeaudit.CheckActivation(b.m, k, 0); e != api.ErrRange {
			t.Error(e)
		}
	}
	dead := b.m
	dead.Threads = []api.Thread{{Activations: []api.Activation{b.frame("f", 0, start, nil)}}}
	dead.Space.Classes = slices.Clone(dead.Space.Classes)
	dead.Space.Classes[b.id("A")].Stage = api.Loaded
	if e := typeaudit.CheckActivation(dead, 0, 0); e != api.ErrVerify {
		t.Error(e)
	}
}

func TestObjects(t *testing.T) { // P59.4, P59.5
	b := newBench(t)
	if n, e := typeaudit.CheckObjects(b.m); n != 0 || e != api.OK || !typeaudit.Consistent(b.m) || !typeaudit.Consistent(api.Machine{}) {
		t.Error(n, e)
	}
	for k, x := range []struct {
		obj, at int
		v       api.Value
		want    int
	}{{1, 1, v(3, 2), 0}, {1, 1, v(3, 3), 1}, {2, 1, v(3, 5), 2}, {1, 2, v(3, 3), 0}, {4, 0, v(3, 2), 0}, {4, 0, v(3, 1), 4}, {6, 0, v(3, 3), 0}} {
		m, e := heap.Set(b.m, x.obj, x.at, x.v)
		if e != api.OK {
			t.Fatal(k, e)
		}
		n, e := typeaudit.CheckObjects(m)
		if n != x.want || (e == api.ErrTypeMismatch) != (n != 0) || typeaudit.Consistent(m) != (n == 0) {
			t.Error(k, n, e)
		}
	}
	a := b.id("A")
	for obj, want := range map[int]int{0: 0, 2: 0, 1: -1 - a, 3: -1 - a} {
		m := b.m
		m.Init = make([]api.InitRecord, a+1)
		m.Init[a] = api.InitRecord{State: api.Initialized, Statics: []api.Value{v(3, obj)}}
		n, e := typeaudit.CheckObjects(m)
		if n != want || (e == api.ErrTypeMismatch) != (n != 0) {
			t.Error(obj, n, e)
		}
	}
}

func compiled(t *testing.T, s string) api.Machine {
	t.Helper()
	l, at, e := parse.ParseProgram(s)
	if e != api.OK {
		t.Fatal(at, e)
	}
	store, e := codegen.CompileStore(l)
	if e != api.OK {
		t.Fatal(e)
	}
	m, e := machine.New([]api.Loader{{Store: store}}, 5000)
	if e != api.OK {
		t.Fatal(e)
	}
	m, _, e = machine.StartMain(m, 0, "M")
	if e != api.OK {
		t.Fatal(e)
	}
	return m
}

func TestWatchPrograms(t *testing.T) { // P59.5, P59.6, P5
	for k, s := range sample.Programs() {
		m := compiled(t, s)
		plain, steps, e := machine.RunThread(m, 0, 100000)
		if e != api.OK {
			t.Fatal(k, e)
		}
		r, n, e := typeaudit.Watch(m, make([]int, 600))
		if e != api.OK || n != min(steps, 600) {
			t.Fatal(k, n, e)
		}
		for n := 0; r.Threads[0].State != api.Terminated; n++ {
			if n%40 == 0 {
				r, _, _ = gc.Collect(r, n%80 == 0)
				if !typeaudit.Consistent(r) {
					t.Fatal(k, n)
				}
			}
			if r, _, e = machine.RunThread(r, 0, 1); e != api.OK && e != api.ErrOutOfFuel {
				t.Fatal(k, e)
			}
		}
		if !typeaudit.Consistent(r) || !slices.Equal(r.Output, plain.Output) {
			t.Error(k)
		}
	}
}

func TestWatchErrors(t *testing.T) { // P59.5
	m := compiled(t, "class M extends lang::Object { public static void main ( ) { int a = 1 ; while ( a ) { a = a + 1 ; } } }")
	r, n, e := typeaudit.Watch(m, make([]int, 20))
	if n != 20 || e != api.OK {
		t.Fatal(n, e)
	}
	top, _ := callstack.Top(r, 0)
	top.Locals = []api.Value{v(2, 5)}
	bad, _ := callstack.ReplaceTop(r, 0, top)
	if s, n, e := typeaudit.Watch(bad, []int{0}); n != 0 || e != api.ErrVerify || !reflect.DeepEqual(s, bad) {
		t.Error(n, e)
	}
	if s, n, e := typeaudit.Watch(bad, nil); n != 0 || e != api.ErrVerify || !reflect.DeepEqual(s, bad) {
		t.Error(n, e)
	}
	if s, n, e := typeaudit.Watch(r, nil); n != 0 || e != api.OK || !reflect.DeepEqual(s, r) {
		t.Error(n, e)
	}
}
