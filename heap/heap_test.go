package heap_test

import (
	"armature/api"
	"armature/classspace"
	"armature/heap"
	"armature/sample"
	"reflect"
	"slices"
	"strings"
	"testing"
)

const listing = `
class 1537 I extends lang/Object
class 1 A extends lang/Object
field 1 x I
field 1 r LA;
field 8 s J
class 1 B extends A
implements I
field 1 y J
class 1025 Abs extends A
class 1 M extends lang/Object
method 1 f (I)V
code 2 3
nop
return
end
m 257 nat ()V`

func example(t *testing.T) (api.Machine, func(string) int) {
	t.Helper()
	w, e := sample.Loaded(sample.Root + listing)
	if e != api.OK {
		t.Fatal(e)
	}
	return api.Machine{Space: w, MaxObjects: 10}, func(s string) int {
		c, ok := classspace.FindLoaded(w, 0, s)
		if !ok {
			t.Fatal(s)
		}
		return c
	}
}

func class(c, dim int) api.RuntimeType { return api.RuntimeType{Dim: dim, Base: 'L', Class: c} }

func v(kind, n int) api.Value { return api.Value{Kind: kind, N: n} }

// full has objects of all kinds, threads in all states, initialization records and interned strings.
func full(t *testing.T) (api.Machine, func(string) int) {
	m, id := example(t)
	m.Heap = []api.Object{
		{Kind: api.ObjInstance, Type: class(id("B"), 0), Values: []api.Value{v(1, 5), v(3, 1), v(2, 1<<40)}, Owner: 1, Count: 2, WaitSet: []int{2}},
		{}, {Kind: api.ObjArray, Type: class(id("A"), 1), Values: []api.Value{v(3, 0), v(3, 1)}}, {Kind: api.ObjArray, Type: api.RuntimeType{Dim: 1, Base: 'J'}, Values: []api.Value{v(2, -1)}}, {Kind: api.ObjString, Type: class(id("lang/String"), 0), String: "s"},
	}
	m.Init = make([]api.InitRecord, id("A")+2)
	m.Init[id("A")] = api.InitRecord{State: api.Initialized, Statics: []api.Value{v(2, 9)}}
	m.Init[id("A")+1] = api.InitRecord{State: api.Initializing, Thread: 1}
	m.Init[0] = api.InitRecord{State: api.InitFailed}
	m.Interned = []api.InternedString{{String: "s", Object: 5}}
	frame := api.Activation{Class: id("M"), Locals: []api.Value{v(3, 1), v(1, 7), {}}, Stack: []api.Value{v(2, 5)}, PC: 1, Lock: 3}
	m.Threads = []api.Thread{
		{Activations: []api.Activation{frame, {Class: id("B"), Method: -1, IsInit: true}, {Class: id("B"), Method: -2}}, Object: 1}, {State: api.Blocked, Monitor: 1}, {State: api.Waiting, Monitor: 1, Count: 3}, {State: api.Reacquiring, Monitor: 1, Count: 1}, {State: api.Terminated, Exception: 1, Result: v(1, 3)},
	}
	m.Output = []string{"\x00"}
	return m, id
}

// copied has lists of its own for everything that the mutations change.
func copied(m api.Machine) api.Machine {
	m.Heap, m.Init, m.Interned, m.Threads = slices.Clone(m.Heap), slices.Clone(m.Init), slices.Clone(m.Interned), slices.Clone(m.Threads)
	for i := range m.Heap {
		m.Heap[i].Values = slices.Clone(m.Heap[i].Values)
	}
	for i := range m.Threads {
		m.Threads[i].Activations = slices.Clone(m.Threads[i].Activations)
	}
	return m
}

func TestValid(t *testing.T) { // P36.1
	base, id := full(t)
	if !heap.Valid(base) || !heap.Valid(api.Machine{Space: base.Space}) || heap.Valid(api.Machine{}) {
		t.Fatal("not valid")
	}
	frame := func(m *api.Machine) *api.Activation { return &m.Threads[0].Activations[0] }
	for k, f := range []func(*api.Machine){
		func(m *api.Machine) { m.Space.Classes = nil }, func(m *api.Machine) { m.MaxObjects = -1 }, func(m *api.Machine) { m.MaxObjects = 5001 }, func(m *api.Machine) { m.Heap = append(m.Heap, make([]api.Object, 5000)...) },
		func(m *api.Machine) { m.Heap[1].Count = 1 }, func(m *api.Machine) { m.Heap[1].String = "x" }, func(m *api.Machine) { m.Heap[1].Type.Dim = 1 }, func(m *api.Machine) { m.Heap[0].Kind = 4 }, func(m *api.Machine) { m.Heap[0].Kind = -1 },
		func(m *api.Machine) { m.Heap[0].Type = class(id("I"), 0) }, func(m *api.Machine) { m.Heap[0].Type = class(id("B"), 1) }, func(m *api.Machine) { m.Heap[0].Type = class(99, 0) }, func(m *api.Machine) { m.Heap[0].Values = m.Heap[0].Values[:2] }, func(m *api.Machine) { m.Heap[0].Values[0] = v(2, 5) }, func(m *api.Machine) { m.Heap[0].Values[0] = v(1, 1<<31) }, func(m *api.Machine) { m.Heap[0].Values[1] = v(3, 2) }, func(m *api.Machine) { m.Heap[0].Values[1] = v(3, -1) }, func(m *api.Machine) { m.Heap[0].Values[1] = api.Value{} }, func(m *api.Machine) { m.Heap[0].String = "x" },
		func(m *api.Machine) { m.Heap[2].Type = class(id("A"), 0) }, func(m *api.Machine) { m.Heap[2].Type = class(id("A"), 9) }, func(m *api.Machine) { m.Heap[3].Type.Class = 1 }, func(m *api.Machine) { m.Heap[3].Values[0] = v(1, 1) }, func(m *api.Machine) { m.Heap[3].Values = slices.Repeat([]api.Value{v(2, 0)}, 257) }, func(m *api.Machine) { m.Heap[3].String = "x" }, func(m *api.Machine) { m.Heap[4].Type = class(id("A"), 0) }, func(m *api.Machine) { m.Heap[4].Values = []api.Value{v(1, 1)} }, func(m *api.Machine) { m.Heap[4].String = strings.Repeat("x", 1025); m.Interned = nil },
		func(m *api.Machine) { m.Heap[0].Owner = 6 }, func(m *api.Machine) { m.Heap[0].Owner = -1 }, func(m *api.Machine) { m.Heap[0].Owner = 0 }, func(m *api.Machine) { m.Heap[0].Count = 0 }, func(m *api.Machine) { m.Heap[2].Count = -1 }, func(m *api.Machine) { m.Heap[0].WaitSet = nil }, func(m *api.Machine) { m.Heap[0].WaitSet = []int{2, 2} }, func(m *api.Machine) { m.Heap[0].WaitSet = []int{2, 1} }, func(m *api.Machine) { m.Heap[0].WaitSet = []int{2, 5} }, func(m *api.Machine) { m.Heap[2].WaitSet = []int{2} },
		func(m *api.Machine) { m.Init = make([]api.InitRecord, len(m.Space.Classes)+1) }, func(m *api.Machine) { m.Init[0].State = 4 }, func(m *api.Machine) { m.Init[0].State = -1 }, func(m *api.Machine) { m.Init[id("A")+1].Thread = 5 }, func(m *api.Machine) { m.Init[id("A")+1].Thread = -1 }, func(m *api.Machine) { m.Init[0].Thread = 1 }, func(m *api.Machine) { m.Init[id("A")].Statics = nil }, func(m *api.Machine) { m.Init[id("A")].State = api.NotInitialized }, func(m *api.Machine) { m.Init[id("A")].Statics = []api.Value{v(1, 9)} }, func(m *api.Machine) { m.Init[0].Statics = []api.Value{v(1, 9)} },
		func(m *api.Machine) { m.Interned[0].Object = 1 }, func(m *api.Machine) { m.Interned[0].Object = 0 }, func(m *api.Machine) { m.Interned[0].String = "t" }, func(m *api.Machine) { m.Interned = append(m.Interned, m.Interned[0]) },
		func(m *api.Machine) { m.Threads = append(m.Threads, make([]api.Thread, 4)...) }, func(m *api.Machine) { m.Threads[0].State = 5 }, func(m *api.Machine) { m.Threads[0].State = -1 }, func(m *api.Machine) { m.Threads[0].Monitor = 1 }, func(m *api.Machine) { m.Threads[1].Monitor = 2 }, func(m *api.Machine) { m.Threads[1].Count = 1 }, func(m *api.Machine) { m.Threads[2].Count = 0 }, func(m *api.Machine) { m.Threads[2].Monitor = 3 }, func(m *api.Machine) { m.Threads[3].Count = -1 }, func(m *api.Machine) { m.Threads[0].Object = 2 }, func(m *api.Machine) { m.Threads[4].Exception = 9 }, func(m *api.Machine) { m.Threads[4].Result = v(1, 1<<40) }, func(m *api.Machine) { m.Threads[0].Exception = 1 }, func(m *api.Machine) { m.Threads[0].Result = v(1, 1) }, func(m *api.Machine) { m.Threads[4].Activations = m.Threads[0].Activations }, func(m *api.Machine) { m.Threads[0].Activations = slices.Repeat(m.Threads[0].Activations, 22) },
		func(m *api.Machine) { frame(m).Class = 99 }, func(m *api.Machine) { frame(m).Lock = 2 }, func(m *api.Machine) { frame(m).Method = -1 }, func(m *api.Machine) { frame(m).Method = 1 }, func(m *api.Machine) { frame(m).Method = 2 }, func(m *api.Machine) { frame(m).Method = -3 }, func(m *api.Machine) { frame(m).PC = 2 }, func(m *api.Machine) { frame(m).PC = -1 }, func(m *api.Machine) { frame(m).Locals = frame(m).Locals[:2] }, func(m *api.Machine) { frame(m).Stack = slices.Repeat(frame(m).Stack, 3) }, func(m *api.Machine) { frame(m).Stack = []api.Value{{}} }, func(m *api.Machine) { frame(m).Stack = []api.Value{v(3, 2)} }, func(m *api.Machine) { frame(m).Locals = []api.Value{{}, {}, v(0, 1)} },
		func(m *api.Machine) { m.Threads[0].Activations[1].IsInit = false }, func(m *api.Machine) { m.Threads[0].Activations[2].IsInit = true }, func(m *api.Machine) { m.Threads[0].Activations[1].PC = 1 }, func(m *api.Machine) { m.Threads[0].Activations[1].Locals = []api.Value{{}} }, func(m *api.Machine) { m.Threads[0].Activations[2].Stack = []api.Value{v(1, 1)} },
	} {
		m := copied(base)
		f(&m)
		if heap.Valid(m) {
			t.Error(k)
		}
	}
	for k, f := range []func(*api.Machine){func(m *api.Machine) { frame(m).IsInit = true }, func(m *api.Machine) { frame(m).DropResult = true }, func(m *api.Machine) { m.Output = nil }, func(m *api.Machine) { m.MaxObjects = 0 }, func(m *api.Machine) { m.Threads[4].Exception = 0 }, func(m *api.Machine) { m.Heap[3].Values = nil }} {
		m := copied(base)
		f(&m)
		if !heap.Valid(m) {
			t.Error(k)
		}
	}
}

func TestReading(t *testing.T) { // P36.2
	m, id := full(t)
	if o, ok := heap.Object(m, 5); !ok || o.String != "s" || heap.Count(m) != 4 {
		t.Error(o, ok)
	}
	for _, n := range []int{-1, 0, 2, 6} {
		if o, ok := heap.Object(m, n); ok || o.Kind != 0 {
			t.Error(n, o, ok)
		}
	}
	if r, ok := heap.TypeOf(m, v(3, 3)); !ok || r != class(id("A"), 1) {
		t.Error(r, ok)
	}
	for _, x := range []api.Value{v(3, 0), v(3, 2), v(1, 3), v(3, 99), {}} {
		if r, ok := heap.TypeOf(m, x); ok || r != (api.RuntimeType{}) {
			t.Error(x, r, ok)
		}
	}
	i := api.RuntimeType{Base: 'I'}
	for _, x := range []struct {
		v    api.Value
		r    api.RuntimeType
		want bool
	}{{v(1, 5), i, true}, {v(1, 1<<31), i, false}, {v(2, 5), i, false}, {v(2, 5), api.RuntimeType{Base: 'J'}, true}, {v(3, 0), class(id("A"), 3), true}, {v(3, 1), class(id("A"), 0), true}, {v(3, 1), class(id("I"), 0), true}, {v(3, 1), class(id("Abs"), 0), false}, {v(3, 3), class(id("lang/Object"), 1), true}, {v(3, 3), class(id("A"), 0), false}, {v(3, 2), class(id("A"), 0), false}, {v(3, 0), class(99, 0), false}, {api.Value{}, i, false}, {v(3, 0), api.RuntimeType{}, false}, {v(3, 4), api.RuntimeType{Dim: 1, Base: 'J'}, true}} {
		if got := heap.Conforms(m, x.v, x.r); got != x.want {
			t.Error(x, got)
		}
	}
}

func TestAllocate(t *testing.T) { // P36.3, P36.5
	base, id := full(t)
	good := api.Object{Kind: api.ObjInstance, Type: class(id("A"), 0), Values: []api.Value{v(1, 1), v(3, 2)}}
	m, n, e := heap.Allocate(base, good)
	if e != api.OK || n != 2 || !heap.Valid(m) || !reflect.DeepEqual(m.Heap[1], good) || base.Heap[1].Kind != 0 {
		t.Fatal(n, e)
	}
	m, n, e = heap.Allocate(m, api.Object{Kind: api.ObjString, Type: class(id("lang/String"), 0), Owner: 2, Count: 1})
	if e != api.OK || n != 6 || !heap.Valid(m) || heap.Count(m) != 6 || !reflect.DeepEqual(m.Heap[:5], append(append(slices.Clone(base.Heap[:1]), good), base.Heap[2:]...)) {
		t.Error(n, e)
	}
	for k, o := range []api.Object{{}, {Count: 1}, {Kind: 9}, {Kind: api.ObjInstance, Type: class(id("I"), 0)}, {Kind: api.ObjInstance, Type: class(id("A"), 0)}, {Kind: api.ObjString, Type: class(id("lang/String"), 0), WaitSet: []int{2}}, {Kind: api.ObjString, Type: class(id("lang/String"), 0), Owner: 9, Count: 1}, {Kind: api.ObjArray, Type: class(id("A"), 1), Values: []api.Value{v(3, 77)}}} {
		if r, n, e := heap.Allocate(m, o); e != api.ErrBadArgument || n != 0 || !reflect.DeepEqual(r, m) {
			t.Error(k, n, e)
		}
	}
	m.MaxObjects = 6
	if r, n, e := heap.Allocate(m, api.Object{}); e != api.ErrOutOfMemory || n != 0 || !reflect.DeepEqual(r, m) {
		t.Error(n, e)
	}
}

func TestNewObjectAndArray(t *testing.T) { // P36.3
	m, id := example(t)
	m.MaxObjects = 1
	r, n, e := heap.NewObject(m, id("B"))
	if e != api.OK || n != 1 || !slices.Equal(r.Heap[0].Values, []api.Value{v(1, 0), v(3, 0), v(2, 0)}) || !heap.Valid(r) {
		t.Error(n, e)
	}
	for _, x := range []struct {
		c int
		e api.Errno
	}{{-1, api.ErrRange}, {99, api.ErrRange}, {id("Abs"), api.ErrAbstractMethod}, {id("I"), api.ErrAbstractMethod}, {id("B"), api.ErrOutOfMemory}} {
		if s, n, e := heap.NewObject(r, x.c); e != x.e || n != 0 || !reflect.DeepEqual(s, r) {
			t.Error(x, n, e)
		}
	}
	i := api.RuntimeType{Base: 'I'}
	r, n, e = heap.NewArray(m, i, 2)
	if e != api.OK || n != 1 || !slices.Equal(r.Heap[0].Values, []api.Value{v(1, 0), v(1, 0)}) || r.Heap[0].Type != (api.RuntimeType{Dim: 1, Base: 'I'}) || !heap.Valid(r) {
		t.Error(n, e)
	}
	if r, _, e := heap.NewArray(m, class(id("A"), 7), 256); e != api.OK || len(r.Heap[0].Values) != 256 || r.Heap[0].Values[255] != v(3, 0) {
		t.Error(e)
	}
	for _, x := range []struct {
		r api.RuntimeType
		n int
		e api.Errno
	}{{api.RuntimeType{}, -1, api.ErrRange}, {class(99, 0), 1, api.ErrRange}, {class(0, 8), -1, api.ErrTooDeep}, {i, -1, api.ErrArraySize}, {i, 257, api.ErrArraySize}, {i, 1 << 40, api.ErrArraySize}, {i, 0, api.ErrOutOfMemory}} {
		if s, n, e := heap.NewArray(r, x.r, x.n); e != x.e || n != 0 || !reflect.DeepEqual(s, r) {
			t.Error(x, n, e)
		}
	}
}

func TestGetAndSet(t *testing.T) { // P36.4, P36.5
	m, _ := full(t)
	for _, x := range []struct {
		n, at int
		v     api.Value
		e     api.Errno
	}{{1, 0, v(1, 5), api.OK}, {4, 0, v(2, -1), api.OK}, {0, 9, api.Value{}, api.ErrNullPointer}, {2, 0, api.Value{}, api.ErrRange}, {-1, 0, api.Value{}, api.ErrRange}, {9, 0, api.Value{}, api.ErrRange}, {3, 2, api.Value{}, api.ErrIndexOutOfBounds}, {3, -1, api.Value{}, api.ErrIndexOutOfBounds}, {5, 0, api.Value{}, api.ErrIndexOutOfBounds}} {
		if got, e := heap.Get(m, x.n, x.at); got != x.v || e != x.e {
			t.Error(x, got, e)
		}
		if x.e == api.OK {
			continue
		}
		if r, e := heap.Set(m, x.n, x.at, v(1, 1)); e != x.e || !reflect.DeepEqual(r, m) {
			t.Error(x, e)
		}
	}
	for _, x := range []struct {
		n, at int
		v     api.Value
	}{{1, 0, v(2, 1)}, {1, 0, v(1, 1<<31)}, {3, 0, v(3, 2)}, {3, 0, api.Value{}}} {
		if r, e := heap.Set(m, x.n, x.at, x.v); e != api.ErrTypeMismatch || !reflect.DeepEqual(r, m) {
			t.Error(x, e)
		}
	}
	r, e := heap.Set(m, 3, 1, v(3, 5))
	if got, _ := heap.Get(r, 3, 1); e != api.OK || got != v(3, 5) || !heap.Valid(r) {
		t.Error(got, e)
	}
	if old, _ := heap.Get(m, 3, 1); old != v(3, 1) {
		t.Error("the argument has changed")
	}
	r.Heap[2].Values[1] = v(3, 1)
	if !reflect.DeepEqual(r, m) {
		t.Error("something else has changed")
	}
}
