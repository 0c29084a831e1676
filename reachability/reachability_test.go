package reachability_test

import (
	"armature/api"
	"armature/classspace"
	"armature/heap"
	"armature/load"
	"armature/reachability"
	"armature/sample"
	"slices"
	"testing"
)

const listing = `class 1 A extends lang/Object
field 1 l LA;
field 1 i I
field 1 r LA;
class 1 MySoft extends lang/SoftReference
field 1 own LA;
class 1 H extends lang/Object
field 9 s Llang/Object;
m 9 f ()V`

func v(n int) api.Value { return api.Value{Kind: api.KRef, N: n} }

// builder makes machines whose static field H.s refers to object 1.
type builder struct {
	*testing.T
	m api.Machine
}

func newBuilder(t *testing.T) *builder {
	t.Helper()
	m, e := sample.Machine(50, listing)
	if e != api.OK {
		t.Fatal(e)
	}
	for _, s := range []string{"lang/SoftReference", "lang/WeakReference", "lang/PhantomReference", "lang/String"} {
		if m.Space, _, e = load.Load(m.Space, 0, s); e != api.OK {
			t.Fatal(e)
		}
	}
	b := &builder{t, m}
	b.m.Init = make([]api.InitRecord, b.id("H")+1)
	b.m.Init[b.id("H")] = api.InitRecord{State: api.Initialized, Statics: []api.Value{v(1)}}
	return b
}

func (b *builder) id(s string) int {
	b.Helper()
	c, ok := classspace.FindLoaded(b.m.Space, 0, s)
	if !ok {
		b.Fatal(s)
	}
	return c
}

// add adds an object whose references are given in order; the numbers may be of later objects.
func (b *builder) add(class string, refs ...int) {
	b.Helper()
	o := api.Object{Kind: api.ObjInstance, Type: api.RuntimeType{Base: 'L', Class: b.id(class)}}
	switch class {
	case "A":
		o.Values = []api.Value{v(0), {Kind: api.KInt}, v(0)}
		for i, n := range refs {
			o.Values[2*i] = v(n)
		}
	case "lang/String":
		o.Kind = api.ObjString
	default:
		o.Values = []api.Value{v(refs[0]), {Kind: api.KInt}}
		for _, n := range refs[1:] {
			o.Values = append(o.Values, v(n))
		}
	}
	b.m.Heap = append(b.m.Heap, o)
}

func (b *builder) expect(levels ...int) {
	b.Helper()
	if !heap.Valid(b.m) {
		b.Fatal("not valid")
	}
	got := reachability.Levels(b.m)
	if !slices.Equal(got, levels) {
		b.Error(got, levels)
	}
	for i, strong := range reachability.StronglyReachable(b.m) {
		if strong != (got[i] == 4) {
			b.Error(i)
		}
	}
	for _, n := range reachability.Roots(b.m) {
		if got[n-1] != 4 {
			b.Error("root", n)
		}
	}
	for i := range got {
		for _, n := range reachability.References(b.m, i+1) {
			if got[n-1] < got[i] {
				b.Error("reference", i+1, n)
			}
		}
		if s := reachability.ReferenceStrength(b.m, i+1); s > 0 && b.m.Heap[i].Values[0].N > 0 && got[b.m.Heap[i].Values[0].N-1] < min(s, got[i]) {
			b.Error("referent", i+1)
		}
	}
}

func TestExamples(t *testing.T) { // P50.4, P50.5
	b := newBuilder(t)
	b.add("lang/WeakReference", 2)
	b.add("A")
	b.expect(4, 2)
	b = newBuilder(t)
	b.add("lang/SoftReference", 2)
	b.add("lang/WeakReference", 3)
	b.add("A")
	b.expect(4, 3, 2)
	b = newBuilder(t)
	b.add("lang/WeakReference", 2)
	b.add("lang/SoftReference", 3)
	b.add("A")
	b.expect(4, 2, 2)
}

func TestLevels(t *testing.T) { // P50.4, P50.5
	b := newBuilder(t)
	b.add("A", 2, 3)
	b.add("MySoft", 4, 5)
	b.add("lang/PhantomReference", 6)
	b.add("A", 7, 4)
	b.add("A", 1)
	b.add("A", 4, 8)
	b.add("lang/WeakReference", 9)
	b.add("A")
	b.add("A")
	b.m.Heap = append(b.m.Heap, api.Object{})
	b.add("A", 12)
	b.add("A", 11)
	b.expect(4, 4, 4, 3, 4, 1, 3, 1, 2, 0, 0, 0)
	if l := reachability.References(b.m, 2); !slices.Equal(l, []int{5}) {
		t.Error(l)
	}
	if l := reachability.References(b.m, 4); !slices.Equal(l, []int{7, 4}) {
		t.Error(l)
	}
	for _, n := range []int{0, -1, 10, 13} {
		if len(reachability.References(b.m, n)) != 0 || reachability.ReferenceStrength(b.m, n) != 0 {
			t.Error(n)
		}
	}
	for n, want := range map[int]int{1: 0, 2: 3, 3: 1, 7: 2, 8: 0} {
		if s := reachability.ReferenceStrength(b.m, n); s != want {
			t.Error(n, s)
		}
	}
	b.m.Heap[3].Values[2] = v(7)
	if l := reachability.References(b.m, 4); !slices.Equal(l, []int{7}) {
		t.Error("without duplicates", l)
	}
}

func TestRoots(t *testing.T) { // P50.2
	b := newBuilder(t)
	for range 14 {
		b.add("A")
	}
	b.add("lang/String")
	frame := api.Activation{Class: b.id("H"), Lock: 4}
	if which := b.m.Space.Classes[b.id("H")].Model.Methods[0]; which.Code.Stack != 1 {
		t.Fatal(which)
	}
	frame.Stack = []api.Value{v(3)}
	b.m.Threads = []api.Thread{{Activations: []api.Activation{frame, {Class: 0, Method: -2, Lock: 5}}, Object: 6}, {State: api.Blocked, Monitor: 7}, {State: api.Terminated, Exception: 8, Result: v(9)}, {State: api.Waiting, Monitor: 10, Count: 1}, {State: api.Terminated, Result: api.Value{Kind: api.KLong, N: 13}}}
	b.m.Heap[9].WaitSet = []int{3}
	b.m.Heap[10].Owner, b.m.Heap[10].Count = 1, 1
	b.m.Interned = []api.InternedString{{Object: 15}}
	if !heap.Valid(b.m) {
		t.Fatal("not valid")
	}
	if l := reachability.Roots(b.m); !slices.Equal(l, []int{1, 3, 4, 5, 6, 7, 8, 9, 10, 11, 15}) {
		t.Error(l)
	}
	if l := reachability.Levels(b.m); l[1] != 0 || l[12] != 0 || l[14] != 4 {
		t.Error(l)
	}
	if len(reachability.Roots(api.Machine{Space: b.m.Space}))+len(reachability.Levels(api.Machine{Space: b.m.Space})) != 0 {
		t.Error("an empty machine")
	}
}

func TestLocals(t *testing.T) { // P50.2
	m, e := sample.Machine(9, "class 1 T extends lang/Object\nmethod 9 f ()V\ncode 1 2\nreturn\nend")
	if e != api.OK {
		t.Fatal(e)
	}
	c, _ := classspace.FindLoaded(m.Space, 0, "T")
	m, n, _ := heap.NewObject(m, c)
	m, _, _ = heap.NewObject(m, c)
	m.Threads = []api.Thread{{Activations: []api.Activation{{Class: c, Locals: []api.Value{{Kind: api.KInt, N: 2}, v(n)}}}}}
	if l := reachability.Roots(m); !slices.Equal(l, []int{1}) || !slices.Equal(reachability.Levels(m), []int{4, 0}) || reachability.ReferenceStrength(m, 1) != 0 {
		t.Error(l)
	}
}
