package reflection_test

import (
	"armature/api"
	"armature/classspace"
	"armature/field"
	"armature/heap"
	"armature/method"
	"armature/reflection"
	"armature/sample"
	"reflect"
	"slices"
	"testing"
)

const listing = `class 1537 I extends lang/Object
field 25 k I = int 4
field 25 x I = int 5
m 1 d ()V
class 1 A extends lang/Object
field 1 x I
field 1 r LA;
field 17 fin I
field 9 s J
field 25 sf I = int 6
m 1 <init> ()V
m 1 f (ILA;)I
m 2 p ()V
m 9 st (J)V
m 257 nat ()V
method 8 <clinit> ()V
code 0 0
return
end
class 1025 p/B extends A
implements I
field 1 x I
field 1 y [I
m 1 f (ILA;)I
m 1025 abs ()V
class 1 C extends p/B
m 1 <init> ()V
m 1 abs ()V
class 1 Z extends lang/Object
field 1 u LUnknown;
m 1 g (LUnknown;)V`

func v(kind, n int) api.Value { return api.Value{Kind: kind, N: n} }

// example has objects 1: A, 2: C, 3: Z, 4: int[]; A is initialized.
func example(t *testing.T) (api.Machine, func(string) int, func(string, string) api.MemberRef, func(string, string) api.MemberRef) {
	t.Helper()
	m, e := sample.Machine(9, listing)
	if e != api.OK {
		t.Fatal(e)
	}
	id := func(s string) int {
		c, ok := classspace.FindLoaded(m.Space, 0, s)
		if !ok {
			t.Fatal(s)
		}
		return c
	}
	for _, s := range []string{"A", "C", "Z"} {
		m, _, _ = heap.NewObject(m, id(s))
	}
	m, _, _ = heap.NewArray(m, api.RuntimeType{Base: 'I'}, 1)
	m.Threads = make([]api.Thread, 1)
	m.Init = make([]api.InitRecord, id("A")+1)
	m.Init[id("A")] = api.InitRecord{State: api.Initialized, Statics: []api.Value{v(2, 9), v(1, 6)}}
	if !heap.Valid(m) || len(m.Heap) != 4 {
		t.Fatal("not valid")
	}
	w := m.Space
	fieldOf := func(c, n string) api.MemberRef {
		i := slices.IndexFunc(w.Classes[id(c)].Model.Fields, func(f api.Field) bool { return f.Name == n })
		return api.MemberRef{Class: id(c), Index: i}
	}
	return m, id, fieldOf, func(c, n string) api.MemberRef {
		i := slices.IndexFunc(w.Classes[id(c)].Model.Methods, func(f api.Method) bool { return f.Name == n })
		return api.MemberRef{Class: id(c), Index: i}
	}
}

func TestClasses(t *testing.T) { // P49.1
	m, id, _, _ := example(t)
	for n, want := range map[int]api.Errno{0: api.ErrNullPointer, -1: api.ErrRange, 9: api.ErrRange, 4: api.ErrClassCast, 2: api.OK} {
		c, e := reflection.ClassOf(m, n)
		if e != want || e == api.OK && c != id("C") || e != api.OK && c != 0 {
			t.Error(n, c, e)
		}
	}
	a := api.RuntimeType{Base: 'L', Class: id("A")}
	for n, want := range map[int]bool{0: false, 1: true, 2: true, 3: false, 4: false, 9: false} {
		if reflection.IsInstance(m, n, a) != want {
			t.Error(n)
		}
	}
	if !reflection.IsInstance(m, 4, api.RuntimeType{Dim: 1, Base: 'I'}) || reflection.IsInstance(m, 4, api.RuntimeType{}) {
		t.Error("arrays")
	}
	for want, r := range map[string]api.RuntimeType{"int": {Base: 'I'}, "long[]": {Dim: 1, Base: 'J'}, "p.B[][]": {Dim: 2, Base: 'L', Class: id("p/B")}, "A": a, "": {Base: 'L', Class: 99}} {
		if s := reflection.TypeName(m.Space, r); s != want {
			t.Error(s, want)
		}
	}
}

func TestLists(t *testing.T) { // P49.2, P49.6
	m, id, fieldOf, methodOf := example(t)
	w := m.Space
	if l := reflection.Fields(w, id("C")); !slices.Equal(l, []api.MemberRef{fieldOf("p/B", "x"), fieldOf("p/B", "y"), fieldOf("I", "k"), fieldOf("A", "r"), fieldOf("A", "fin"), fieldOf("A", "s"), fieldOf("A", "sf")}) {
		t.Error(l)
	}
	for c := range w.Classes {
		for _, f := range reflection.Fields(w, c) {
			x, _ := field.Get(w, f)
			if g, e := field.Lookup(w, c, x.Name, x.Desc); g != f || e != api.OK {
				t.Error(c, f, g, e)
			}
		}
	}
	l := reflection.Methods(w, id("A"))
	var names []string
	for _, f := range l {
		x, _ := method.Get(w, f)
		names = append(names, x.Name)
	}
	if !slices.Equal(names, []string{"wait", "notify", "notifyAll", "f", "nat", "st", "<clinit>"}) {
		t.Error(names)
	}
	if l := reflection.Methods(w, id("C")); len(l) != 6 || l[3] != methodOf("p/B", "f") || l[5] != methodOf("C", "abs") {
		t.Error(l)
	}
	for _, c := range []int{-1, 99} {
		if len(reflection.Fields(w, c))+len(reflection.Methods(w, c)) != 0 {
			t.Error(c)
		}
	}
}

func TestGetAndSet(t *testing.T) { // P49.3, P49.4, P49.6
	m, _, fieldOf, _ := example(t)
	none := api.MemberRef{Class: 99}
	for k, x := range []struct {
		n   int
		f   api.MemberRef
		v   api.Value
		get api.Errno
		set api.Errno
	}{
		{1, fieldOf("A", "x"), v(1, 7), api.OK, api.OK}, {2, fieldOf("A", "x"), v(1, 7), api.OK, api.OK}, {2, fieldOf("p/B", "x"), v(1, 7), api.OK, api.OK}, {2, fieldOf("A", "r"), v(3, 2), api.OK, api.OK}, {0, fieldOf("A", "s"), v(2, 3), api.OK, api.OK}, {2, fieldOf("p/B", "y"), v(3, 4), api.OK, api.OK},
		{1, none, v(1, 7), api.ErrRange, api.ErrRange}, {1, fieldOf("A", "s"), v(2, 3), api.ErrClassCast, api.ErrClassCast}, {0, fieldOf("I", "k"), v(1, 3), api.ErrInitFailed, api.ErrInitFailed}, {0, fieldOf("A", "x"), v(1, 3), api.ErrNullPointer, api.ErrNullPointer}, {9, fieldOf("A", "x"), v(1, 3), api.ErrRange, api.ErrRange}, {4, fieldOf("A", "x"), v(1, 3), api.ErrClassCast, api.ErrClassCast}, {1, fieldOf("p/B", "x"), v(1, 3), api.ErrClassCast, api.ErrClassCast},
		{1, fieldOf("A", "x"), v(2, 7), api.OK, api.ErrTypeMismatch}, {1, fieldOf("A", "x"), v(1, 1<<31), api.OK, api.ErrTypeMismatch}, {1, fieldOf("A", "r"), v(3, 3), api.OK, api.ErrTypeMismatch}, {1, fieldOf("A", "fin"), v(2, 7), api.OK, api.ErrTypeMismatch}, {1, fieldOf("A", "fin"), v(1, 7), api.OK, api.ErrFinal}, {0, fieldOf("A", "sf"), v(1, 7), api.OK, api.ErrFinal}, {3, fieldOf("Z", "u"), v(3, 0), api.OK, api.ErrNoClass}, {1, fieldOf("A", "r"), v(3, 0), api.OK, api.OK},
	} {
		old, e := reflection.Get(m, x.n, x.f)
		if e != x.get || e != api.OK && old != (api.Value{}) {
			t.Error(k, old, e)
		}
		r, e := reflection.Set(m, x.n, x.f, x.v)
		if e != x.set || e != api.OK && !reflect.DeepEqual(r, m) || !heap.Valid(r) {
			t.Error(k, e)
		}
		if e != api.OK {
			continue
		}
		if got, e := reflection.Get(r, x.n, x.f); got != x.v || e != api.OK {
			t.Error(k, got, e)
		}
		back, e := reflection.Set(r, x.n, x.f, old)
		if back.Space = m.Space; e != api.OK || !reflect.DeepEqual(back, m) {
			t.Error("another field has changed", k, e)
		}
	}
}

func TestInvoke(t *testing.T) { // P49.5, P49.6
	m, _, _, at := example(t)
	ended := m
	ended.Threads = []api.Thread{{State: api.Terminated}}
	for k, x := range []struct {
		m    api.Machine
		t, n int
		f    api.MemberRef
		args []api.Value
		e    api.Errno
	}{
		{m, 0, 0, api.MemberRef{Class: 99}, nil, api.ErrRange}, {m, 0, 1, at("A", "st"), nil, api.ErrClassCast}, {m, 0, 0, at("A", "f"), nil, api.ErrNullPointer}, {m, 0, 9, at("A", "f"), nil, api.ErrRange}, {m, 0, 4, at("A", "f"), nil, api.ErrClassCast}, {m, 0, 3, at("A", "f"), nil, api.ErrClassCast}, {m, 0, 1, at("A", "nat"), []api.Value{{}}, api.ErrNoNative}, {m, 0, 1, at("A", "f"), []api.Value{v(1, 1)}, api.ErrTooMany}, {m, 0, 1, at("A", "f"), []api.Value{v(2, 1), v(3, 99)}, api.ErrTypeMismatch}, {m, 0, 1, at("A", "f"), []api.Value{v(1, 1), v(3, 3)}, api.ErrTypeMismatch}, {m, 0, 3, at("Z", "g"), []api.Value{v(3, 0)}, api.ErrNoClass}, {m, 1, 1, at("A", "f"), []api.Value{v(1, 1), v(3, 0)}, api.ErrRange}, {ended, 0, 1, at("A", "f"), []api.Value{v(1, 1), v(3, 0)}, api.ErrTerminated}, {m, 0, 1, at("p/B", "abs"), nil, api.ErrClassCast},
	} {
		if r, e := reflection.Invoke(x.m, x.t, x.n, x.f, x.args); e != x.e || !reflect.DeepEqual(r, x.m) {
			t.Error(k, e)
		}
	}
	cold := m
	cold.Init = nil
	if _, e := reflection.Invoke(cold, 0, 0, at("A", "st"), []api.Value{v(2, 1)}); e != api.ErrInitFailed {
		t.Error(e)
	}
	for k, x := range []struct {
		n      int
		f, g   api.MemberRef
		args   []api.Value
		locals []api.Value
	}{{2, at("A", "f"), at("p/B", "f"), []api.Value{v(1, 1), v(3, 1)}, []api.Value{v(3, 2), v(1, 1), v(3, 1)}}, {1, at("A", "f"), at("A", "f"), []api.Value{v(1, 1), v(3, 0)}, []api.Value{v(3, 1), v(1, 1), v(3, 0)}}, {0, at("A", "st"), at("A", "st"), []api.Value{v(2, 1)}, []api.Value{v(2, 1)}}, {2, at("p/B", "abs"), at("C", "abs"), nil, []api.Value{v(3, 2)}}, {2, at("I", "d"), at("I", "d"), nil, []api.Value{v(3, 2)}}, {1, at("A", "p"), at("A", "p"), nil, []api.Value{v(3, 1)}}} {
		r, e := reflection.Invoke(m, 0, x.n, x.f, x.args)
		if e != api.OK || !heap.Valid(r) {
			t.Error(k, e)
			continue
		}
		if a := r.Threads[0].Activations[0]; a.Class != x.g.Class || a.Method != x.g.Index || !slices.Equal(a.Locals, x.locals) {
			t.Error(k, a)
		}
	}
}
