package method_test

import (
	"armature/api"
	"armature/classspace"
	"armature/load"
	"armature/method"
	"armature/sample"
	"slices"
	"testing"
)

const listing = `
class 1537 I extends lang/Object
m 1 g ()V
m 1025 h ()V
m 1 k ()V
m 9 st ()V
m 1 u ()V
class 1537 K extends lang/Object
implements I
m 1 g ()V
class 1537 L extends lang/Object
m 1025 k ()V
m 1 u ()V
class 1025 A extends lang/Object
m 1 <init> ()V
m 1 f ()V
m 1 f (I)V
m 2 p ()V
m 9 s ()V
class 1025 B extends A
class 1025 C extends A
implements I
implements K
implements L
class 1 q/D extends lang/Object
m 1 x (LZ;[LZ;)LY;
m 0 hidden ()V
class 0 q/E extends lang/Object`

func example(t *testing.T) (api.ClassSpace, func(int, string) int) {
	t.Helper()
	w, e := sample.Loaded(sample.Root+listing, "to q/ 0\nclass 1 M extends lang/Object\nclass 1 Z extends lang/Object", "class 1 Z extends lang/Object")
	if e != api.OK {
		t.Fatal(e)
	}
	return w, func(l int, s string) int {
		c, ok := classspace.FindLoaded(w, l, s)
		if !ok {
			t.Fatal(s)
		}
		return c
	}
}

func TestDeclaredAndGet(t *testing.T) { // P31.1
	w, id := example(t)
	a := id(0, "A")
	if i, ok := method.Declared(w, a, "f", "(I)V"); i != 2 || !ok {
		t.Error(i, ok)
	}
	for _, c := range []int{-1, 99, id(0, "B")} {
		if i, ok := method.Declared(w, c, "f", "()V"); i != 0 || ok {
			t.Error(c, i, ok)
		}
	}
	if m, ok := method.Get(w, api.MemberRef{Class: a, Index: 3}); !ok || m.Name != "p" {
		t.Error(m, ok)
	}
	for _, r := range []api.MemberRef{{Class: -1}, {Class: 99}, {Class: a, Index: -1}, {Class: a, Index: 5}} {
		if m, ok := method.Get(w, r); ok || m.Name != "" || m.HasCode {
			t.Error(r, m, ok)
		}
	}
}

func TestMaximallySpecific(t *testing.T) { // P31.2
	w, id := example(t)
	i, k, l, c := id(0, "I"), id(0, "K"), id(0, "L"), id(0, "C")
	at := func(c, n int) api.MemberRef { return api.MemberRef{Class: c, Index: n} }
	for _, x := range []struct {
		c    int
		name string
		want []api.MemberRef
	}{{c, "g", []api.MemberRef{at(k, 0)}}, {c, "h", []api.MemberRef{at(i, 1)}}, {c, "k", []api.MemberRef{at(i, 2), at(l, 0)}}, {c, "u", []api.MemberRef{at(i, 4), at(l, 1)}}, {c, "st", nil}, {c, "f", nil}, {i, "g", []api.MemberRef{at(i, 0)}}, {k, "h", []api.MemberRef{at(i, 1)}}, {id(0, "A"), "g", nil}, {-1, "g", nil}, {99, "g", nil}} {
		if got := method.MaximallySpecific(w, x.c, x.name, "()V"); !slices.Equal(got, x.want) {
			t.Error(x, got)
		}
	}
}

func TestLookup(t *testing.T) { // P31.3, P31.5
	w, id := example(t)
	a, b, c, i, k, o := id(0, "A"), id(0, "B"), id(0, "C"), id(0, "I"), id(0, "K"), id(0, "lang/Object")
	at := func(c, n int) api.MemberRef { return api.MemberRef{Class: c, Index: n} }
	for _, x := range []struct {
		c    int
		name string
		f    api.MemberRef
		e    api.Errno
	}{
		{b, "f", at(a, 1), api.OK}, {c, "p", at(a, 3), api.OK}, {c, "g", at(k, 0), api.OK}, {c, "k", at(i, 2), api.OK}, {c, "u", at(i, 4), api.OK}, {c, "h", at(i, 1), api.OK}, {i, "st", at(i, 3), api.OK}, {i, "<init>", at(o, 0), api.OK}, {k, "h", at(i, 1), api.OK}, {k, "st", api.MemberRef{}, api.ErrNoMethod}, {b, "g", api.MemberRef{}, api.ErrNoMethod}, {-1, "f", api.MemberRef{}, api.ErrRange}, {99, "f", api.MemberRef{}, api.ErrRange},
	} {
		f, e := method.Lookup(w, x.c, x.name, "()V")
		if f != x.f || e != x.e {
			t.Error(x, f, e)
		}
		if m, ok := method.Get(w, f); e == api.OK && (!ok || m.Name != x.name || m.Desc != "()V" || !classspace.IsSubtype(w, x.c, f.Class)) {
			t.Error(m, ok)
		}
	}
}

func TestResolve(t *testing.T) { // P31.4, P31.5
	w, id := example(t)
	a, b, d, m := id(0, "A"), id(0, "B"), id(0, "q/D"), id(1, "M")
	for _, x := range []struct {
		from        int
		class, name string
		iface       bool
		e           api.Errno
	}{
		{b, "A", "f", false, api.OK}, {b, "I", "g", true, api.OK}, {99, "1", "f", false, api.ErrRange}, {b, "1", "f", false, api.ErrBadName}, {b, "X", "f", false, api.ErrNoClass}, {b, "q/E", "f", true, api.ErrIllegalAccess}, {b, "A", "none", true, api.ErrIncompatibleChange}, {b, "I", "g", false, api.ErrIncompatibleChange}, {b, "A", "none", false, api.ErrNoMethod}, {b, "A", "<init>", false, api.OK}, {b, "B", "<init>", false, api.ErrNoMethod}, {b, "B", "p", false, api.ErrIllegalAccess}, {a, "B", "p", false, api.OK}, {m, "q/D", "hidden", false, api.ErrIllegalAccess}, {d, "q/D", "hidden", false, api.OK}, {d, "A", "s", false, api.OK},
	} {
		r, f, e := method.Resolve(w, x.from, api.Ref{Class: x.class, Name: x.name, Desc: "()V"}, x.iface)
		if e != x.e || e != api.OK && (!classspace.Equal(r, w) || f != (api.MemberRef{})) {
			t.Error(x, f, e)
		}
	}
}

func TestResolveConstraints(t *testing.T) { // P31.4, P31.5
	w, e := sample.Space(sample.Root+"\nclass 1 q/D extends lang/Object\nm 1 x (LZ;[LZ;J)LY;", "to q/ 0\nclass 1 M extends lang/Object\nclass 1 Z extends lang/Object", "class 1 Z extends lang/Object")
	if e != api.OK {
		t.Fatal(e)
	}
	w, m, _ := load.Load(w, 1, "M")
	r := api.Ref{Class: "q/D", Name: "x", Desc: "(LZ;[LZ;J)LY;"}
	s, f, e := method.Resolve(w, m, r, false)
	if e != api.OK || !slices.Equal(s.Constraints, []api.Constraint{{Name: "Z", A: 1, B: 0}, {Name: "Y", A: 1, B: 0}}) {
		t.Fatal(s.Constraints, f, e)
	}
	if again, g, e := method.Resolve(s, m, r, false); e != api.OK || g != f || !classspace.Equal(again, s) {
		t.Error(g, e)
	}
	w, _, _ = load.Load(w, 1, "Z")
	w, _, _ = load.Load(w, 2, "Z")
	w.Constraints = []api.Constraint{{Name: "Z", A: 0, B: 2}}
	if s, f, e := method.Resolve(w, m, r, false); e != api.ErrLoadingConstraint || f != (api.MemberRef{}) || !classspace.Equal(s, w) {
		t.Error(f, e)
	}
}
