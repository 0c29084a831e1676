package field_test

import (
	"armature/api"
	"armature/classspace"
	"armature/field"
	"armature/load"
	"armature/sample"
	"strconv"
	"strings"
	"testing"
)

const listing = `
class 1537 I extends lang/Object
field 25 y I
field 25 w I
class 1537 J extends lang/Object
implements I
field 25 y I
class 1 A extends lang/Object
field 1 x I
field 1 y I
field 1 x J
field 2 p I
field 8 s LZ;
field 4 q I
class 1 B extends A
implements I
implements J
field 1 x I
class 0 q/Hidden extends lang/Object
field 9 h I
class 1 q/C extends A`

func example(t *testing.T) (api.ClassSpace, func(int, string) int) {
	t.Helper()
	w, e := sample.Loaded(sample.Root+listing, "to A 0\nclass 1 M extends lang/Object\nclass 1 Z extends lang/Object", "class 1 Z extends lang/Object")
	if e != api.OK {
		t.Fatal(e)
	}
	return w, func(l int, s string) int {
		c, ok := classspace.FindLoaded(w, l, s)
		if !ok {
			t.Fatal(s)
		}
		return c
	}
}

func TestDeclaredAndGet(t *testing.T) { // P30.1
	w, id := example(t)
	a := id(0, "A")
	if i, ok := field.Declared(w, a, "x", "J"); i != 2 || !ok {
		t.Error(i, ok)
	}
	for _, c := range []int{-1, 99, id(0, "B")} {
		if i, ok := field.Declared(w, c, "y", "I"); i != 0 || ok {
			t.Error(c, i, ok)
		}
	}
	if f, ok := field.Get(w, api.MemberRef{Class: a, Index: 3}); !ok || f.Name != "p" {
		t.Error(f, ok)
	}
	for _, r := range []api.MemberRef{{Class: -1}, {Class: 99}, {Class: a, Index: -1}, {Class: a, Index: 6}} {
		if f, ok := field.Get(w, r); ok || f != (api.Field{}) {
			t.Error(r, f, ok)
		}
	}
}

func TestLookup(t *testing.T) { // P30.2, P30.5
	w, id := example(t)
	a, b, i := id(0, "A"), id(0, "B"), id(0, "I")
	for _, x := range []struct {
		c          int
		name, desc string
		f          api.MemberRef
		e          api.Errno
	}{
		{b, "x", "I", api.MemberRef{Class: b}, api.OK}, {b, "y", "I", api.MemberRef{Class: i}, api.OK}, {b, "x", "J", api.MemberRef{Class: a, Index: 2}, api.OK}, {id(0, "J"), "w", "I", api.MemberRef{Class: i, Index: 1}, api.OK}, {b, "p", "I", api.MemberRef{Class: a, Index: 3}, api.OK}, {b, "z", "I", api.MemberRef{}, api.ErrNoField}, {b, "y", "J", api.MemberRef{}, api.ErrNoField}, {-1, "x", "I", api.MemberRef{}, api.ErrRange}, {99, "x", "I", api.MemberRef{}, api.ErrRange},
	} {
		f, e := field.Lookup(w, x.c, x.name, x.desc)
		if f != x.f || e != x.e {
			t.Error(x, f, e)
		}
		if g, ok := field.Get(w, f); e == api.OK && (!ok || g.Name != x.name || g.Desc != x.desc || !classspace.IsSubtype(w, x.c, f.Class)) {
			t.Error(g, ok)
		}
	}
}

func TestManyInterfaces(t *testing.T) { // P30.2
	s := sample.Root + "\nclass 1537 I0 extends lang/Object\nclass 1537 J0 extends lang/Object"
	for i := 1; i < 28; i++ {
		n, m := strconv.Itoa(i), strconv.Itoa(i-1)
		both := " extends lang/Object\nimplements I" + m + "\nimplements J" + m
		s += "\nclass 1537 I" + n + both + "\nclass 1537 J" + n + both
	}
	w, e := sample.Loaded(s)
	if e != api.OK {
		t.Fatal(e)
	}
	if _, e := field.Lookup(w, len(w.Classes)-1, "x", "I"); e != api.ErrNoField {
		t.Error(e)
	}
}

func TestResolve(t *testing.T) { // P30.3, P30.4
	w, id := example(t)
	ref := func(s string) api.Ref {
		l := strings.Fields(s)
		return api.Ref{Class: l[0], Name: l[1], Desc: l[2]}
	}
	a, b, c, m := id(0, "A"), id(0, "B"), id(0, "q/C"), id(1, "M")
	for _, x := range []struct {
		from   int
		r      string
		static bool
		f      api.MemberRef
		e      api.Errno
	}{
		{b, "B x I", false, api.MemberRef{Class: b}, api.OK}, {b, "B y I", true, api.MemberRef{Class: id(0, "I")}, api.OK}, {99, "B x I", false, api.MemberRef{}, api.ErrRange}, {-1, "1 x I", false, api.MemberRef{}, api.ErrRange}, {b, "1 x I", false, api.MemberRef{}, api.ErrBadName}, {b, "Nowhere x I", false, api.MemberRef{}, api.ErrNoClass}, {b, "q/Hidden none I", false, api.MemberRef{}, api.ErrIllegalAccess}, {b, "B z I", false, api.MemberRef{}, api.ErrNoField}, {b, "A p I", true, api.MemberRef{}, api.ErrIllegalAccess}, {a, "A p I", false, api.MemberRef{Class: a, Index: 3}, api.OK}, {b, "A x I", true, api.MemberRef{}, api.ErrIncompatibleChange}, {b, "A s LZ;", false, api.MemberRef{}, api.ErrIncompatibleChange}, {c, "A q I", false, api.MemberRef{Class: a, Index: 5}, api.OK}, {m, "A q I", false, api.MemberRef{}, api.ErrIllegalAccess}, {c, "q/Hidden h I", true, api.MemberRef{Class: id(0, "q/Hidden")}, api.OK},
	} {
		r, f, e := field.Resolve(w, x.from, ref(x.r), x.static)
		if f != x.f || e != x.e || e != api.OK && !classspace.Equal(r, w) {
			t.Error(x, f, e)
		}
	}
}

func TestResolveConstraints(t *testing.T) { // P30.3, P30.4
	w, e := sample.Space(sample.Root+"\nclass 1 A extends lang/Object\nfield 9 s [LZ;", "to A 0\nclass 1 M extends lang/Object\nclass 1 Z extends lang/Object", "class 1 Z extends lang/Object")
	if e != api.OK {
		t.Fatal(e)
	}
	w, m, _ := load.Load(w, 1, "M")
	r := api.Ref{Class: "A", Name: "s", Desc: "[LZ;"}
	s, f, e := field.Resolve(w, m, r, true)
	if e != api.OK || len(s.Constraints) != 1 || s.Constraints[0] != (api.Constraint{Name: "Z", A: 1, B: 0}) || s.Classes[f.Class].Model.Name != "A" {
		t.Fatal(s.Constraints, f, e)
	}
	if again, g, e := field.Resolve(s, m, r, true); e != api.OK || g != f || !classspace.Equal(again, s) {
		t.Error(g, e)
	}
	w, _, _ = load.Load(w, 1, "Z")
	w, _, _ = load.Load(w, 2, "Z")
	w.Constraints = []api.Constraint{{Name: "Z", A: 0, B: 2}}
	if s, f, e := field.Resolve(w, m, r, true); e != api.ErrLoadingConstraint || f != (api.MemberRef{}) || !classspace.Equal(s, w) {
		t.Error(f, e)
	}
}
