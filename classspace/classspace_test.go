package classspace_test

import (
	"armature/api"
	"armature/classspace"
	"armature/load"
	"armature/sample"
	"slices"
	"strings"
	"testing"
)

func space(t *testing.T, listings ...string) api.ClassSpace {
	t.Helper()
	w, e := sample.Space(listings...)
	if e != api.OK {
		t.Fatal(e)
	}
	return w
}

func loaded(t *testing.T, w api.ClassSpace, loader int, names ...string) api.ClassSpace {
	t.Helper()
	w, _, e := load.LoadAll(w, loader, names)
	if e != api.OK {
		t.Fatal(names, e)
	}
	return w
}

// example has A, B extends A, the interfaces I and J extends I, C implements J, p/D in loader 1 and its own B.
func example(t *testing.T) api.ClassSpace {
	w := space(t, sample.Root+"\nclass 1 A extends lang/Object\nclass 1 B extends A\nclass 1537 I extends lang/Object\nclass 1537 J extends lang/Object\nimplements I\nclass 1 C extends B\nimplements J\nclass 1 q/X extends lang/Object",
		"to A 0\nto q/ 0\nclass 1 p/D extends A\nclass 1 p/E extends lang/Object\nclass 1 B extends lang/Object")
	return loaded(t, loaded(t, w, 0, "C", "q/X"), 1, "p/D", "p/E", "B")
}

func find(t *testing.T, w api.ClassSpace, loader int, s string) int {
	t.Helper()
	c, ok := classspace.FindLoaded(w, loader, s)
	if !ok {
		t.Fatal(s)
	}
	return c
}

func TestNew(t *testing.T) { // P25.1
	many := make([]api.StoredClass, 65)
	for i := range many {
		many[i].Name = "A" + strings.Repeat("x", i%60) + strings.Repeat("y", i/60)
	}
	long := make([]api.Delegation, 9)
	two := func(a, b api.Loader) []api.Loader { return []api.Loader{a, b} }
	for k, x := range []struct {
		l []api.Loader
		e api.Errno
	}{
		{nil, api.ErrTooMany}, {make([]api.Loader, 9), api.ErrTooMany}, {make([]api.Loader, 8), api.OK}, {two(api.Loader{Delegations: make([]api.Delegation, 1)}, api.Loader{Delegations: long}), api.ErrTooMany}, {two(api.Loader{}, api.Loader{Delegations: long[:8]}), api.OK}, {two(api.Loader{}, api.Loader{Store: many}), api.ErrTooMany}, {two(api.Loader{}, api.Loader{Store: many[:64]}), api.OK},
		{[]api.Loader{{Delegations: []api.Delegation{{To: 0}}}}, api.ErrRange}, {two(api.Loader{Store: []api.StoredClass{{}}}, api.Loader{Delegations: []api.Delegation{{To: 1}}}), api.ErrRange}, {two(api.Loader{}, api.Loader{Delegations: []api.Delegation{{To: -1}}}), api.ErrRange}, {two(api.Loader{}, api.Loader{Delegations: []api.Delegation{{To: 0}}}), api.OK},
		{two(api.Loader{Store: []api.StoredClass{{Name: "A"}, {Name: "A"}}}, api.Loader{Store: []api.StoredClass{{Name: "1"}}}), api.ErrBadName}, {two(api.Loader{}, api.Loader{Store: []api.StoredClass{{Name: "lang/X"}}}), api.ErrBadName}, {[]api.Loader{{Store: []api.StoredClass{{Name: "lang/X"}}}}, api.OK}, {[]api.Loader{{Store: []api.StoredClass{{Name: "A"}, {Name: "B"}, {Name: "A"}}}}, api.ErrDuplicate}, {two(api.Loader{Store: []api.StoredClass{{Name: "A"}}}, api.Loader{Store: []api.StoredClass{{Name: "A"}}}), api.OK},
	} {
		w, e := classspace.New(x.l)
		if e != x.e || e == api.OK && (!classspace.Valid(w) || len(w.Loaders) != len(x.l)) || e != api.OK && !classspace.Equal(w, api.ClassSpace{}) {
			t.Error(k, e)
		}
	}
}

func TestDelegation(t *testing.T) { // P25.3, P25.6
	w := space(t, sample.Root, "to p/ 0\nclass 1 q/A extends lang/Object", "to p/q 0\nto p/ 1\nto * 1")
	for _, x := range []struct {
		loader   int
		s        string
		to, last int
	}{{1, "p/A", 0, 0}, {1, "q/A", 1, 1}, {1, "lang/Object", 0, 0}, {2, "p/qA", 0, 0}, {2, "p/A", 1, 0}, {2, "z", 1, 1}, {2, "", 1, 1}, {0, "z", 0, 0}, {2, "lang/", 0, 0}, {2, "lang", 1, 1}, {3, "z", -1, -1}, {-1, "lang/Object", -1, -1}} {
		if to, last := classspace.Delegate(w, x.loader, x.s), classspace.DefiningLoader(w, x.loader, x.s); to != x.to || last != x.last {
			t.Error(x, to, last)
		}
	}
	if s, ok := classspace.StoredBytes(w, 1, "q/A"); !ok || s != w.Loaders[1].Store[0].Bytes {
		t.Error(s, ok)
	}
	for _, l := range []int{-1, 0, 3} {
		if s, ok := classspace.StoredBytes(w, l, "q/A"); ok || s != "" {
			t.Error(l, s, ok)
		}
	}
	w = loaded(t, w, 1, "q/A")
	if c, ok := classspace.FindLoaded(w, 1, "q/A"); !ok || w.Classes[c].Model.Name != "q/A" {
		t.Error(c, ok)
	}
	for _, l := range []int{-1, 0, 2, 9} {
		if c, ok := classspace.FindLoaded(w, l, "q/A"); ok || c != 0 {
			t.Error(l, c, ok)
		}
	}
}

func TestSubtypes(t *testing.T) { // P25.4, P25.6
	w := example(t)
	if !classspace.Valid(w) {
		t.Fatal("not valid")
	}
	id := func(s string) int { return find(t, w, 0, s) }
	c, b, a, o := id("C"), id("B"), id("A"), id("lang/Object")
	if l := classspace.Superclasses(w, c); !slices.Equal(l, []int{c, b, a, o}) || len(classspace.Superclasses(w, -1)) != 0 || len(classspace.Superclasses(w, 99)) != 0 {
		t.Error(l)
	}
	d, own := find(t, w, 1, "p/D"), find(t, w, 1, "B")
	for _, x := range []struct {
		a, b int
		want bool
	}{{c, c, true}, {c, id("I"), true}, {c, id("J"), true}, {c, a, true}, {a, c, false}, {id("J"), id("I"), true}, {id("I"), id("J"), false}, {id("I"), o, true}, {o, id("I"), false}, {d, a, true}, {own, b, false}, {c, own, false}, {b, id("J"), false}, {-1, -1, false}, {99, o, false}, {c, 99, false}} {
		if got := classspace.IsSubtype(w, x.a, x.b); got != x.want {
			t.Error(x, got)
		}
	}
	for _, x := range []struct {
		a, b int
		want bool
	}{{a, b, true}, {b, own, false}, {d, find(t, w, 1, "p/E"), true}, {a, id("q/X"), false}, {a, -1, false}, {99, a, false}} {
		if got := classspace.SamePackage(w, x.a, x.b); got != x.want {
			t.Error(x, got)
		}
	}
	n := len(w.Classes)
	for x := range n {
		for y := range n {
			if x != y && classspace.IsSubtype(w, x, y) && classspace.IsSubtype(w, y, x) {
				t.Error(x, y)
			}
			for z := range n {
				if classspace.IsSubtype(w, x, y) && classspace.IsSubtype(w, y, z) && !classspace.IsSubtype(w, x, z) {
					t.Error(x, y, z)
				}
			}
		}
	}
}

func TestValid(t *testing.T) { // P25.2, P25.5
	base := example(t)
	copied := func() api.ClassSpace {
		w := base
		w.Loaders, w.Classes, w.Initiated = slices.Clone(w.Loaders), slices.Clone(w.Classes), slices.Clone(w.Initiated)
		return w
	}
	last := len(base.Classes) - 1
	c, b := find(t, base, 0, "C"), find(t, base, 0, "B")
	for k, f := range []func(*api.ClassSpace){
		func(w *api.ClassSpace) { w.Loaders = nil }, func(w *api.ClassSpace) { w.Classes[c].Loader = 1 }, func(w *api.ClassSpace) { w.Classes[c].Loader = -1 }, func(w *api.ClassSpace) { w.Classes[c].Model.Flags = -1 }, func(w *api.ClassSpace) { w.Classes[c].Super = -1 }, func(w *api.ClassSpace) { w.Classes[c].Super = c }, func(w *api.ClassSpace) { w.Classes[c].Super = 0 }, func(w *api.ClassSpace) { w.Classes[c].Super = find(t, base, 1, "B") }, func(w *api.ClassSpace) { w.Classes[c].Interfaces = nil }, func(w *api.ClassSpace) { w.Classes[c].Interfaces = []int{b} }, func(w *api.ClassSpace) { w.Classes[c].Interfaces = []int{-1} },
		func(w *api.ClassSpace) { w.Classes[c].Stage = 3 }, func(w *api.ClassSpace) { w.Classes[c].Stage = -1 }, func(w *api.ClassSpace) { w.Classes[c].Stage = api.LinkFailed }, func(w *api.ClassSpace) { w.Classes[c].Err = 5 }, func(w *api.ClassSpace) { w.Classes = append(w.Classes, w.Classes[last]) }, func(w *api.ClassSpace) { w.Initiated = w.Initiated[:len(w.Initiated)-1] }, func(w *api.ClassSpace) { w.Initiated[0].Class = 1 }, func(w *api.ClassSpace) { w.Initiated = append(w.Initiated, w.Initiated[0]) }, func(w *api.ClassSpace) { w.Initiated[0].Loader = 7 }, func(w *api.ClassSpace) { w.Initiated[0].Class = 99 },
		func(w *api.ClassSpace) { w.Constraints = []api.Constraint{{Name: "B", A: 0, B: 1}} }, func(w *api.ClassSpace) { w.Constraints = []api.Constraint{{Name: "A", A: 0, B: 2}} }, func(w *api.ClassSpace) { w.Constraints = []api.Constraint{{Name: "1", A: 0, B: 1}} }, func(w *api.ClassSpace) { w.Classes[0].Super = 0 }, func(w *api.ClassSpace) { w.Classes = append(w.Classes, make([]api.Class, 200)...) },
		func(w *api.ClassSpace) { w.Classes[c].Model.Super = "A" }, func(w *api.ClassSpace) { w.Classes[c].Model.Name = "Z" },
	} {
		w := copied()
		f(&w)
		if classspace.Valid(w) || classspace.Equal(w, base) || !classspace.Equal(w, w) {
			t.Error(k)
		}
	}
	for k, f := range []func(*api.ClassSpace){
		func(w *api.ClassSpace) {
			w.Constraints = []api.Constraint{{Name: "A", A: 0, B: 1}, {Name: "Z", A: 1, B: 1}}
		}, func(w *api.ClassSpace) { w.Classes[c].Stage = api.Linked }, func(w *api.ClassSpace) { w.Classes[c].Stage, w.Classes[c].Err = api.LinkFailed, api.ErrVerify }, func(w *api.ClassSpace) { w.Loaders[0].Store = nil },
	} {
		w := copied()
		f(&w)
		if !classspace.Valid(w) || classspace.Equal(w, base) {
			t.Error(k)
		}
	}
	if !classspace.Equal(base, copied()) || !classspace.Equal(api.ClassSpace{}, api.ClassSpace{Classes: []api.Class{}}) {
		t.Error("Equal")
	}
}

func TestChainOfConstraints(t *testing.T) { // P25.2
	w := space(t, sample.Root, "class 1 A extends lang/Object", "", "class 1 A extends lang/Object")
	w = loaded(t, loaded(t, w, 1, "A"), 3, "A")
	w.Constraints = []api.Constraint{{Name: "A", A: 1, B: 2}}
	if !classspace.Valid(w) {
		t.Error("not connected")
	}
	w.Constraints = append(w.Constraints, api.Constraint{Name: "A", A: 3, B: 2})
	if classspace.Valid(w) {
		t.Error("connected by a chain")
	}
}
