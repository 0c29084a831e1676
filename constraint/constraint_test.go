package constraint_test

import (
	"armature/api"
	"armature/classspace"
	"armature/constraint"
	"armature/load"
	"armature/sample"
	"testing"
)

// example has four loaders; 1 and 2 have defined a class A each.
func example(t *testing.T) api.ClassSpace {
	t.Helper()
	w, e := sample.Space(sample.Root, "class 1 A extends lang/Object", "class 1 A extends lang/Object", "")
	if e != api.OK {
		t.Fatal(e)
	}
	for _, l := range []int{1, 2} {
		if w, _, e = load.Load(w, l, "A"); e != api.OK {
			t.Fatal(e)
		}
	}
	return w
}

func add(t *testing.T, w api.ClassSpace, s string, a, b int) api.ClassSpace {
	t.Helper()
	r, e := constraint.Add(w, s, a, b)
	if e != api.OK || !classspace.Valid(r) || !constraint.Consistent(r) || !constraint.Connected(r, s, a, b) || !constraint.Connected(r, s, b, a) {
		t.Fatal(s, a, b, e)
	}
	return r
}

func TestAdd(t *testing.T) { // P26.1, P26.4
	w := example(t)
	for _, x := range []struct {
		s    string
		a, b int
		e    api.Errno
	}{{"1", 9, 9, api.ErrBadName}, {"", 0, 1, api.ErrBadName}, {"A", -1, 1, api.ErrRange}, {"A", 1, 4, api.ErrRange}, {"A", 1, 2, api.ErrLoadingConstraint}} {
		if r, e := constraint.Add(w, x.s, x.a, x.b); e != x.e || !classspace.Equal(r, w) {
			t.Error(x, e)
		}
	}
	r := add(t, w, "B", 1, 2)
	if len(r.Constraints) != 1 || r.Constraints[0] != (api.Constraint{Name: "B", A: 1, B: 2}) {
		t.Error(r.Constraints)
	}
	for _, p := range [][2]int{{1, 2}, {2, 1}, {3, 3}} {
		if again := add(t, r, "B", p[0], p[1]); !classspace.Equal(again, r) {
			t.Error(p)
		}
	}
	r = add(t, add(t, w, "A", 1, 3), "A", 0, 3)
	if x, e := constraint.Add(r, "A", 2, 0); e != api.ErrLoadingConstraint || !classspace.Equal(x, r) {
		t.Error("chain", e)
	}
	one := add(t, r, "X", 0, 1)
	other := add(t, r, "Y", 0, 1)
	if one.Constraints[2].Name != "X" || other.Constraints[2].Name != "Y" {
		t.Error("the lists share their ends")
	}
	r.Constraints = nil
	if !classspace.Equal(r, w) {
		t.Error("something else has changed")
	}
}

func TestAddAll(t *testing.T) { // P26.1
	w := example(t)
	if r, e := constraint.AddAll(w, []string{"B", "A", "C"}, 1, 2); e != api.ErrLoadingConstraint || !classspace.Equal(r, w) {
		t.Error(e)
	}
	r, e := constraint.AddAll(w, []string{"C", "B", "C"}, 1, 2)
	if e != api.OK || len(r.Constraints) != 2 || r.Constraints[0].Name != "C" {
		t.Error(r.Constraints, e)
	}
	if r, e := constraint.AddAll(w, nil, 7, 7); e != api.OK || !classspace.Equal(r, w) {
		t.Error(e)
	}
}

func TestConnectedAndPermits(t *testing.T) { // P26.2
	w := add(t, add(t, example(t), "B", 1, 2), "B", 3, 2)
	for _, x := range []struct {
		s    string
		a, b int
		want bool
	}{{"B", 1, 3, true}, {"C", 1, 3, false}, {"C", 3, 3, true}, {"", 0, 0, true}, {"B", 0, 1, false}, {"B", 4, 4, false}, {"B", -1, 1, false}, {"B", 1, 4, false}} {
		if got := constraint.Connected(w, x.s, x.a, x.b); got != x.want {
			t.Error(x, got)
		}
	}
	w = add(t, example(t), "A", 1, 3)
	one, _ := classspace.FindLoaded(w, 1, "A")
	two, _ := classspace.FindLoaded(w, 2, "A")
	for _, x := range []struct {
		loader int
		s      string
		c      int
		want   bool
	}{{3, "A", one, true}, {3, "A", two, false}, {1, "A", two, false}, {1, "A", one, true}, {0, "A", two, true}, {0, "A", -5, true}, {2, "A", 99, false}, {4, "A", one, false}, {-1, "B", 0, false}, {3, "!", 1, true}} {
		if got := constraint.Permits(w, x.loader, x.s, x.c); got != x.want {
			t.Error(x, got)
		}
	}
}

func TestConsistent(t *testing.T) { // P26.3
	in := func(l int, s string, c int) api.Initiated { return api.Initiated{Loader: l, Name: s, Class: c} }
	con := func(s string, a, b int) api.Constraint { return api.Constraint{Name: s, A: a, B: b} }
	for k, x := range []struct {
		w    api.ClassSpace
		want bool
	}{
		{api.ClassSpace{}, true}, {api.ClassSpace{Initiated: []api.Initiated{in(-5, "", 1), in(-5, "", 2)}}, false}, {api.ClassSpace{Initiated: []api.Initiated{in(-5, "", 1), in(-5, "", 1)}}, true}, {api.ClassSpace{Initiated: []api.Initiated{in(1, "A", 1), in(2, "A", 2)}}, true},
		{api.ClassSpace{Initiated: []api.Initiated{in(1, "A", 1), in(900, "A", 2)}, Constraints: []api.Constraint{con("A", -7, 900), con("A", 1, -7)}}, false}, {api.ClassSpace{Initiated: []api.Initiated{in(1, "A", 1), in(900, "A", 2)}, Constraints: []api.Constraint{con("A", -7, 900), con("B", 1, -7)}}, true}, {api.ClassSpace{Initiated: []api.Initiated{in(1, "A", 1), in(2, "B", 2)}, Constraints: []api.Constraint{con("A", 1, 2), con("B", 2, 1), con("B", 1, 1)}}, true},
	} {
		if got := constraint.Consistent(x.w); got != x.want {
			t.Error(k, got)
		}
	}
}

func TestOrder(t *testing.T) { // P26.5
	w := example(t)
	pairs := []api.Constraint{{Name: "A", A: 1, B: 3}, {Name: "A", A: 2, B: 3}, {Name: "A", A: 0, B: 3}, {Name: "B", A: 1, B: 2}, {Name: "A", A: 2, B: 0}}
	both := func(x, y api.Constraint) (api.ClassSpace, bool) {
		r, e := constraint.Add(w, x.Name, x.A, x.B)
		if e == api.OK {
			r, e = constraint.Add(r, y.Name, y.A, y.B)
		}
		return r, e == api.OK
	}
	for _, x := range pairs {
		for _, y := range pairs {
			p, okP := both(x, y)
			q, okQ := both(y, x)
			if okP != okQ {
				t.Error(x, y)
			}
			for a := range 4 {
				for b := range 4 {
					if okP && constraint.Connected(p, "A", a, b) != constraint.Connected(q, "A", a, b) {
						t.Error(x, y, a, b)
					}
				}
			}
		}
	}
}
