package rtype_test

import (
	"armature/api"
	"armature/classspace"
	"armature/rtype"
	"armature/sample"
	"testing"
)

func example(t *testing.T) (api.ClassSpace, func(int, byte, string) api.RuntimeType) {
	t.Helper()
	w, e := sample.Loaded(sample.Root+"\nclass 1537 I extends lang/Object\nclass 1 A extends lang/Object\nimplements I\nclass 1 B extends A", "class 1 C extends lang/Object\nclass 1 A extends lang/Object")
	if e != api.OK {
		t.Fatal(e)
	}
	return w, func(dim int, base byte, s string) api.RuntimeType {
		r := api.RuntimeType{Dim: dim, Base: base}
		if base == 'L' {
			c, ok := classspace.FindLoaded(w, 0, s)
			if !ok {
				t.Fatal(s)
			}
			r.Class = c
		}
		return r
	}
}

func TestValid(t *testing.T) { // P35.1
	w, ty := example(t)
	for _, r := range []api.RuntimeType{ty(0, 'I', ""), ty(8, 'J', ""), ty(0, 'L', "A"), ty(8, 'L', "lang/Object")} {
		if !rtype.Valid(w, r) {
			t.Error(r)
		}
	}
	for _, r := range []api.RuntimeType{{}, {Dim: -1, Base: 'I'}, {Dim: 9, Base: 'I'}, {Base: 'I', Class: 1}, {Base: 'V'}, {Base: 'L', Class: -1}, {Base: 'L', Class: len(w.Classes)}} {
		if rtype.Valid(w, r) || rtype.Format(w, r) != "" || rtype.IsSubtype(w, r, r) || rtype.IsSubtype(w, r, ty(0, 'L', "lang/Object")) || rtype.IsSubtype(w, ty(0, 'L', "A"), r) {
			t.Error(r)
		}
	}
}

func TestResolve(t *testing.T) { // P35.1, P35.4
	w, _ := example(t)
	for _, x := range []struct {
		loader int
		t      api.Type
		e      api.Errno
	}{{0, api.Type{Base: 'I'}, api.OK}, {1, api.Type{Dim: 3, Base: 'J'}, api.OK}, {1, api.Type{Dim: 2, Base: 'L', Name: "A"}, api.OK}, {0, api.Type{Base: 'L', Name: "B"}, api.OK}, {2, api.Type{}, api.ErrRange}, {-1, api.Type{Base: 'I'}, api.ErrRange}, {0, api.Type{}, api.ErrBadDescriptor}, {0, api.Type{Base: 'V'}, api.ErrBadDescriptor}, {0, api.Type{Dim: 9, Base: 'I'}, api.ErrBadDescriptor}, {0, api.Type{Base: 'L', Name: "C"}, api.ErrNoClass}} {
		s, r, e := rtype.Resolve(w, x.loader, x.t)
		if e != x.e || e != api.OK && (r != api.RuntimeType{} || !classspace.Equal(s, w)) {
			t.Error(x, r, e)
		}
		if e != api.OK {
			continue
		}
		again, q, e := rtype.Resolve(s, x.loader, x.t)
		if e != api.OK || q != r || !classspace.Equal(again, s) {
			t.Error(x, q, e)
		}
		if x.t.Base == 'L' && s.Classes[r.Class].Loader != x.loader {
			t.Error(x, r)
		}
	}
}

func TestIsSubtype(t *testing.T) { // P35.2
	w, ty := example(t)
	o := "lang/Object"
	for _, x := range []struct {
		a, b api.RuntimeType
		want bool
	}{
		{ty(1, 'L', "B"), ty(1, 'L', "A"), true}, {ty(1, 'L', "B"), ty(1, 'L', o), true}, {ty(1, 'L', "B"), ty(0, 'L', o), true}, {ty(2, 'I', ""), ty(1, 'L', o), true}, {ty(1, 'I', ""), ty(1, 'L', o), false}, {ty(1, 'I', ""), ty(0, 'L', o), true}, {ty(0, 'I', ""), ty(0, 'L', o), false}, {ty(0, 'I', ""), ty(0, 'I', ""), true}, {ty(0, 'I', ""), ty(0, 'J', ""), false}, {ty(1, 'I', ""), ty(1, 'J', ""), false}, {ty(2, 'I', ""), ty(1, 'I', ""), false}, {ty(0, 'L', "B"), ty(0, 'L', "I"), true}, {ty(2, 'L', "B"), ty(2, 'L', "I"), true}, {ty(2, 'L', "B"), ty(1, 'L', "I"), false}, {ty(0, 'L', "A"), ty(0, 'L', "B"), false}, {ty(1, 'L', o), ty(2, 'L', o), false}, {ty(2, 'L', o), ty(1, 'L', o), true}, {ty(1, 'I', ""), ty(1, 'L', "I"), false},
	} {
		if got := rtype.IsSubtype(w, x.a, x.b); got != x.want {
			t.Error(x, got)
		}
	}
}

func TestLaws(t *testing.T) { // P35.4
	w, ty := example(t)
	var l []api.RuntimeType
	for dim := range 3 {
		l = append(l, ty(dim, 'I', ""), ty(dim, 'J', ""))
		for _, s := range []string{"lang/Object", "I", "A", "B"} {
			l = append(l, ty(dim, 'L', s))
		}
	}
	for _, a := range l {
		for _, b := range l {
			if a != b && rtype.IsSubtype(w, a, b) && rtype.IsSubtype(w, b, a) {
				t.Error(a, b)
			}
			x, _ := rtype.ArrayOf(a)
			y, _ := rtype.ArrayOf(b)
			if rtype.IsSubtype(w, a, b) != rtype.IsSubtype(w, x, y) {
				t.Error("covariance", a, b)
			}
			for _, c := range l {
				if rtype.IsSubtype(w, a, b) && rtype.IsSubtype(w, b, c) && !rtype.IsSubtype(w, a, c) {
					t.Error(a, b, c)
				}
			}
		}
	}
}

func TestParts(t *testing.T) { // P35.3
	w, ty := example(t)
	for _, x := range []struct {
		r    api.RuntimeType
		s    string
		kind int
	}{{ty(0, 'I', ""), "I", api.KInt}, {ty(0, 'J', ""), "J", api.KLong}, {ty(1, 'I', ""), "[I", api.KRef}, {ty(2, 'L', "B"), "[[LB;", api.KRef}, {api.RuntimeType{Base: 'V'}, "", api.KRef}, {api.RuntimeType{}, "", api.KRef}} {
		if s, k := rtype.Format(w, x.r), rtype.Kind(x.r); s != x.s || k != x.kind {
			t.Error(x, s, k)
		}
	}
	for _, x := range []struct {
		dim          int
		down, higher bool
	}{{-1, false, false}, {0, false, true}, {1, true, true}, {7, true, true}, {8, true, false}, {100, true, false}, {-1 << 63, false, false}, {1<<63 - 1, true, false}} {
		r := api.RuntimeType{Dim: x.dim, Base: 'Q', Class: -7}
		d, ok := rtype.Element(r)
		if ok != x.down || ok && (d.Dim != x.dim-1 || d.Class != -7) || !ok && d != (api.RuntimeType{}) {
			t.Error(x, d, ok)
		}
		u, ok := rtype.ArrayOf(r)
		if ok != x.higher || ok && (u.Dim != x.dim+1 || u.Base != 'Q') || !ok && u != (api.RuntimeType{}) {
			t.Error(x, u, ok)
		}
	}
}
