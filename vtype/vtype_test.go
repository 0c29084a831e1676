package vtype

import (
	"armature/api"
	"armature/hier"
	"testing"
)

func classes() []api.ClassInfo {
	return []api.ClassInfo{{Name: root}, {Name: "A", Super: root, Interfaces: []string{"I"}}, {Name: "B", Super: "A"}, {Name: "C", Super: root}, {Name: "I", Super: root, IsInterface: true}}
}

func ty(dim int, base byte, name string) api.Type { return api.Type{Dim: dim, Base: base, Name: name} }

func ref(dim int, name string) api.VType {
	return api.VType{Kind: api.VRef, Type: ty(dim, 'L', name)}
}

func TestValid(t *testing.T) { // P17.1
	if _, e := hier.Check(classes()); e != api.OK {
		t.Fatal(e)
	}
	a := ty(0, 'L', "A")
	for _, v := range []api.VType{{}, {Kind: 1}, {Kind: 2}, {Kind: 3}, ref(0, "A"), ref(8, "p/Q"), {Kind: api.VRef, Type: ty(1, 'I', "")}, {Kind: 5, Type: a}, {Kind: 5, Type: a, NewIndex: 1 << 40}, {Kind: 6, Type: a}} {
		if !Valid(v) || !Equal(v, v) {
			t.Error(v)
		}
	}
	for _, v := range []api.VType{{Kind: -1}, {Kind: 7}, {NewIndex: 1}, {Kind: 1, Type: a}, {Kind: 3, PoolIndex: 1}, {Kind: 4}, {Kind: 4, Type: ty(0, 'I', "")}, ref(9, "A"), ref(0, "1"), ref(-1, "A"), {Kind: 4, Type: ty(0, 'V', "")}, {Kind: 4, Type: a, NewIndex: 1}, {Kind: 4, Type: a, PoolIndex: 2}, {Kind: 5}, {Kind: 5, Type: a, NewIndex: -1}, {Kind: 5, Type: ty(1, 'L', "A")}, {Kind: 6, Type: ty(1, 'I', "")}, {Kind: 6, Type: a, NewIndex: 1}} {
		if Valid(v) || Format(v) != "" || Assignable(classes(), v, v) || Assignable(classes(), v, api.VType{}) {
			t.Error(v)
		}
	}
	if Equal(ref(0, "A"), ref(1, "A")) || Equal(api.VType{}, api.VType{PoolIndex: 1}) {
		t.Error("Equal")
	}
}

func TestFromTypeAndFormat(t *testing.T) { // P17.1, P17.2
	for _, x := range []struct {
		t    api.Type
		want string
	}{{ty(0, 'I', ""), "int"}, {ty(0, 'J', ""), "long"}, {ty(1, 'J', ""), "[J"}, {ty(2, 'L', "a/B"), "[[La/B;"}, {ty(0, 'L', "A"), "LA;"}, {ty(0, 'V', ""), "top"}, {ty(-1, 'L', "A"), "top"}, {api.Type{}, "top"}} {
		v := FromType(x.t)
		if s := Format(v); s != x.want || !Valid(v) {
			t.Error(x, v, s)
		}
	}
	a := ty(0, 'L', "A")
	for want, v := range map[string]api.VType{"null": {Kind: 3}, "new 3 LA;": {Kind: 5, NewIndex: 3, Type: a}, "this LA;": {Kind: 6, Type: a}} {
		if Format(v) != want {
			t.Error(want, Format(v))
		}
	}
}

func types() []api.Type {
	l := []api.Type{ty(0, 'I', ""), ty(0, 'J', "")}
	for dim := range 4 {
		for _, n := range []string{root, "A", "B", "C", "I", "X"} {
			l = append(l, ty(dim, 'L', n))
		}
		if dim > 0 {
			l = append(l, ty(dim, 'I', ""), ty(dim, 'J', ""))
		}
	}
	return l
}

func TestTypeAssignable(t *testing.T) { // P17.3
	l := classes()
	for _, x := range []struct {
		a, b api.Type
		want bool
	}{
		{ty(2, 'I', ""), ty(1, 'L', root), true}, {ty(2, 'I', ""), ty(0, 'L', root), true}, {ty(2, 'I', ""), ty(2, 'J', ""), false}, {ty(1, 'I', ""), ty(1, 'L', root), false}, {ty(1, 'I', ""), ty(1, 'L', "I"), false}, {ty(0, 'I', ""), ty(0, 'I', ""), true}, {ty(0, 'I', ""), ty(0, 'L', root), false}, {ty(0, 'V', ""), ty(0, 'V', ""), false}, {ty(9, 'I', ""), ty(0, 'L', root), false}, {ty(0, 'L', "A"), ty(9, 'L', root), false},
		{ty(0, 'L', "B"), ty(0, 'L', "A"), true}, {ty(0, 'L', "A"), ty(0, 'L', "B"), false}, {ty(1, 'L', "B"), ty(1, 'L', "A"), true}, {ty(1, 'L', "B"), ty(0, 'L', "A"), false}, {ty(0, 'L', "B"), ty(1, 'L', "A"), false}, {ty(0, 'L', "C"), ty(0, 'L', "I"), true}, {ty(1, 'L', "C"), ty(1, 'L', "I"), true}, {ty(2, 'L', "C"), ty(1, 'L', "I"), false}, {ty(1, 'L', "A"), ty(1, 'L', root), true}, {ty(2, 'L', "A"), ty(1, 'L', root), true}, {ty(1, 'L', "A"), ty(2, 'L', root), false}, {ty(0, 'L', "X"), ty(0, 'L', root), true}, {ty(0, 'L', "X"), ty(0, 'L', "A"), false}, {ty(0, 'L', "A"), ty(0, 'L', "X"), false}, {ty(0, 'L', "X"), ty(0, 'L', "I"), true}, {ty(1, 'L', "A"), ty(1, 'I', ""), false},
	} {
		if got := TypeAssignable(l, x.a, x.b); got != x.want {
			t.Error(x, got)
		}
	}
}

func TestAssignable(t *testing.T) { // P17.4
	l := classes()
	un := api.VType{Kind: 5, Type: ty(0, 'L', "A"), NewIndex: 2}
	for _, x := range []struct {
		a, b api.VType
		want bool
	}{{un, api.VType{}, true}, {un, un, true}, {un, ref(0, "A"), false}, {api.VType{Kind: 3}, ref(2, "X"), true}, {api.VType{Kind: 3}, api.VType{Kind: 1}, false}, {ref(0, "A"), api.VType{Kind: 3}, false}, {ref(0, "B"), ref(0, "A"), true}, {api.VType{Kind: 1}, api.VType{Kind: 2}, false}, {api.VType{}, api.VType{Kind: 1}, false}, {api.VType{Kind: 1}, api.VType{}, true}, {api.VType{Kind: 3}, un, false}, {api.VType{Kind: 6, Type: ty(0, 'L', "A")}, un, false}} {
		if got := Assignable(l, x.a, x.b); got != x.want {
			t.Error(x, got)
		}
	}
}

func TestLaws(t *testing.T) { // P17.5
	l := classes()
	for _, a := range types() {
		if !Assignable(l, FromType(a), FromType(a)) || !Assignable(l, FromType(a), api.VType{}) {
			t.Error(a)
		}
		for _, b := range types() {
			if isReference(a) && isReference(b) {
				up := TypeAssignable(l, ty(a.Dim+2, a.Base, a.Name), ty(b.Dim+2, b.Base, b.Name))
				if up != TypeAssignable(l, a, b) {
					t.Error("dimensions", a, b)
				}
			}
			for _, c := range types() {
				if a.Name != "I" && b.Name != "I" && c.Name != "I" && TypeAssignable(l, a, b) && TypeAssignable(l, b, c) && !TypeAssignable(l, a, c) {
					t.Error("transitivity", a, b, c)
				}
			}
		}
	}
}
