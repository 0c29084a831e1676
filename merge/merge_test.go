package merge

import (
	"armature/api"
	"armature/vtype"
	"testing"
)

const root = "lang/Object"

func classes() []api.ClassInfo {
	return []api.ClassInfo{{Name: root}, {Name: "C", Super: root, Interfaces: []string{"I"}}, {Name: "A", Super: "C"}, {Name: "B", Super: "C"}, {Name: "D", Super: root}, {Name: "I", Super: root, IsInterface: true}}
}

func ty(dim int, base byte, name string) api.Type { return api.Type{Dim: dim, Base: base, Name: name} }

func ref(t api.Type) api.VType { return api.VType{Kind: api.VRef, Type: t} }

func TestTypes(t *testing.T) { // P18.1
	for _, x := range [][3]api.Type{
		{ty(0, 'L', "A"), ty(0, 'L', "B"), ty(0, 'L', "C")}, {ty(1, 'L', "A"), ty(1, 'L', "B"), ty(1, 'L', "C")}, {ty(1, 'L', "A"), ty(0, 'L', "B"), ty(0, 'L', root)}, {ty(2, 'I', ""), ty(1, 'L', "A"), ty(1, 'L', root)}, {ty(1, 'I', ""), ty(1, 'L', "A"), ty(0, 'L', root)}, {ty(1, 'I', ""), ty(1, 'I', ""), ty(1, 'I', "")}, {ty(1, 'I', ""), ty(1, 'J', ""), ty(0, 'L', root)}, {ty(3, 'I', ""), ty(2, 'I', ""), ty(1, 'L', root)}, {ty(0, 'L', "A"), ty(0, 'L', "I"), ty(0, 'L', root)}, {ty(2, 'L', "A"), ty(1, 'L', "A"), ty(1, 'L', root)}, {ty(0, 'L', "X"), ty(0, 'L', "A"), ty(0, 'L', root)},
		{ty(0, 'I', ""), ty(0, 'I', ""), {}}, {ty(0, 'L', ""), ty(0, 'L', ""), {}}, {ty(1, 'V', ""), ty(1, 'I', ""), {}}, {{}, ty(0, 'L', "A"), {}}, {ty(-1, 'L', root), ty(0, 'L', "A"), {}},
	} {
		if got := Types(classes(), x[0], x[1]); got != x[2] {
			t.Error(x, got)
		}
	}
}

func vtypes() []api.VType {
	a := ty(0, 'L', "A")
	l := []api.VType{{}, {Kind: 1}, {Kind: 2}, {Kind: 3}, {Kind: 5, Type: a}, {Kind: 5, Type: a, NewIndex: 4}, {Kind: 6, Type: a}}
	for dim := range 3 {
		for _, n := range []string{root, "A", "B", "C", "D", "I"} {
			l = append(l, ref(ty(dim, 'L', n)))
		}
		if dim > 0 {
			l = append(l, ref(ty(dim, 'I', "")), ref(ty(dim, 'J', "")))
		}
	}
	return l
}

func TestVTypes(t *testing.T) { // P18.2
	a, b := ref(ty(0, 'L', "A")), ref(ty(0, 'L', "B"))
	for _, x := range [][3]api.VType{{a, a, a}, {a, b, ref(ty(0, 'L', "C"))}, {{Kind: 3}, a, a}, {a, {Kind: 3}, a}, {{Kind: 1}, {Kind: 3}, {}}, {{Kind: 1}, {Kind: 2}, {}}, {{Kind: 3}, {Kind: 3}, {Kind: 3}}, {{Kind: 5, Type: a.Type}, {Kind: 5, Type: a.Type, NewIndex: 1}, {}}, {{Kind: 5, Type: a.Type}, a, {}}, {{Kind: 4}, a, {}}, {{Kind: 4, PoolIndex: 3, Type: a.Type}, b, ref(ty(0, 'L', "C"))}, {{Kind: 99}, {Kind: 99}, {Kind: 99}}} {
		if got := VTypes(classes(), x[0], x[1]); got != x[2] {
			t.Error(x, got)
		}
	}
}

func TestFrames(t *testing.T) { // P18.3
	l := classes()
	i, j := api.VType{Kind: 1}, api.VType{Kind: 2}
	f := api.Frame{Locals: []api.VType{i}, Stack: []api.VType{j, i}}
	g := api.Frame{Locals: []api.VType{j}, Stack: []api.VType{j, i}, Uninit: true}
	r, e := Frames(l, f, g)
	if want := (api.Frame{Locals: []api.VType{{}}, Stack: []api.VType{j, i}, Uninit: true}); e != api.OK || !Equal(r, want) {
		t.Error(r, e)
	}
	for _, h := range []api.Frame{{Locals: f.Locals, Stack: f.Stack[:1]}, {Locals: f.Stack, Stack: f.Stack}} {
		if r, e := Frames(l, f, h); e != api.ErrMergeHeight || !Equal(r, api.Frame{}) || Assignable(l, f, h) || Equal(f, h) {
			t.Error(r, e)
		}
	}
	up := api.Frame{Locals: f.Locals, Stack: f.Stack, Uninit: true}
	if !Assignable(l, f, up) || Assignable(l, up, f) || Equal(f, up) || !Assignable(l, f, r) || !Assignable(l, g, r) || Assignable(l, r, f) || !Equal(api.Frame{}, api.Frame{Locals: []api.VType{}}) {
		t.Error("Assignable, Equal")
	}
}

func TestLaws(t *testing.T) { // P18.4, P18.5, P18.6
	l := classes()
	frame := func(v api.VType) api.Frame {
		return api.Frame{Locals: []api.VType{v}, Stack: []api.VType{v}, Uninit: v.Kind == 6}
	}
	for _, a := range vtypes() {
		if !vtype.Valid(a) {
			t.Fatal(a)
		}
		for _, b := range vtypes() {
			r, e := Frames(l, frame(a), frame(b))
			s, _ := Frames(l, frame(b), frame(a))
			if e != api.OK || !Assignable(l, frame(a), r) || !Assignable(l, frame(b), r) || !Equal(r, s) {
				t.Error(a, b, r)
			}
			if again, _ := Frames(l, r, frame(a)); !Equal(again, r) {
				t.Error("idempotence", a, b)
			}
			for _, c := range vtypes() {
				if Assignable(l, frame(a), frame(c)) && Assignable(l, frame(b), frame(c)) && !Assignable(l, r, frame(c)) {
					t.Error("least", a, b, c)
				}
			}
		}
	}
}
