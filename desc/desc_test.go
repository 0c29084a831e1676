package desc

import (
	"armature/api"
	"reflect"
	"strings"
	"testing"
)

func class(s string, dim int) api.Type { return api.Type{Dim: dim, Base: 'L', Name: s} }

func validTypes() []api.Type {
	return []api.Type{{Base: 'I'}, {Base: 'J'}, {Base: 'V'}, {Dim: 1, Base: 'I'}, {Dim: 8, Base: 'J'}, class("A", 0), class("a/B", 2), class("a/B", 8), class(strings.Repeat("x", 64), 0)}
}

func invalidTypes() []api.Type {
	return []api.Type{{}, {Dim: -1, Base: 'I'}, {Dim: 9, Base: 'I'}, {Base: 'I', Name: "A"}, {Base: 'L'}, class("a.B", 0), class(strings.Repeat("x", 65), 0), {Dim: 1, Base: 'V'}, {Base: 'V', Name: "x"}, {Base: 'X'}, {Base: '['}, {Dim: -1, Base: 'L', Name: "lang/Object"}}
}

func TestTypes(t *testing.T) { // P4.1, P4.5
	for _, x := range validTypes() {
		s, e := Format(x)
		if !Valid(x) || e != api.OK {
			t.Error(x, s, e)
		}
		if y, e := Parse(s); y != x || e != api.OK {
			t.Error(x, y, e)
		}
		if r, _ := Format(x); r != s {
			t.Error(r, s)
		}
	}
	for _, x := range invalidTypes() {
		if s, e := Format(x); Valid(x) || s != "" || e != api.ErrBadDescriptor {
			t.Error(x, s, e)
		}
	}
	for _, s := range []string{"", "[", "[V", "La.B;", "II", "L;", "LA", "A", "[[[[[[[[[I", "LA;I", "I ", "L" + strings.Repeat("x", 65) + ";", "()V", "\x00", "l"} {
		if y, e := Parse(s); y != (api.Type{}) || e != api.ErrBadDescriptor {
			t.Errorf("%q: %v %d", s, y, e)
		}
	}
	if s, _ := Format(class("a/B", 2)); s != "[[La/B;" {
		t.Error(s)
	}
}

func TestSignatures(t *testing.T) { // P4.2, P4.5
	i := api.Type{Base: 'I'}
	var sixteen []api.Type
	for range 16 {
		sixteen = append(sixteen, i)
	}
	for _, g := range []api.Sig{{Result: api.Type{Base: 'V'}}, {Params: []api.Type{i, {Dim: 1, Base: 'J'}}, Result: api.Type{Base: 'V'}}, {Params: []api.Type{class("a/B", 0)}, Result: class("C", 3)}, {Params: sixteen, Result: i}} {
		s, e := FormatSignature(g)
		if e != api.OK {
			t.Fatal(g, e)
		}
		if h, e := ParseSignature(s); !reflect.DeepEqual(g, h) || e != api.OK {
			t.Error(g, s, h, e)
		}
	}
	seventeen := append([]api.Type{{}}, sixteen...)
	for _, x := range []struct {
		g api.Sig
		e api.Errno
	}{{api.Sig{Params: seventeen}, api.ErrTooMany}, {api.Sig{}, api.ErrBadDescriptor}, {api.Sig{Params: []api.Type{{Base: 'V'}}, Result: i}, api.ErrBadDescriptor}, {api.Sig{Params: []api.Type{i}, Result: api.Type{Dim: 1, Base: 'V'}}, api.ErrBadDescriptor}} {
		if s, e := FormatSignature(x.g); s != "" || e != x.e {
			t.Error(x, s, e)
		}
	}
	if g, e := ParseSignature("(I[J)V"); e != api.OK || g.Params[1] != (api.Type{Dim: 1, Base: 'J'}) || g.Result.Base != 'V' {
		t.Error(g, e)
	}
	for s, want := range map[string]api.Errno{"": api.ErrBadDescriptor, "(": api.ErrBadDescriptor, "()": api.ErrBadDescriptor, "(V)V": api.ErrBadDescriptor, "(I)VV": api.ErrBadDescriptor, "(I": api.ErrBadDescriptor, "I": api.ErrBadDescriptor, "(I))V": api.ErrBadDescriptor, "()[V": api.ErrBadDescriptor, "(LA)V": api.ErrBadDescriptor,
		"(" + strings.Repeat("I", 17) + ")V": api.ErrTooMany, "(" + strings.Repeat("I", 17) + ")": api.ErrBadDescriptor, "(" + strings.Repeat("I", 17) + "V)V": api.ErrBadDescriptor} {
		if g, e := ParseSignature(s); e != want || g.Params != nil || g.Result != (api.Type{}) {
			t.Errorf("%q: %v %d", s, g, e)
		}
	}
}

func TestDimensionsAndKinds(t *testing.T) { // P4.3, P4.6
	for _, x := range validTypes() {
		if a, e := ArrayOf(x); e == api.OK {
			if y, e := Element(a); y != x || e != api.OK || a.Dim != x.Dim+1 {
				t.Error(x, a, y, e)
			}
		} else if x.Base == 'V' && e != api.ErrBadArgument || x.Base != 'V' && (e != api.ErrTooDeep || x.Dim != 8) || a != (api.Type{}) {
			t.Error(x, a, e)
		}
		if y, e := Element(x); x.Dim == 0 && (e != api.ErrBadArgument || y != api.Type{}) || x.Dim > 0 && e != api.OK {
			t.Error(x, y, e)
		} else if e == api.OK {
			if a, e := ArrayOf(y); a != x || e != api.OK {
				t.Error(x, a, e)
			}
		}
	}
	for _, x := range invalidTypes() {
		if _, e := Element(x); e != api.ErrBadDescriptor {
			t.Error(x, e)
		}
		if _, e := ArrayOf(x); e != api.ErrBadDescriptor {
			t.Error(x, e)
		}
		if Kind(x) != api.KNone {
			t.Error(x)
		}
	}
	for i, want := range []int{api.KInt, api.KLong, api.KNone, api.KRef, api.KRef, api.KRef, api.KRef} {
		if k := Kind(validTypes()[i]); k != want {
			t.Error(i, k)
		}
	}
}

func TestClassConstants(t *testing.T) { // P4.4, P4.5
	for s, want := range map[string]api.Type{"a/B": class("a/B", 0), "[I": {Dim: 1, Base: 'I'}, "I": class("I", 0), "[[La/B;": class("a/B", 2)} {
		x, e := ParseClassConstant(s)
		if x != want || e != api.OK {
			t.Error(s, x, e)
		}
		if r, e := FormatClassConstant(x); r != s || e != api.OK {
			t.Error(s, r, e)
		}
	}
	for _, s := range []string{"", "[", "[V", "LA;", "a.b", "[a", "(I)V"} {
		if x, e := ParseClassConstant(s); x != (api.Type{}) || e != api.ErrBadDescriptor {
			t.Error(s, x, e)
		}
	}
	for _, x := range []api.Type{{Base: 'I'}, {Base: 'J'}, {Base: 'V'}} {
		if s, e := FormatClassConstant(x); s != "" || e != api.ErrBadArgument {
			t.Error(x, s, e)
		}
	}
	for _, x := range invalidTypes() {
		if s, e := FormatClassConstant(x); s != "" || e != api.ErrBadDescriptor {
			t.Error(x, s, e)
		}
	}
	got := ClassNames([]api.Type{class("B", 0), {Base: 'I', Name: "x"}, class("A", 3), class("B", 99), class("", -1), class("A", 0)})
	if !reflect.DeepEqual(got, []string{"B", "A", ""}) || len(ClassNames(nil)) != 0 {
		t.Error(got)
	}
}
