package layout_test

import (
	"armature/api"
	"armature/classspace"
	"armature/layout"
	"armature/sample"
	"slices"
	"testing"
)

func example(t *testing.T) (api.ClassSpace, int, int) {
	t.Helper()
	w, e := sample.Loaded(sample.Root + `
class 1 A extends lang/Object
field 1 x I
field 8 s J = long 7
field 1 z [I
field 8 t Llang/String; = string "a"
field 24 i I = int -3
class 1 B extends A
field 8 u LA;
field 1 y J
field 2 x I`)
	if e != api.OK {
		t.Fatal(e)
	}
	a, _ := classspace.FindLoaded(w, 0, "A")
	b, _ := classspace.FindLoaded(w, 0, "B")
	return w, a, b
}

func TestSlots(t *testing.T) { // P32.1, P32.4
	w, a, b := example(t)
	if l := layout.InstanceSlots(w, b); !slices.Equal(l, []api.FieldSlot{{Class: a, Index: 0}, {Class: a, Index: 2}, {Class: b, Index: 1}, {Class: b, Index: 2}}) || !slices.Equal(l[:2], layout.InstanceSlots(w, a)) {
		t.Error(l)
	}
	if l := layout.StaticSlots(w, a); !slices.Equal(l, []api.FieldSlot{{Class: a, Index: 1}, {Class: a, Index: 3}, {Class: a, Index: 4}}) {
		t.Error(l)
	}
	if l := layout.StaticSlots(w, b); !slices.Equal(l, []api.FieldSlot{{Class: b, Index: 0}}) {
		t.Error(l)
	}
	for _, c := range []int{-1, 99} {
		if len(layout.InstanceSlots(w, c))+len(layout.StaticSlots(w, c))+len(layout.InitialInstance(w, c))+len(layout.InitialStatics(w, c)) != 0 {
			t.Error(c)
		}
	}
}

func TestSlotIndex(t *testing.T) { // P32.2, P32.4
	w, a, b := example(t)
	for _, x := range []struct {
		c  int
		f  api.MemberRef
		i  int
		ok bool
	}{
		{b, api.MemberRef{Class: a, Index: 0}, 0, true}, {b, api.MemberRef{Class: b, Index: 2}, 3, true}, {a, api.MemberRef{Class: b, Index: 2}, 0, false}, {a, api.MemberRef{Class: a, Index: 3}, 1, true}, {b, api.MemberRef{Class: a, Index: 3}, 0, false}, {b, api.MemberRef{Class: b, Index: 0}, 0, true}, {a, api.MemberRef{Class: a, Index: 9}, 0, false}, {a, api.MemberRef{Class: -1}, 0, false}, {-1, api.MemberRef{Class: a}, 0, false},
	} {
		if i, ok := layout.SlotIndex(w, x.c, x.f); i != x.i || ok != x.ok {
			t.Error(x, i, ok)
		}
	}
	for c := range w.Classes {
		for i, s := range layout.InstanceSlots(w, c) {
			if n, ok := layout.SlotIndex(w, c, api.MemberRef(s)); n != i || !ok {
				t.Error(c, s, n, ok)
			}
		}
		for i, s := range layout.StaticSlots(w, c) {
			if n, ok := layout.SlotIndex(w, c, api.MemberRef(s)); n != i || !ok {
				t.Error(c, s, n, ok)
			}
		}
	}
}

func TestValues(t *testing.T) { // P32.3
	w, a, b := example(t)
	i, j, r := api.Value{Kind: api.KInt}, api.Value{Kind: api.KLong}, api.Value{Kind: api.KRef}
	for d, want := range map[string]api.Value{"I": i, "J": j, "[I": r, "LA;": r, "V": {}, "": {}, "()V": {}, "X": {}} {
		if v := layout.ZeroValue(d); v != want {
			t.Error(d, v)
		}
	}
	if l := layout.InitialInstance(w, b); !slices.Equal(l, []api.Value{i, r, j, i}) {
		t.Error(l)
	}
	if l := layout.InitialStatics(w, a); !slices.Equal(l, []api.Value{{Kind: api.KLong, N: 7}, r, {Kind: api.KInt, N: -3}}) {
		t.Error(l)
	}
	if l := layout.InitialStatics(w, b); !slices.Equal(l, []api.Value{r}) {
		t.Error(l)
	}
}
