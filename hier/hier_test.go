package hier

import (
	"armature/api"
	"reflect"
	"slices"
	"strconv"
	"testing"
)

func class(name, super string, l ...string) api.ClassInfo {
	return api.ClassInfo{Name: name, Super: super, Interfaces: l}
}

func iface(name string, l ...string) api.ClassInfo {
	return api.ClassInfo{Name: name, Super: root, Interfaces: l, IsInterface: true}
}

func sample() []api.ClassInfo {
	return []api.ClassInfo{class("B", "A"), class("A", root, "K"), iface("K", "I", "J"), iface("I"), iface("J"), class(root, ""), class("C", "A", "I"), class("D", root)}
}

func TestCheck(t *testing.T) { // P16.1
	for k, x := range []struct {
		l    []api.ClassInfo
		name string
		e    api.Errno
	}{
		{sample(), "", api.OK}, {nil, "", api.OK}, {[]api.ClassInfo{class(root, "")}, "", api.OK},
		{append(sample(), class("1", "x")), "1", api.ErrBadName}, {append(sample(), class("", "")), "", api.ErrBadName}, {append(sample(), class("A", "x")), "A", api.ErrDuplicate}, {append(sample(), class("X", "")), "X", api.ErrBadSuper}, {[]api.ClassInfo{class(root, root)}, root, api.ErrBadSuper}, {append(sample(), class("X", "Y", "Z")), "X", api.ErrBadSuper}, {append(sample(), class("X", "I")), "X", api.ErrBadSuper},
		{append(sample(), api.ClassInfo{Name: "X", Super: "A", IsInterface: true}), "X", api.ErrBadSuper}, {append(sample(), class("X", "A", "Y")), "X", api.ErrIncompatibleChange}, {append(sample(), class("X", "A", "I", "A")), "X", api.ErrIncompatibleChange}, {append(sample(), class("X", "X")), "X", api.ErrCircularity}, {append(sample(), class("X", "Y"), class("Y", "X")), "X", api.ErrCircularity}, {append(sample(), class("W", "X"), class("X", "Y"), class("Y", "X")), "X", api.ErrCircularity}, {append(sample(), iface("X", "Y"), iface("Y", "I", "X")), "X", api.ErrCircularity}, {append(sample(), iface("X", "X")), "X", api.ErrCircularity}, {[]api.ClassInfo{class("A", "B", "C"), class("1", "")}, "A", api.ErrBadSuper}, {[]api.ClassInfo{{Name: root, IsInterface: true}}, root, api.ErrBadSuper},
	} {
		if s, e := Check(x.l); s != x.name || e != x.e {
			t.Errorf("case %d: %q %d, want %q %d", k, s, e, x.name, x.e)
		}
	}
}

func TestQueries(t *testing.T) { // P16.2
	l := sample()
	if c, ok := Lookup(append(l, class("A", "other")), "A"); !ok || c.Super != root {
		t.Error(c, ok)
	}
	if c, ok := Lookup(l, "X"); ok || c.Name != "" {
		t.Error(c, ok)
	}
	for _, x := range []struct {
		a, b string
		want bool
	}{{"B", "A", true}, {"B", "I", true}, {"B", "K", true}, {"A", "B", false}, {"I", root, true}, {root, "A", false}, {"X", "X", true}, {"X", root, false}, {"B", "D", false}, {"K", "J", true}, {"J", "K", false}, {"A", "", false}} {
		if got := IsSubclass(l, x.a, x.b); got != x.want {
			t.Error(x, got)
		}
	}
	if s := Superclasses(l, "B"); !reflect.DeepEqual(s, []string{"B", "A", root}) || len(Superclasses(l, "X")) != 0 || !reflect.DeepEqual(Superclasses(l, "I"), []string{"I", root}) {
		t.Error(s)
	}
	for _, x := range [][3]string{{"B", "A", "A"}, {"B", "C", "A"}, {"B", "D", root}, {"A", "I", root}, {"I", "I", "I"}, {"X", "X", "X"}, {"X", "A", root}, {"I", "K", root}, {"A", root, root}} {
		if s := CommonSuperclass(l, x[0], x[1]); s != x[2] {
			t.Error(x, s)
		}
	}
	for a, want := range map[string][]string{"B": {"I", "J", "K"}, "K": {"I", "J", "K"}, "J": {"J"}, "D": nil, "X": nil, "C": {"I", "J", "K"}} {
		if s := Interfaces(l, a); !slices.Equal(s, want) {
			t.Error(a, s)
		}
	}
}

func TestTermination(t *testing.T) { // P16.2
	l := []api.ClassInfo{class("A", "B", "A", "Z"), class("B", "A", "B"), iface("I", "J"), iface("J", "I")}
	for _, a := range []string{"A", "B", "I", "J", "Z", ""} {
		Superclasses(l, a)
		Interfaces(l, a)
		for _, b := range []string{"A", "B", "I", "J", "Z", ""} {
			IsSubclass(l, a, b)
			CommonSuperclass(l, a, b)
		}
	}
}

func TestLaws(t *testing.T) { // P16.3
	l := sample()
	back := slices.Clone(l)
	slices.Reverse(back)
	for _, a := range l {
		for _, b := range l {
			if a.Name != b.Name && IsSubclass(l, a.Name, b.Name) && IsSubclass(l, b.Name, a.Name) {
				t.Error("antisymmetry", a, b)
			}
			s := CommonSuperclass(l, a.Name, b.Name)
			if s != CommonSuperclass(l, b.Name, a.Name) || !IsSubclass(l, a.Name, s) || !IsSubclass(l, b.Name, s) {
				t.Error(a, b, s)
			}
			if IsSubclass(l, a.Name, b.Name) != IsSubclass(back, a.Name, b.Name) || s != CommonSuperclass(back, a.Name, b.Name) {
				t.Error("order", a, b)
			}
			for _, c := range l {
				if IsSubclass(l, a.Name, b.Name) && IsSubclass(l, b.Name, c.Name) && !IsSubclass(l, a.Name, c.Name) {
					t.Error("transitivity", a, b, c)
				}
			}
		}
	}
}

func TestLongLists(t *testing.T) { // P16.1, P16.2
	l := []api.ClassInfo{class(root, "")}
	for i := range 1500 {
		super := root
		if i > 0 {
			super = "C" + strconv.Itoa(i-1)
		}
		l = append(l, class("C"+strconv.Itoa(i), super))
	}
	if s, e := Check(l); s != "" || e != api.OK {
		t.Error(s, e)
	}
	if !IsSubclass(l, "C1499", "C0") || IsSubclass(l, "C0", "C1") || len(Superclasses(l, "C1499")) != 1501 || CommonSuperclass(l, "C1499", "C700") != "C700" || len(Interfaces(l, "C9")) != 0 {
		t.Error("queries")
	}
	l = append(l, class("C7", root))
	if s, e := Check(l); s != "C7" || e != api.ErrDuplicate {
		t.Error(s, e)
	}
	l[1].Super = "C1499"
	if s, e := Check(l); s != "C0" || e != api.ErrCircularity {
		t.Error(s, e)
	}
}
