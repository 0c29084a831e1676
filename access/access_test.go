package access_test

import (
	"armature/access"
	"armature/api"
	"armature/classspace"
	"armature/sample"
	"testing"
)

func example(t *testing.T) (api.ClassSpace, func(int, string) int) {
	t.Helper()
	w, e := sample.Loaded(sample.Root+"\nclass 1 p/A extends lang/Object\nclass 0 p/B extends lang/Object\nclass 1 q/C extends p/A\nclass 0 q/D extends lang/Object",
		"class 1 p/A extends lang/Object\nclass 0 p/B extends lang/Object")
	if e != api.OK {
		t.Fatal(e)
	}
	return w, func(l int, s string) int {
		c, ok := classspace.FindLoaded(w, l, s)
		if !ok {
			t.Fatal(s)
		}
		return c
	}
}

func TestClasses(t *testing.T) { // P29.1, P29.4
	w, id := example(t)
	a, b, c, d := id(0, "p/A"), id(0, "p/B"), id(0, "q/C"), id(0, "q/D")
	for _, x := range []struct {
		from, to int
		want     bool
	}{{a, b, true}, {b, a, true}, {d, a, true}, {c, b, false}, {c, d, true}, {id(1, "p/A"), b, false}, {b, b, true}, {-1, a, false}, {a, 99, false}, {99, a, false}, {-1, -1, false}} {
		if got := access.CanAccessClass(w, x.from, x.to); got != x.want {
			t.Error(x, got)
		}
	}
}

func TestMembers(t *testing.T) { // P29.2, P29.4
	w, id := example(t)
	a, b, c, d, other := id(0, "p/A"), id(0, "p/B"), id(0, "q/C"), id(0, "q/D"), id(1, "p/A")
	for _, x := range []struct {
		from, owner, flags int
		want               bool
	}{
		{d, a, api.Public, true}, {d, a, api.Public | api.Private, true}, {a, a, api.Private, true}, {b, a, api.Private, false}, {c, a, api.Private, false}, {c, a, api.Private | api.Protected, false}, {c, a, api.Protected, true}, {b, a, api.Protected, true}, {d, a, api.Protected, false}, {a, c, api.Protected, false}, {other, a, api.Protected, false}, {b, a, 0, true}, {c, a, 0, false}, {other, a, 0, false}, {b, a, api.Static | api.Final, true}, {c, a, -8, false}, {99, a, api.Public, false}, {a, -1, api.Public, false},
	} {
		if got := access.CanAccessMember(w, x.from, x.owner, x.flags); got != x.want {
			t.Error(x, got)
		}
	}
	for from := range w.Classes {
		if !access.CanAccessClass(w, from, from) {
			t.Error(from)
		}
		for owner := range w.Classes {
			var can [4]bool
			for i, f := range []int{api.Private, 0, api.Protected, api.Public} {
				can[i] = access.CanAccessMember(w, from, owner, f)
				if i > 0 && can[i-1] && !can[i] || from == owner && !can[i] {
					t.Error(from, owner, f)
				}
			}
		}
	}
}

func TestOverride(t *testing.T) { // P29.3
	w, id := example(t)
	a, b, c := id(0, "p/A"), id(0, "p/B"), id(0, "q/C")
	for _, x := range []struct {
		below, above, flags int
		want                bool
	}{{c, a, api.Public, true}, {c, a, api.Protected, true}, {c, a, 0, false}, {b, a, 0, true}, {b, a, api.Private, false}, {b, a, api.Static | api.Public, false}, {c, a, api.Public | api.Private, false}, {b, a, api.Final, true}, {-1, a, api.Public, false}, {a, 99, api.Public, false}} {
		if got := access.CanOverride(w, x.below, x.above, x.flags); got != x.want {
			t.Error(x, got)
		}
	}
}
