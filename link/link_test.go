package link_test

import (
	"armature/api"
	"armature/classspace"
	"armature/link"
	"armature/load"
	"armature/method"
	"armature/sample"
	"slices"
	"testing"
)

const listing = `
class 1537 I extends lang/Object
m 1025 f ()V
m 1 d ()V
m 1 d2 ()V
m 9 st ()V
class 1537 J extends lang/Object
implements I
m 1 d ()V
class 1 A extends lang/Object
m 1 <init> ()V
m 1 f ()V
m 2 p ()V
m 9 s ()V
m 17 fin ()V
m 0 pkg ()V
class 1 B extends A
implements J
m 1 <init> ()V
m 1 f ()V
m 1 p ()V
m 0 pkg ()V
method 8 <clinit> ()V
code 0 0
return
end
class 1 C extends A
implements I
m 1 d ()V
class 1 Fin extends A
m 1 fin ()V
class 17 F extends lang/Object
class 1 G extends F
class 0 q/Hidden extends lang/Object
class 1 H extends q/Hidden
class 1 Bad extends A
method 9 f ()I
code 1 0
aconstnull
ireturn
end
class 1 BelowBad extends Bad
class 1 q/P extends A
m 1 pkg ()V`

func example(t *testing.T) (api.ClassSpace, func(string) int, func(string, string) api.MemberRef) {
	t.Helper()
	w, e := sample.Loaded(sample.Root + listing)
	if e != api.OK {
		t.Fatal(e)
	}
	id := func(s string) int {
		c, ok := classspace.FindLoaded(w, 0, s)
		if !ok {
			t.Fatal(s)
		}
		return c
	}
	return w, id, func(c, name string) api.MemberRef {
		i, ok := method.Declared(w, id(c), name, "()V")
		if !ok {
			t.Fatal(c, name)
		}
		return api.MemberRef{Class: id(c), Index: i}
	}
}

func TestOverrides(t *testing.T) { // P34.1
	w, id, at := example(t)
	type pair = [2]api.MemberRef
	for c, want := range map[string][]pair{
		"B": {{at("B", "f"), at("A", "f")}, {at("B", "f"), at("I", "f")}, {at("B", "pkg"), at("A", "pkg")}, {at("J", "d"), at("I", "d")}},
		"C": {{at("C", "d"), at("I", "d")}, {at("A", "f"), at("I", "f")}},
		"J": {{at("J", "d"), at("I", "d")}}, "A": nil, "I": nil, "Fin": {{at("Fin", "fin"), at("A", "fin")}}, "q/P": nil,
	} {
		if got := link.Overrides(w, id(c)); !slices.Equal(got, want) {
			t.Error(c, got, want)
		}
	}
	if len(link.Overrides(w, -1)) != 0 || len(link.Overrides(w, 99)) != 0 {
		t.Error("no class")
	}
}

func TestLink(t *testing.T) { // P34.2, P34.4
	base, id, _ := example(t)
	for _, x := range []struct {
		c     string
		e     api.Errno
		above string
		stage int
	}{{"B", api.OK, "J", api.Linked}, {"Fin", api.ErrFinal, "A", api.Linked}, {"G", api.ErrFinal, "F", api.Linked}, {"H", api.ErrIllegalAccess, "q/Hidden", api.Linked}, {"Bad", api.ErrVerify, "A", api.Linked}, {"BelowBad", api.ErrVerify, "Bad", api.LinkFailed}} {
		w, e := link.Link(base, id(x.c))
		if e != x.e || !classspace.Valid(w) || !link.Consistent(w) || w.Classes[id(x.above)].Stage != x.stage {
			t.Error(x, e)
		}
		c := w.Classes[id(x.c)]
		switch {
		case x.e == api.OK && c.Stage != api.Linked, x.c == "BelowBad" && c.Stage != api.Loaded, x.e != api.OK && x.c != "BelowBad" && (c.Stage != api.LinkFailed || c.Err != x.e):
			t.Error(x, c.Stage, c.Err)
		}
		if again, e := link.Link(w, id(x.c)); e != x.e || !classspace.Equal(again, w) {
			t.Error("again", x, e)
		}
		for _, s := range classspace.Superclasses(w, id(x.c)) {
			if x.e == api.OK && w.Classes[s].Stage != api.Linked {
				t.Error(s)
			}
		}
	}
	for _, c := range []int{-1, len(base.Classes)} {
		if w, e := link.Link(base, c); e != api.ErrRange || !classspace.Equal(w, base) {
			t.Error(c, e)
		}
	}
}

func TestLinkAllAndConsistent(t *testing.T) { // P34.3
	base, id, _ := example(t)
	w, e := link.LinkAll(base, []int{id("C"), id("Bad"), id("B")})
	if e != api.ErrVerify || w.Classes[id("C")].Stage != api.Linked || w.Classes[id("B")].Stage != api.Loaded || w.Classes[id("Bad")].Stage != api.LinkFailed {
		t.Error(e)
	}
	if w, e := link.LinkAll(base, nil); e != api.OK || !classspace.Equal(w, base) {
		t.Error(e)
	}
	w.Classes = slices.Clone(w.Classes)
	w.Classes[id("I")].Stage = api.Loaded
	if link.Consistent(w) || !link.Consistent(base) {
		t.Error("Consistent")
	}
}

func TestConstraints(t *testing.T) { // P34.2
	w, e := sample.Space(sample.Root+"\nclass 1 A extends lang/Object\nm 1 f (LY;)LZ;\nm 1 <init> ()V", "to A 0\nclass 1 B extends A\nm 1 <init> ()V\nm 1 f (LY;)LZ;\nclass 1 Z extends lang/Object", "class 1 Z extends lang/Object\nclass 1 Y extends lang/Object")
	if e != api.OK {
		t.Fatal(e)
	}
	w, b, e := load.Load(w, 1, "B")
	if e != api.OK {
		t.Fatal(e)
	}
	r, e := link.Link(w, b)
	if e != api.OK || !slices.Equal(r.Constraints, []api.Constraint{{Name: "Y", A: 1, B: 0}, {Name: "Z", A: 1, B: 0}}) || !classspace.Valid(r) {
		t.Error(r.Constraints, e)
	}
	if z, ok := classspace.FindLoaded(r, 1, "Z"); !ok || r.Classes[z].Loader != 1 {
		t.Error("the view of the class loads Z", z, ok)
	}
	w, _, _ = load.Load(w, 1, "Z")
	w, _, _ = load.Load(w, 2, "Z")
	w.Constraints = []api.Constraint{{Name: "Z", A: 2, B: 0}}
	r, e = link.Link(w, b)
	if e != api.ErrLoadingConstraint || r.Classes[b].Err != e || !slices.Equal(r.Constraints, []api.Constraint{{Name: "Z", A: 2, B: 0}}) {
		t.Error(r.Constraints, e)
	}
}

func TestWithoutRoot(t *testing.T) { // P34.2
	w, _ := sample.Space("class 1 lang/Object extends -", "class 1 A extends lang/Object\nfield 1 x I")
	w, c, _ := load.Load(w, 1, "A")
	if w, e := link.Link(w, c); e != api.OK || w.Classes[c].Stage != api.Linked {
		t.Error(e)
	}
}

func TestOrder(t *testing.T) { // P34.5, P4
	base, _, _ := example(t)
	n := len(base.Classes)
	for a := range n {
		for b := range n {
			p, e1 := link.Link(base, a)
			p, e2 := link.Link(p, b)
			q, f2 := link.Link(base, b)
			q, f1 := link.Link(q, a)
			if e1 != f1 || e2 != f2 {
				t.Error(a, b, e1, f1, e2, f2)
			}
			for c := range p.Classes {
				if p.Classes[c].Stage != q.Classes[c].Stage || p.Classes[c].Err != q.Classes[c].Err {
					t.Error(a, b, c)
				}
			}
		}
	}
}
