package dispatch_test

import (
	"armature/api"
	"armature/classspace"
	"armature/dispatch"
	"armature/method"
	"armature/sample"
	"slices"
	"testing"
)

const listing = `
class 1537 I extends lang/Object
m 1 g ()V
m 1025 h ()V
m 9 st ()V
class 1537 J extends lang/Object
m 1 g ()V
class 1537 K extends lang/Object
implements I
implements J
m 1 g ()V
class 1025 A extends lang/Object
m 1 <init> ()V
m 1 m ()V
m 2 p ()V
m 0 pkg ()V
m 9 s ()V
m 1025 abs ()V
m 17 fin ()V
class 1025 B extends A
m 1 <init> ()V
m 1 m ()V
m 1 p ()V
m 1 pkg ()V
m 1 abs ()V
class 1025 Empty extends B
class 1025 q/C extends A
m 1 pkg ()V
m 1024 m ()V
class 1 D extends lang/Object
implements I
implements J
m 0 h ()V
class 1 E extends D
implements K
m 1 h ()V
class 1 Hide extends B
m 9 m ()V
class 1 Below extends Hide
m 1 x ()V
class 16 F extends lang/Object
class 1 G extends F
class 1 H extends B
m 1 fin ()V
class 1 N extends B
m 2 fin ()V`

func example(t *testing.T) (api.ClassSpace, func(string) int, func(string, string) api.MemberRef) {
	t.Helper()
	w, e := sample.Loaded(sample.Root + listing)
	if e != api.OK {
		t.Fatal(e)
	}
	id := func(s string) int {
		c, ok := classspace.FindLoaded(w, 0, s)
		if !ok {
			t.Fatal(s)
		}
		return c
	}
	return w, id, func(c, name string) api.MemberRef {
		i, ok := method.Declared(w, id(c), name, "()V")
		if !ok {
			t.Fatal(c, name)
		}
		return api.MemberRef{Class: id(c), Index: i}
	}
}

func TestVirtual(t *testing.T) { // P33.1, P33.5
	w, id, at := example(t)
	none := api.MemberRef{}
	for k, x := range []struct {
		c    int
		f, g api.MemberRef
		e    api.Errno
	}{
		{id("B"), at("A", "m"), at("B", "m"), 0}, {id("A"), at("A", "m"), at("A", "m"), 0}, {id("Empty"), at("A", "m"), at("B", "m"), 0}, {id("B"), at("A", "p"), at("A", "p"), 0}, {id("B"), at("B", "p"), at("B", "p"), 0}, {id("B"), at("A", "<init>"), at("A", "<init>"), 0}, {id("B"), at("A", "pkg"), at("B", "pkg"), 0}, {id("q/C"), at("A", "pkg"), at("A", "pkg"), 0}, {id("q/C"), at("A", "m"), none, api.ErrAbstractMethod}, {id("B"), at("A", "abs"), at("B", "abs"), 0}, {id("A"), at("A", "abs"), none, api.ErrAbstractMethod},
		{-1, at("A", "m"), none, api.ErrBadArgument}, {99, at("A", "m"), none, api.ErrBadArgument}, {id("A"), api.MemberRef{Class: 99}, none, api.ErrBadArgument}, {id("A"), at("A", "s"), none, api.ErrBadArgument}, {id("A"), at("B", "m"), none, api.ErrIncompatibleChange}, {id("D"), at("A", "m"), none, api.ErrIncompatibleChange},
		{id("D"), at("I", "g"), none, api.ErrDefaultConflict}, {id("D"), at("J", "g"), none, api.ErrDefaultConflict}, {id("E"), at("J", "g"), at("K", "g"), 0}, {id("D"), at("I", "h"), none, api.ErrAbstractMethod}, {id("E"), at("I", "h"), at("E", "h"), 0}, {id("K"), at("I", "g"), at("K", "g"), 0}, {id("Hide"), at("A", "m"), at("B", "m"), 0}, {id("N"), at("A", "fin"), at("A", "fin"), 0},
	} {
		if g, e := dispatch.Virtual(w, x.c, x.f); g != x.g || e != x.e {
			t.Errorf("case %d: %v %d", k, g, e)
		}
	}
}

func TestSpecial(t *testing.T) { // P33.2, P33.5
	w, id, at := example(t)
	none := api.MemberRef{}
	ref := func(c string) api.Ref { return api.Ref{Class: c} }
	for k, x := range []struct {
		from int
		f    api.MemberRef
		r    api.Ref
		g    api.MemberRef
		e    api.Errno
	}{
		{id("B"), at("A", "m"), ref("A"), at("A", "m"), 0}, {id("Empty"), at("A", "m"), ref("A"), at("B", "m"), 0}, {id("Empty"), at("A", "<init>"), ref("A"), at("A", "<init>"), 0}, {id("A"), at("A", "p"), ref("B"), at("A", "p"), 0}, {id("B"), at("B", "m"), ref("B"), at("B", "m"), 0}, {id("E"), at("I", "g"), ref("I"), at("I", "g"), 0}, {id("E"), at("I", "h"), ref("I"), none, api.ErrAbstractMethod}, {id("E"), at("I", "g"), ref("D"), at("I", "g"), 0}, {id("B"), at("A", "abs"), ref("A"), none, api.ErrAbstractMethod}, {id("A"), at("A", "abs"), ref("A"), none, api.ErrAbstractMethod},
		{-1, at("A", "m"), ref("A"), none, api.ErrBadArgument}, {id("A"), at("A", "s"), ref("A"), none, api.ErrBadArgument}, {id("A"), api.MemberRef{Class: -1}, ref("A"), none, api.ErrBadArgument}, {id("lang/Object"), at("A", "m"), ref("A"), none, api.ErrNoMethod}, {id("D"), at("A", "m"), ref("A"), none, api.ErrNoMethod}, {id("D"), at("A", "m"), ref("Unknown"), none, api.ErrNoMethod}, {id("Below"), at("A", "m"), ref("Hide"), none, api.ErrIncompatibleChange},
	} {
		if g, e := dispatch.Special(w, x.from, x.f, x.r); g != x.g || e != x.e {
			t.Errorf("case %d: %v %d", k, g, e)
		}
	}
}

func TestVirtualTable(t *testing.T) { // P33.3, P33.5, P33.6
	w, id, at := example(t)
	for c, want := range map[string][]api.MemberRef{
		"A": {at("A", "m"), at("A", "pkg"), at("A", "fin")}, "B": {at("B", "m"), at("B", "pkg"), at("B", "abs"), at("A", "fin"), at("B", "p")}, "q/C": {at("A", "pkg"), at("A", "fin"), at("q/C", "pkg")}, "I": nil, "D": {at("D", "h")}, "lang/Object": nil,
	} {
		if got := dispatch.VirtualTable(w, id(c)); !slices.Equal(got, want) {
			t.Error(c, got, want)
		}
	}
	if !slices.Equal(dispatch.VirtualTable(w, id("Empty")), dispatch.VirtualTable(w, id("B"))) {
		t.Error("inheritance")
	}
	for _, c := range []int{-1, 99} {
		if len(dispatch.VirtualTable(w, c)) != 0 {
			t.Error(c)
		}
	}
	for c := range w.Classes {
		for _, f := range dispatch.VirtualTable(w, c) {
			if m, ok := method.Get(w, f); !ok || m.Flags&(api.Static|api.Abstract) != 0 || !classspace.IsSubtype(w, c, f.Class) {
				t.Error(c, f)
			}
		}
	}
}

func TestCheckFinal(t *testing.T) { // P33.4, P33.7
	w, id, at := example(t)
	for c, want := range map[int]api.Errno{-1: api.ErrRange, 99: api.ErrRange, id("G"): api.ErrFinal, id("H"): api.ErrFinal, id("N"): api.OK, id("A"): api.OK, id("F"): api.OK, id("lang/Object"): api.OK, id("I"): api.OK} {
		if e := dispatch.CheckFinal(w, c); e != want {
			t.Error(c, e)
		}
	}
	for _, c := range []string{"A", "B", "Empty", "N"} {
		if g, e := dispatch.Virtual(w, id(c), at("A", "fin")); e != api.OK || g != at("A", "fin") {
			t.Error(c, g, e)
		}
	}
}
