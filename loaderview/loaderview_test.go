package loaderview_test

import (
	"armature/api"
	"armature/classspace"
	"armature/hier"
	"armature/load"
	"armature/loaderview"
	"armature/sample"
	"reflect"
	"slices"
	"testing"
)

func space(t *testing.T, listings ...string) api.ClassSpace {
	t.Helper()
	w, e := sample.Space(listings...)
	if e != api.OK {
		t.Fatal(e)
	}
	return w
}

func TestReferencedNames(t *testing.T) { // P28.1
	l, e := sample.Models(`class 1025 p/A extends P
implements I
field 1 x [LF1;
field 1 y I
method 1 f (LM1;[[LM2;J)LM3;
throws X1
code 9 9
getstatic C1 s LD1;
getfield C2 f [J
invokestatic C3 g (LD2;)[LD3;
invokeinterface C4 g ()V
invokevirtual C4b g ()V
new N1
checkcast [LN2;
checkcast [[I
instanceof N3
newarray [LN4;
newarray J
ldc string "LNo;"
map locals LS1; [I top stack new 5 LN1;
nop
return
catch 0 2 3 H1
catch 0 2 3 *
end
m 1024 none ()V`)
	if e != api.OK {
		t.Fatal(e)
	}
	want := []string{"C1", "C2", "C3", "C4", "C4b", "D1", "D2", "D3", "F1", "H1", "I", "M1", "M2", "M3", "N1", "N2", "N3", "N4", "P", "S1", "X1", "lang/Object", "lang/String", "lang/Throwable", "p/A"}
	slices.Sort(want)
	if got := loaderview.ReferencedNames(l[0]); !slices.Equal(got, want) {
		t.Error(got)
	}
	odd := api.ClassModel{Name: "?", Super: "[I", Interfaces: []string{"!"}, Fields: []api.Field{{Desc: "LX"}, {Desc: "(LX;)V"}}, Methods: []api.Method{{Desc: "LX;", Exceptions: []string{"#"}, Code: api.Code{Insns: []api.Insn{{Op: api.New, Ref: api.Ref{Class: "a.b"}}, {Op: api.NewArray, S: "(LX;)V"}, {Op: 500, Ref: api.Ref{Class: "X"}}}, Handlers: []api.Handler{{Type: "%"}}}}}}
	if got := loaderview.ReferencedNames(odd); !slices.Equal(got, []string{"!", "#", "%", "?", "[I", "lang/Object", "lang/String", "lang/Throwable"}) {
		t.Error(got)
	}
}

func TestExample(t *testing.T) { // P28.2
	w := space(t, "class 1 lang/Object extends -\nclass 1 A extends lang/Object")
	w, c, e := load.Load(w, 0, "A")
	if e != api.OK {
		t.Fatal(e)
	}
	r, l, e := loaderview.ForClass(w, c)
	if e != api.OK || !reflect.DeepEqual(l, []api.ClassInfo{{Name: "A", Super: "lang/Object"}, {Name: "lang/Object"}}) || !classspace.Equal(r, w) {
		t.Error(l, e)
	}
	for _, c := range []int{-1, 2} {
		if r, l, e := loaderview.ForClass(w, c); e != api.ErrRange || l != nil || !classspace.Equal(r, w) {
			t.Error(c, l, e)
		}
	}
}

func TestErrors(t *testing.T) { // P28.2
	w := space(t, "class 1 A extends lang/Object", "")
	for _, x := range []struct {
		loader int
		e      api.Errno
	}{{-1, api.ErrRange}, {2, api.ErrRange}, {1, api.ErrNoClass}, {0, api.ErrNoClass}} {
		if r, l, e := loaderview.Hierarchy(w, x.loader, []string{"A"}); e != x.e || l != nil || !classspace.Equal(r, w) {
			t.Error(x, l, e)
		}
	}
}

// shadowed has a loader 1 that sees other classes P, Q and I than those that B of loader 0 inherits from.
func shadowed(t *testing.T) api.ClassSpace {
	return space(t, sample.Root+`
class 1537 I extends lang/Object
class 1537 J extends lang/Object
implements I
class 1537 K extends lang/Object
implements J
class 1 O extends lang/Object
implements K
class 1 P extends O
implements I
class 1 Q extends P
implements J
class 1 B extends Q
implements K
class 1 E extends B`, `to B 0
to O 0
to E 0
to I 0
class 1 P extends lang/Object
class 1 Q extends lang/Object
class 1537 J extends lang/Object
class 1 C extends Q
class 1 Bad extends Nowhere`)
}

func TestShadowedSupertypes(t *testing.T) { // P28.2, P28.3
	w := shadowed(t)
	r, l, e := loaderview.Hierarchy(w, 1, []string{"E", "C", "Bad", "1", "Nowhere", "J"})
	if e != api.OK {
		t.Fatal(e)
	}
	want := []api.ClassInfo{{Name: "B", Super: "O", Interfaces: []string{"I"}}, {Name: "C", Super: "Q"}, {Name: "E", Super: "B"}, {Name: "I", Super: "lang/Object", IsInterface: true}, {Name: "J", Super: "lang/Object", IsInterface: true}, {Name: "O", Super: "lang/Object", Interfaces: []string{"I"}}, {Name: "Q", Super: "lang/Object"}, {Name: "lang/Object"}}
	if len(l) != len(want) {
		t.Fatalf("%+v", l)
	}
	for i := range want {
		if l[i].Name != want[i].Name || l[i].Super != want[i].Super || l[i].IsInterface != want[i].IsInterface || !slices.Equal(l[i].Interfaces, want[i].Interfaces) {
			t.Errorf("%+v, want %+v", l[i], want[i])
		}
	}
	checkAgreement(t, r, 1, l)
	again, l2, e := loaderview.Hierarchy(r, 1, []string{"E", "C", "Bad", "1", "Nowhere", "J"})
	if e != api.OK || !classspace.Equal(again, r) || !reflect.DeepEqual(l, l2) {
		t.Error(l2, e)
	}
}

func checkAgreement(t *testing.T, w api.ClassSpace, loader int, l []api.ClassInfo) {
	t.Helper()
	if s, e := hier.Check(l); e != api.OK {
		t.Error(s, e)
	}
	if !classspace.Valid(w) {
		t.Error("not valid")
	}
	for _, a := range l {
		for _, b := range l {
			x, _ := classspace.FindLoaded(w, loader, a.Name)
			y, _ := classspace.FindLoaded(w, loader, b.Name)
			if hier.IsSubclass(l, a.Name, b.Name) != classspace.IsSubtype(w, x, y) {
				t.Error(a.Name, b.Name)
			}
		}
	}
}

func TestForClass(t *testing.T) { // P28.2, P28.3
	w := shadowed(t)
	w, c, e := load.Load(w, 0, "E")
	if e != api.OK {
		t.Fatal(e)
	}
	r, l, e := loaderview.ForClass(w, c)
	var names []string
	for _, i := range l {
		names = append(names, i.Name)
	}
	if e != api.OK || !slices.Equal(names, []string{"B", "E", "I", "J", "K", "O", "P", "Q", "lang/Object", "lang/String", "lang/Throwable"}) {
		t.Error(names, e)
	}
	checkAgreement(t, r, 0, l)
}
