package load_test

import (
	"armature/api"
	"armature/classmodel"
	"armature/classspace"
	"armature/load"
	"armature/sample"
	"slices"
	"strconv"
	"strings"
	"testing"
)

func space(t *testing.T, listings ...string) api.ClassSpace {
	t.Helper()
	w, e := sample.Space(listings...)
	if e != api.OK {
		t.Fatal(e)
	}
	return w
}

func example(t *testing.T) api.ClassSpace {
	w := space(t, sample.Root+"\nclass 1537 I extends lang/Object\nclass 1 p/A extends lang/Object\nclass 1 B extends p/A",
		"to p/ 0\nclass 1 A extends lang/Object\nclass 1 D extends A\nclass 1 F extends p/A\nclass 1 X extends Y\nclass 1 Y extends X\nclass 1 S extends I\nclass 1537 J extends lang/Object\nclass 1 T extends lang/Object\nimplements A\nclass 1 U extends J\nclass 1 V extends lang/Object\nimplements J\nclass 1537 K extends lang/Object\nimplements L\nclass 1537 L extends lang/Object\nimplements K\nclass 1 p/A extends lang/Object",
		"to A 1\nto J 1\nto D 1\nclass 1 A extends lang/Object\nclass 1 V2 extends D\nimplements J")
	w.Loaders[1].Store = append(w.Loaders[1].Store, api.StoredClass{Name: "Bad", Bytes: "ARMA"}, api.StoredClass{Name: "Other", Bytes: w.Loaders[1].Store[0].Bytes}, api.StoredClass{Name: "Zero", Bytes: "ARMA\x00\x01\x00\x00" + strings.Repeat("\x00", 14)})
	return w
}

func TestReadModel(t *testing.T) { // P27.1
	w := example(t)
	for _, x := range []struct {
		loader int
		s      string
		e      api.Errno
	}{{-1, "A", api.ErrRange}, {3, "A", api.ErrRange}, {0, "A", api.ErrNoClass}, {1, "", api.ErrNoClass}, {1, "Bad", api.ErrClassFormat}, {1, "Other", api.ErrClassFormat}, {1, "Zero", api.ErrClassFormat}, {1, "p/A", api.OK}} {
		u, e := load.ReadModel(w, x.loader, x.s)
		if e != x.e || e == api.OK && u.Name != x.s || e != api.OK && !classmodel.Equal(u, api.ClassModel{}) {
			t.Error(x, u.Name, e)
		}
	}
}

func TestLoad(t *testing.T) { // P27.2
	w := example(t)
	r, c, e := load.Load(w, 1, "D")
	want := []api.Initiated{{Loader: 0, Name: "lang/Object", Class: 0}, {Loader: 1, Name: "lang/Object", Class: 0}, {Loader: 1, Name: "A", Class: 1}, {Loader: 1, Name: "D", Class: 2}}
	if e != api.OK || c != 2 || !slices.Equal(r.Initiated, want) || !classspace.Valid(r) {
		t.Fatal(r.Initiated, c, e)
	}
	if d := r.Classes[2]; d.Loader != 1 || d.Super != 1 || d.Stage != api.Loaded || len(d.Interfaces) != 0 || r.Classes[0].Super != -1 || r.Classes[0].Loader != 0 {
		t.Error(d)
	}
	if again, c, e := load.Load(r, 1, "D"); c != 2 || e != api.OK || !classspace.Equal(again, r) {
		t.Error(c, e)
	}
	r, c, e = load.Load(r, 2, "V2")
	if e != api.OK || !classspace.Valid(r) || r.Classes[c].Super != 2 || r.Classes[c].Loader != 2 || len(r.Classes[c].Interfaces) != 1 || r.Classes[r.Classes[c].Interfaces[0]].Model.Name != "J" {
		t.Error(r.Classes[c], e)
	}
	if a, ok := classspace.FindLoaded(r, 2, "A"); ok {
		t.Error("loader 2 has not asked for A", a)
	}
	if r, c, e := load.Load(r, 1, "F"); e != api.OK || r.Classes[r.Classes[c].Super].Loader != 0 {
		t.Error(e)
	}
}

func TestLoadErrors(t *testing.T) { // P27.2
	w := example(t)
	for _, x := range []struct {
		loader int
		s      string
		e      api.Errno
	}{{9, "1", api.ErrRange}, {-1, "A", api.ErrRange}, {0, "1", api.ErrBadName}, {1, "[I", api.ErrBadName}, {0, "Z", api.ErrNoClass}, {1, "p/Z", api.ErrNoClass}, {1, "B", api.ErrNoClass}, {1, "Bad", api.ErrClassFormat}, {1, "X", api.ErrCircularity}, {1, "Y", api.ErrCircularity}, {1, "K", api.ErrCircularity}, {1, "S", api.ErrNoClass}, {1, "U", api.ErrIncompatibleChange}, {1, "T", api.ErrIncompatibleChange}, {2, "lang/Z", api.ErrNoClass}} {
		if r, c, e := load.Load(w, x.loader, x.s); e != x.e || c != -1 || !classspace.Equal(r, w) {
			t.Error(x, c, e)
		}
	}
}

func TestConstraints(t *testing.T) { // P27.2
	w := space(t, sample.Root, "class 1 A extends lang/Object\nclass 1 B extends lang/Object", "to B 1\nclass 1 A extends lang/Object\nclass 1 C extends A", "class 1 B extends lang/Object")
	w.Constraints = []api.Constraint{{Name: "A", A: 1, B: 2}, {Name: "B", A: 2, B: 3}}
	r, _, e := load.Load(w, 1, "A")
	if e != api.OK {
		t.Fatal(e)
	}
	for _, s := range []string{"A", "C"} {
		if x, c, e := load.Load(r, 2, s); e != api.ErrLoadingConstraint || c != -1 || !classspace.Equal(x, r) {
			t.Error("definition", s, c, e)
		}
	}
	r, _, e = load.Load(r, 3, "B")
	if e != api.OK {
		t.Fatal(e)
	}
	if x, c, e := load.Load(r, 2, "B"); e != api.ErrLoadingConstraint || c != -1 || !classspace.Equal(x, r) {
		t.Error("delegation", c, e)
	}
}

func TestTooMany(t *testing.T) { // P27.2
	l := []string{sample.Root}
	for i := range 4 {
		var b strings.Builder
		for n := range 60 {
			b.WriteString("class 1 A" + strconv.Itoa(i*100+n) + " extends lang/Object\n")
		}
		l = append(l, strings.TrimSpace(b.String()))
	}
	w := space(t, l...)
	count := func() int { return len(w.Classes) }
	for i := range 4 {
		for n := range 60 {
			before := count()
			r, c, e := load.Load(w, i+1, "A"+strconv.Itoa(i*100+n))
			if before == api.MaxClasses {
				if e != api.ErrTooMany || c != -1 || !classspace.Equal(r, w) {
					t.Fatal(c, e)
				}
				continue
			}
			if e != api.OK {
				t.Fatal(before, e)
			}
			w = r
		}
	}
	if count() != api.MaxClasses || !classspace.Valid(w) {
		t.Error(count())
	}
}

func TestLoadAll(t *testing.T) { // P27.3
	w := example(t)
	r, l, e := load.LoadAll(w, 1, []string{"D", "A", "F", "D"})
	if e != api.OK || len(l) != 4 || l[0] != l[3] || l[1] != r.Classes[l[0]].Super {
		t.Error(l, e)
	}
	if r, l, e := load.LoadAll(w, 1, []string{"D", "X", "Bad"}); e != api.ErrCircularity || l != nil || !classspace.Equal(r, w) {
		t.Error(l, e)
	}
	if r, l, e := load.LoadAll(w, 9, nil); e != api.OK || len(l) != 0 || !classspace.Equal(r, w) {
		t.Error(l, e)
	}
}

// request is a name asked of a loader.
type request struct {
	loader int
	name   string
}

func TestOrderDoesNotMatter(t *testing.T) { // P27.4, P3
	w := example(t)
	var all []request
	for l := range 3 {
		for _, s := range []string{"A", "D", "F", "X", "J", "V", "V2", "B", "p/A", "lang/String", "S", "K", "I", "Bad"} {
			all = append(all, request{l, s})
		}
	}
	outcome := func(order []request) (map[request]string, api.ClassSpace) {
		r := w
		got := map[request]string{}
		for _, q := range order {
			next, c, e := load.Load(r, q.loader, q.name)
			if e != api.OK {
				got[q] = "error " + strconv.Itoa(int(e))
				continue
			}
			r = next
			if r.Classes[c].Loader != classspace.DefiningLoader(r, q.loader, q.name) || r.Classes[c].Model.Name != q.name {
				t.Error(q, c)
			}
			got[q] = "loader " + strconv.Itoa(r.Classes[c].Loader)
		}
		return got, r
	}
	first, r := outcome(all)
	if !classspace.Valid(r) {
		t.Error("not valid")
	}
	for shift := range all {
		order := slices.Concat(all[shift:], all[:shift])
		if shift%2 == 1 {
			slices.Reverse(order)
		}
		got, _ := outcome(order)
		for q, s := range first {
			if got[q] != s {
				t.Error(shift, q, s, got[q])
			}
		}
	}
}
