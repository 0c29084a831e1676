package intern_test

import (
	"armature/api"
	"armature/heap"
	"armature/intern"
	"armature/sample"
	"reflect"
	"strings"
	"testing"
)

func machine(t *testing.T, room int) api.Machine {
	t.Helper()
	w, e := sample.Space(sample.Root)
	if e != api.OK {
		t.Fatal(e)
	}
	return api.Machine{Space: w, MaxObjects: room}
}

func TestIntern(t *testing.T) { // P37.1, P37.2, P37.4, P37.5
	m := machine(t, 100)
	objects := map[string]int{}
	for _, s := range []string{"b", "a", "", "ab", "\xff", strings.Repeat("x", 1024)} {
		if n, ok := intern.Lookup(m, s); n != 0 || ok {
			t.Error(s, n, ok)
		}
		before := m
		var n int
		var e api.Errno
		m, n, e = intern.Intern(m, s)
		if e != api.OK || !heap.Valid(m) || !reflect.DeepEqual(m.Heap[:len(before.Heap)], before.Heap) && len(before.Heap) > 0 {
			t.Fatal(s, n, e)
		}
		objects[s] = n
	}
	seen := map[int]bool{}
	for s, n := range objects {
		if r, k, e := intern.Intern(m, s); k != n || e != api.OK || !reflect.DeepEqual(r, m) || seen[n] {
			t.Error(s, k, e)
		}
		seen[n] = true
		if k, ok := intern.Lookup(m, s); k != n || !ok {
			t.Error(s, k, ok)
		}
		if r, e := intern.StringValue(m, n); r != s || e != api.OK {
			t.Error(s, r, e)
		}
		r, k, e := intern.NewString(m, s)
		if e != api.OK || k == n || !heap.Valid(r) || len(r.Interned) != len(m.Interned) {
			t.Error(s, k, e)
		}
		if q, e := intern.StringValue(r, k); q != s || e != api.OK {
			t.Error(q, e)
		}
	}
}

func TestErrors(t *testing.T) { // P37.2
	long := strings.Repeat("x", 1025)
	empty := machine(t, 0)
	without := machine(t, 9)
	without.Space.Loaders = []api.Loader{{}}
	for _, f := range []func(api.Machine, string) (api.Machine, int, api.Errno){intern.Intern, intern.NewString} {
		for k, x := range []struct {
			m api.Machine
			s string
			e api.Errno
		}{{empty, long, api.ErrTooLarge}, {empty, "a", api.ErrOutOfMemory}, {without, "a", api.ErrNoClass}, {without, long, api.ErrTooLarge}} {
			if r, n, e := f(x.m, x.s); e != x.e || n != 0 || !reflect.DeepEqual(r, x.m) {
				t.Error(k, n, e)
			}
		}
	}
}

func TestStringValue(t *testing.T) { // P37.3
	m, n, e := intern.NewString(machine(t, 9), "x")
	if e != api.OK || n != 1 {
		t.Fatal(n, e)
	}
	m, n, e = heap.NewArray(m, api.RuntimeType{Base: 'I'}, 1)
	if e != api.OK || n != 2 {
		t.Fatal(n, e)
	}
	for n, want := range map[int]api.Errno{0: api.ErrNullPointer, 1: api.OK, 2: api.ErrClassCast, 3: api.ErrRange, -1: api.ErrRange} {
		if s, e := intern.StringValue(m, n); e != want || (s == "x") != (e == api.OK) {
			t.Error(n, s, e)
		}
	}
}
