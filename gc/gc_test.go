package gc_test

import (
	"armature/api"
	"armature/classspace"
	"armature/gc"
	"armature/heap"
	"armature/load"
	"armature/reachability"
	"armature/sample"
	"reflect"
	"slices"
	"testing"
)

func v(n int) api.Value { return api.Value{Kind: api.KRef, N: n} }

// chain has a static field that refers to object 1; each object of the classes refers to the next one.
func chain(t *testing.T, classes ...string) api.Machine {
	t.Helper()
	m, e := sample.Machine(50, "class 1 A extends lang/Object\nfield 1 next Llang/Object;\nclass 1 Mine extends lang/WeakReference\nclass 1 H extends lang/Object\nfield 9 s Llang/Object;")
	if e != api.OK {
		t.Fatal(e)
	}
	for i, s := range classes {
		var c int
		if m.Space, c, e = load.Load(m.Space, 0, s); e != api.OK {
			t.Fatal(e)
		}
		o := api.Object{Kind: api.ObjInstance, Type: api.RuntimeType{Base: 'L', Class: c}, Values: []api.Value{v((i + 2) % (len(classes) + 1))}}
		if s != "A" {
			o.Values = append(o.Values, api.Value{Kind: api.KInt})
		}
		m.Heap = append(m.Heap, o)
	}
	h, _ := classspace.FindLoaded(m.Space, 0, "H")
	m.Init = make([]api.InitRecord, h+1)
	m.Init[h] = api.InitRecord{State: api.Initialized, Statics: []api.Value{v(1)}}
	if !heap.Valid(m) {
		t.Fatal("not valid")
	}
	return m
}

const (
	soft    = "lang/SoftReference"
	weak    = "lang/WeakReference"
	phantom = "lang/PhantomReference"
)

func TestCollect(t *testing.T) { // P51.1, P51.2, P51.3, P51.4, P51.5
	for k, x := range []struct {
		classes        []string
		soft           bool
		freed, cleared []int
	}{
		{[]string{weak, "A"}, false, []int{2}, []int{1}}, {[]string{soft, "A"}, false, nil, nil}, {[]string{soft, "A"}, true, []int{2}, []int{1}}, {[]string{phantom, "A", "A"}, false, []int{2, 3}, []int{1}}, {[]string{"Mine", "A"}, false, []int{2}, []int{1}}, {[]string{"A", weak, "A", "A"}, false, []int{3, 4}, []int{2}}, {[]string{soft, weak, "A"}, false, []int{3}, []int{2}}, {[]string{soft, weak, "A"}, true, []int{2, 3}, []int{1}}, {[]string{"A", "A"}, true, nil, nil}, {[]string{weak, soft, "A"}, false, []int{2, 3}, []int{1}}, {[]string{soft, "A", soft, "A"}, false, nil, nil},
	} {
		m := chain(t, x.classes...)
		m.Heap = append(m.Heap, api.Object{}, m.Heap[len(m.Heap)-1])
		extra := len(m.Heap)
		freed := append(slices.Clone(x.freed), extra)
		if l := gc.Unreachable(m, x.soft); !slices.Equal(l, freed) {
			t.Error(k, l)
		}
		if l := gc.ToClear(m, x.soft); !slices.Equal(l, x.cleared) {
			t.Error(k, l)
		}
		r, l, e := gc.Collect(m, x.soft)
		if e != api.OK || !slices.Equal(l, freed) || !heap.Valid(r) {
			t.Error(k, l, e)
		}
		for n := -1; n <= extra+1; n++ {
			o, ok := heap.Object(m, n)
			if gc.Survives(m, n, x.soft) != (ok && !slices.Contains(freed, n)) {
				t.Error(k, n)
			}
			if !ok {
				continue
			}
			after := r.Heap[n-1]
			switch {
			case slices.Contains(freed, n):
				if !reflect.DeepEqual(after, api.Object{}) || !slices.Contains(gc.Unreachable(m, true), n) {
					t.Error(k, n, after)
				}
			case slices.Contains(x.cleared, n):
				if after.Values[0] != v(0) || after.Values[1] != (api.Value{Kind: api.KInt, N: 1}) {
					t.Error(k, n, after)
				}
			case !reflect.DeepEqual(after, o):
				t.Error(k, n, after)
			}
		}
		for _, n := range reachability.Roots(m) {
			if !gc.Survives(m, n, x.soft) {
				t.Error(k, n)
			}
		}
		again, l, e := gc.Collect(r, x.soft)
		if e != api.OK || len(l) != 0 || !reflect.DeepEqual(again, r) || len(gc.ToClear(r, x.soft)) != 0 {
			t.Error(k, "again", l)
		}
		r.Heap = m.Heap
		if !reflect.DeepEqual(r, m) {
			t.Error(k, "something else has changed")
		}
	}
}

func TestOrdinaryFirstField(t *testing.T) { // P51.1
	m := chain(t, "A", weak, "A")
	m.Heap[0].Values[0] = v(0)
	if l := gc.ToClear(m, false); len(l) != 0 {
		t.Error("object 1 is no reference object", l)
	}
	if r, l, e := gc.Collect(m, false); e != api.OK || !slices.Equal(l, []int{2, 3}) || !heap.Valid(r) {
		t.Error(l, e)
	}
}
