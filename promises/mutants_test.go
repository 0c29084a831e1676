package promises

import (
	"armature/api"
	"armature/classmodel"
	"armature/codegen"
	"armature/file"
	"armature/gc"
	"armature/heap"
	"armature/machine"
	"armature/sched"
	"armature/typeaudit"
	"math/rand"
	"slices"
	"testing"
)

// mutant encodes classes of which some have been changed; those that are no longer well-formed stay as they were.
func mutant(r *rand.Rand, models []api.ClassModel) []api.StoredClass {
	var store []api.StoredClass
	for _, u := range models {
		for range 1 + r.Intn(3) {
			if v := mutate(r, u); classmodel.Check(v) == api.OK {
				u = v
			}
		}
		f, _ := classmodel.ToFile(u)
		s, _ := file.Encode(f)
		store = append(store, api.StoredClass{Name: u.Name, Bytes: s})
	}
	return store
}

func TestMutantsAreSafe(t *testing.T) { // P5
	ran := 0
	for k, s := range append(corpus(8), threads) {
		models, e := codegen.Compile(source(t, s))
		if e != api.OK {
			t.Fatal(e)
		}
		for seed := range int64(mutants) {
			r := rand.New(rand.NewSource(seed))
			m, e := machine.New([]api.Loader{{Store: mutant(r, models)}}, 300)
			if e != api.OK {
				t.Fatal(e)
			}
			m, _, e = machine.StartMain(m, 0, "M")
			if e != api.OK {
				continue
			}
			ran++
			for n := 0; n < 1500 && !sched.AllTerminated(m) && !sched.Stalled(m); n++ {
				if r.Intn(100) == 0 {
					m, _, _ = gc.Collect(m, false)
				}
				next, who, e := sched.Step(m, r.Int())
				if e != api.OK {
					if slices.Contains([]api.Errno{api.ErrStackHeight, api.ErrBadLocal, api.ErrTypeMismatch, api.ErrReturnKind, api.ErrBadOpcode}, e) {
						t.Fatal(k, seed, n, who, e)
					}
					break
				}
				m = next
				if n%8 == 0 && !typeaudit.Consistent(m) {
					th, i, e := typeaudit.CheckThreads(m)
					obj, f := typeaudit.CheckObjects(m)
					t.Fatal(k, seed, n, "not consistent", th, i, e, obj, f)
				}
			}
			if !heap.Valid(m) {
				t.Fatal(k, seed, "not valid")
			}
		}
	}
	if ran == 0 {
		t.Error("no mutant could be linked")
	}
}

const mutants = 10
