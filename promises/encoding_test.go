package promises

import (
	"armature/api"
	"armature/asm"
	"armature/attr"
	"armature/builtin"
	"armature/classmodel"
	"armature/classverify"
	"armature/codegen"
	"armature/dataflow"
	"armature/dis"
	"armature/file"
	"armature/insn"
	"armature/link"
	"armature/load"
	"armature/loaderview"
	"armature/mapcheck"
	"armature/poolcode"
	"armature/stackmap"
	"math/rand"
	"reflect"
	"slices"
	"testing"
)

func models(t *testing.T, s string) []api.ClassModel {
	t.Helper()
	l, e := codegen.Compile(source(t, s))
	if e != api.OK {
		t.Fatal(e)
	}
	return l
}

func TestEncodings(t *testing.T) { // P1
	for _, u := range builtin.Classes() {
		checkEncodings(t, u)
	}
	for _, s := range corpus(20) {
		for _, u := range models(t, s) {
			checkEncodings(t, u)
		}
	}
}

func checkEncodings(t *testing.T, u api.ClassModel) {
	t.Helper()
	f, e := classmodel.ToFile(u)
	if e != api.OK {
		t.Fatal(e)
	}
	bytes, e := file.Encode(f)
	g, e2 := file.Decode(bytes)
	if e != api.OK || e2 != api.OK || !reflect.DeepEqual(f, g) {
		t.Error(u.Name, "file", e, e2)
	}
	if again, e := file.Encode(g); again != bytes || e != api.OK {
		t.Error(u.Name, "bytes", e)
	}
	if v, e := classmodel.FromFile(g); e != api.OK || !classmodel.Equal(u, v) {
		t.Error(u.Name, "model", e)
	}
	p, e := poolcode.Encode(f.Pool)
	if q, _, e2 := poolcode.Decode(p, 0); e != api.OK || e2 != api.OK || !slices.Equal(q, f.Pool) {
		t.Error(u.Name, "pool", e, e2)
	}
	for _, m := range f.Methods {
		for _, a := range m.Attributes {
			if c, e := attr.DecodeCode(f.Pool, a.Bytes); e == api.OK {
				s, e := insn.Encode(c.Insns)
				l, e2 := insn.Decode(s)
				if e != api.OK || e2 != api.OK || !reflect.DeepEqual(l, c.Insns) {
					t.Error(u.Name, "instructions", e, e2)
				}
				if s, e := attr.EncodeCode(f.Pool, c); s != a.Bytes || e != api.OK {
					t.Error(u.Name, "code", e)
				}
			}
		}
	}
	lines, e := dis.Disassemble(u)
	if v, at, e2 := asm.Assemble(lines); e != api.OK || e2 != api.OK || !classmodel.Equal(u, v) {
		t.Error(u.Name, "listing", at, e, e2)
	}
}

// hierarchies calls f with each class of a program and the hierarchy that its loader sees.
func hierarchies(t *testing.T, s string, f func(l []api.ClassInfo, u api.ClassModel)) {
	t.Helper()
	m := started(t, source(t, s))
	w := m.Space
	for _, u := range models(t, s) {
		w, c, e := load.Load(w, 0, u.Name)
		if e != api.OK {
			t.Fatal(e)
		}
		_, l, e := loaderview.ForClass(w, c)
		if e != api.OK {
			t.Fatal(e)
		}
		f(l, u)
	}
}

func TestVerification(t *testing.T) { // P2
	r := rand.New(rand.NewSource(7))
	accepted, rejected := 0, 0
	for _, s := range corpus(12) {
		hierarchies(t, s, func(l []api.ClassInfo, u api.ClassModel) {
			mapped, _, e := classverify.AddMaps(l, u)
			if e != api.OK {
				t.Fatal(u.Name, e)
			}
			if _, _, e := classverify.VerifyWithMaps(l, mapped); e != api.OK {
				t.Fatal(u.Name, e)
			}
			for range 20 {
				v := mutate(r, mapped)
				for i, m := range v.Methods {
					if !m.HasCode {
						continue
					}
					w := api.MethodContext{Classes: l, Model: v, Method: i}
					maps, _, e := dataflow.Infer(w)
					if _, f := mapcheck.CheckMethod(w); f == api.OK && e != api.OK {
						t.Fatal("only with maps", v.Name, m.Name, e)
					}
					if e != api.OK {
						rejected++
						continue
					}
					accepted++
					w.Model, e = stackmap.Attach(v, i, maps)
					if e != api.OK {
						t.Fatal(e)
					}
					if at, e := mapcheck.CheckMethod(w); e != api.OK {
						t.Fatal("only without maps", v.Name, m.Name, at, e)
					}
				}
			}
		})
	}
	if accepted == 0 || rejected == 0 {
		t.Error(accepted, rejected)
	}
}

// mutate changes an instruction, a branch or a stack map of a class.
func mutate(r *rand.Rand, u api.ClassModel) api.ClassModel {
	u.Methods = slices.Clone(u.Methods)
	for i := range u.Methods {
		c := &u.Methods[i].Code
		if len(c.Insns) == 0 {
			continue
		}
		c.Insns, c.StackMaps = slices.Clone(c.Insns), slices.Clone(c.StackMaps)
		a, b := r.Intn(len(c.Insns)), r.Intn(len(c.Insns))
		switch r.Intn(7) {
		case 0:
			c.Insns[a] = c.Insns[b]
		case 1:
			c.Insns[a], c.Insns[b] = c.Insns[b], c.Insns[a]
		case 2:
			c.Insns[a] = api.Insn{Op: []int{api.Nop, api.Pop, api.Dup, api.Swap, api.AConstNull}[r.Intn(5)]}
		case 3:
			if c.Insns[a].Op >= api.IfEq && c.Insns[a].Op <= api.Goto {
				c.Insns[a].To = b
			}
		case 5:
			if k := c.Insns[a].Op; k >= api.ILoad && k <= api.IInc {
				c.Insns[a].A = r.Intn(c.Locals + 1)
			}
		case 6:
			if c.Insns[a].Ref.Name != "" && c.Insns[a].Op == c.Insns[b].Op {
				c.Insns[a].Ref = c.Insns[b].Ref
			} else {
				c.Insns[a].Ref.Class = []string{"A", "B", "I", "lang/Object"}[r.Intn(4)]
			}
		case 4:
			if n := len(c.StackMaps); n > 0 {
				k := r.Intn(n)
				c.StackMaps = slices.Delete(c.StackMaps, k, k+1)
			}
		}
	}
	return u
}

func TestLinkingOrders(t *testing.T) { // P3, P4
	r := rand.New(rand.NewSource(3))
	for _, s := range corpus(6) {
		store, e := codegen.CompileStore(source(t, s))
		if e != api.OK {
			t.Fatal(e)
		}
		// The second loader delegates only a part of the names, so it defines some classes again.
		base, e := builtin.NewClassSpace([]api.Loader{{Store: store}, {Store: store, Delegations: []api.Delegation{{Prefix: "I", To: 0}, {Prefix: "E", To: 0}}}})
		if e != api.OK {
			t.Fatal(e)
		}
		type request struct {
			loader int
			name   string
		}
		var all []request
		for _, c := range store {
			all = append(all, request{0, c.Name}, request{1, c.Name})
		}
		var first map[request][3]int
		for range 6 {
			r.Shuffle(len(all), func(i, j int) { all[i], all[j] = all[j], all[i] })
			w := base
			got := map[request][3]int{}
			for _, q := range all {
				next, c, e := load.Load(w, q.loader, q.name)
				if e != api.OK {
					t.Fatal(e)
				}
				w, _ = link.Link(next, c)
			}
			for _, q := range all {
				_, c, _ := load.Load(w, q.loader, q.name)
				got[q] = [3]int{w.Classes[c].Loader, w.Classes[c].Stage, int(w.Classes[c].Err)}
			}
			if first == nil {
				first = got
			} else if !reflect.DeepEqual(first, got) {
				t.Error(first, got)
			}
		}
	}
}
