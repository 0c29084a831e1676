package classmodel

import (
	"armature/api"
	"armature/file"
	"armature/format"
	"reflect"
	"strings"
	"testing"
)

func class(s string) api.Type { return api.Type{Base: 'L', Name: s} }

func ref(c, n, d string) api.Ref { return api.Ref{Class: c, Name: n, Desc: d} }

// instructions has an instruction of every operand kind and every kind of constant.
func instructions() []api.Insn {
	return []api.Insn{
		{Op: api.New, Ref: api.Ref{Class: "p/A"}}, {Op: api.ILoad, A: 1}, {Op: api.IInc, A: 1, B: -3}, {Op: api.Push, A: -7},
		{Op: api.Ldc, A: 1 << 30, B: api.TagInt}, {Op: api.Ldc, A: -1 << 63, B: api.TagLong}, {Op: api.Ldc, B: api.TagString, S: "x\x00\xff"}, {Op: api.Ldc, B: api.TagString},
		{Op: api.GetStatic, Ref: ref("B", "s", "I")}, {Op: api.PutField, Ref: ref("B", "f", "[J")}, {Op: api.InvokeVirtual, Ref: ref("B", "m", "(I)V")}, {Op: api.InvokeSpecial, Ref: ref("B", "<init>", "()V")}, {Op: api.InvokeSpecial, B: 1, Ref: ref("I", "m", "()V")}, {Op: api.InvokeStatic, B: 1, Ref: ref("I", "m", "()V")}, {Op: api.InvokeStatic, Ref: ref("I", "m", "()V")}, {Op: api.InvokeInterface, Ref: ref("I", "m", "()V")},
		{Op: api.NewArray, S: "[I"}, {Op: api.CheckCast, Ref: api.Ref{Class: "[LB;"}}, {Op: api.InstanceOf, Ref: api.Ref{Class: "B"}},
		{Op: api.IfEq, To: 21}, {Op: api.TableSwitch, A: 5, To: 21, Tos: []int{0, 1}}, {Op: api.LookupSwitch, To: 3, Keys: []int{-1, 4}, Tos: []int{0, 2}}, {Op: api.Return},
	}
}

func sample() api.ClassModel {
	code := api.Code{Stack: 4, Locals: 2, Insns: instructions(),
		Handlers:  []api.Handler{{From: 0, To: 23, Target: 4, Type: "E"}, {From: 2, To: 3, Target: 0}},
		StackMaps: []api.StackMap{{Index: 2, Frame: api.Frame{Uninit: true, Locals: []api.VType{{Kind: api.VUninitializedThis, Type: class("p/A")}, {}}, Stack: []api.VType{{Kind: api.VUninitialized, Type: class("p/A")}, {Kind: api.VRef, Type: api.Type{Dim: 2, Base: 'I'}}, {Kind: api.VNull}}}}, {Index: 4}},
		Lines:     []api.LineEntry{{Index: 0, Line: 3}},
	}
	return api.ClassModel{Flags: api.Public | api.Abstract, Name: "p/A", Super: "B", Interfaces: []string{"I", "J"}, Source: "A.src",
		Fields:  []api.Field{{Flags: api.Private, Name: "f", Desc: "J"}, {Flags: api.Static, Name: "i", Desc: "I", Const: api.TagInt, N: -5}, {Flags: api.Static, Name: "j", Desc: "J", Const: api.TagLong, N: 1 << 40}, {Flags: api.Static, Name: "s", Desc: "Llang/String;", Const: api.TagString, S: "t"}, {Flags: api.Static, Name: "e", Desc: "Llang/String;", Const: api.TagString}},
		Methods: []api.Method{{Flags: api.Public, Name: "<init>", Desc: "(I)V", HasCode: true, Code: code, Exceptions: []string{"E", "p/F"}}, {Flags: api.Abstract, Name: "g", Desc: "()V"}}}
}

func TestExample(t *testing.T) { // P13.4
	f, e := ToFile(api.ClassModel{Name: "A", Super: "lang/Object"})
	if e != api.OK || f.This != 2 || f.Super != 4 || !reflect.DeepEqual(f.Pool, []api.Const{{Tag: 1, S: "A"}, {Tag: 7, A: 1}, {Tag: 1, S: "lang/Object"}, {Tag: 7, A: 3}}) {
		t.Error(f, e)
	}
}

func TestInstructions(t *testing.T) { // P13.1, P13.2, P13.6
	p := []api.Const{{Tag: 1, S: "first"}}
	for _, i := range instructions() {
		q, r, e := ToRaw(p, i)
		if e != api.OK {
			t.Fatal(i, e)
		}
		q = append(q, api.Const{Tag: 5, N: 77})
		if s, e := ToSymbolic(q, r); e != api.OK || !equalInsns(s, i) {
			t.Error(i, s, e)
		}
	}
	if q, r, e := ToRaw(nil, api.Insn{Op: api.Ldc, A: 5, B: 3}); e != api.OK || r.A != 1 || r.B != 0 || q[0] != (api.Const{Tag: 3, N: 5}) {
		t.Error(q, r, e)
	}
	if q, r, e := ToRaw(nil, api.Insn{Op: api.InvokeInterface, Ref: ref("I", "m", "()V")}); e != api.OK || q[r.A-1].Tag != api.TagInterfaceMethod {
		t.Error(q, r, e)
	}
}

func TestToRawErrors(t *testing.T) { // P13.2
	full := make([]api.Const, 1000)
	for k, x := range []struct {
		p []api.Const
		i api.Insn
		e api.Errno
	}{
		{nil, api.Insn{Op: -1, A: 3}, api.ErrBadOpcode}, {nil, api.Insn{Op: api.NumOps}, api.ErrBadOpcode}, {nil, api.Insn{Op: api.Push, A: 200}, api.ErrTooLarge}, {nil, api.Insn{Op: api.Nop, S: "x"}, api.ErrMalformed},
		{nil, api.Insn{Op: api.Ldc, B: 3, S: "x"}, api.ErrMalformed}, {nil, api.Insn{Op: api.Ldc, B: 8, A: 1}, api.ErrMalformed}, {nil, api.Insn{Op: api.Ldc, B: 3, Ref: ref("", "x", "")}, api.ErrMalformed}, {nil, api.Insn{Op: api.Ldc, B: 3, To: 1}, api.ErrMalformed}, {nil, api.Insn{Op: api.Ldc, B: 3, Keys: []int{1}}, api.ErrMalformed}, {nil, api.Insn{Op: api.Ldc, B: 99, Tos: []int{1}}, api.ErrMalformed},
		{nil, api.Insn{Op: api.Ldc, B: 99}, api.ErrConstantTag}, {nil, api.Insn{Op: api.Ldc, A: 1}, api.ErrConstantTag}, {nil, api.Insn{Op: api.Ldc, B: 1, S: "x"}, api.ErrMalformed},
		{nil, api.Insn{Op: api.GetField, B: 1}, api.ErrMalformed}, {nil, api.Insn{Op: api.GetField, A: 1}, api.ErrMalformed}, {nil, api.Insn{Op: api.InvokeVirtual, B: 1}, api.ErrMalformed}, {nil, api.Insn{Op: api.InvokeInterface, B: 1}, api.ErrMalformed}, {nil, api.Insn{Op: api.InvokeStatic, B: 2}, api.ErrMalformed}, {nil, api.Insn{Op: api.InvokeSpecial, B: -1}, api.ErrMalformed}, {nil, api.Insn{Op: api.InvokeSpecial, B: 1, S: "x"}, api.ErrMalformed},
		{nil, api.Insn{Op: api.New, Ref: ref("A", "x", "")}, api.ErrMalformed}, {nil, api.Insn{Op: api.CheckCast, Ref: ref("A", "", "x")}, api.ErrMalformed}, {nil, api.Insn{Op: api.NewArray, S: "I", Ref: ref("A", "", "")}, api.ErrMalformed}, {nil, api.Insn{Op: api.NewArray, S: "I", A: 1}, api.ErrMalformed},
		{full, api.Insn{Op: api.NewArray, S: "I"}, api.ErrTooMany}, {full[:999], api.Insn{Op: api.New, Ref: ref("A", "", "")}, api.ErrTooMany}, {full[:998], api.Insn{Op: api.GetField, Ref: ref("A", "", "")}, api.ErrTooMany},
	} {
		p, r, e := ToRaw(x.p, x.i)
		if e != x.e || !equalInsns(r, api.Insn{}) || !reflect.DeepEqual(p, x.p) {
			t.Errorf("case %d: %d, want %d", k, e, x.e)
		}
	}
}

func TestToSymbolicErrors(t *testing.T) { // P13.1
	p := []api.Const{{Tag: 8, A: 9}, {Tag: 7, A: 1}, {Tag: 9, A: 9, B: 9}, {Tag: 3}}
	for k, x := range []struct {
		i api.Insn
		e api.Errno
	}{{api.Insn{Op: -1}, api.ErrBadOpcode}, {api.Insn{Op: api.Ldc, A: 1, B: 3}, api.ErrMalformed}, {api.Insn{Op: api.Ldc, A: 5}, api.ErrRange}, {api.Insn{Op: api.Ldc, A: 2}, api.ErrConstantTag}, {api.Insn{Op: api.New, A: 4}, api.ErrConstantTag}, {api.Insn{Op: api.Ldc, A: 1}, api.ErrRange}, {api.Insn{Op: api.New, A: 2}, api.ErrConstantTag}, {api.Insn{Op: api.GetField, A: 3}, api.ErrRange}} {
		if s, e := ToSymbolic(p, x.i); e != x.e || !equalInsns(s, api.Insn{}) {
			t.Errorf("case %d: %v %d, want %d", k, s, e, x.e)
		}
	}
}

func TestRoundTrip(t *testing.T) { // P13.3, P13.4, P13.6
	for _, u := range []api.ClassModel{sample(), {Name: "lang/Object"}, {Name: "A", Super: "B", Flags: api.Final}} {
		f, e := ToFile(u)
		if e != api.OK || Check(u) != api.OK {
			t.Fatal(e)
		}
		if s, e := format.Check(f); e != api.OK {
			t.Error(s, e)
		}
		s, e := file.Encode(f)
		if e != api.OK {
			t.Error(e)
		}
		g, e := file.Decode(s)
		if e != api.OK {
			t.Error(e)
		}
		v, e := FromFile(g)
		if e != api.OK || !Equal(u, v) {
			t.Errorf("%+v\n%+v %d", u, v, e)
		}
	}
	if u, e := FromFile(api.File{}); e != api.ErrRange || !Equal(u, api.ClassModel{}) {
		t.Error(u, e)
	}
}

func TestToFileErrors(t *testing.T) { // P13.4
	code := func(u *api.ClassModel) *api.Code { return &u.Methods[0].Code }
	for k, x := range []struct {
		f func(*api.ClassModel)
		e api.Errno
	}{
		{func(u *api.ClassModel) { code(u).Handlers[0].Class = 1; code(u).Insns[0].Op = -1 }, api.ErrMalformed},
		{func(u *api.ClassModel) { code(u).StackMaps[0].Frame.Stack[2].PoolIndex = 1 }, api.ErrMalformed},
		{func(u *api.ClassModel) { u.Fields[0].Const = 7 }, api.ErrMalformed}, {func(u *api.ClassModel) { u.Fields[0].N = 7 }, api.ErrMalformed}, {func(u *api.ClassModel) { u.Fields[0].S = "x" }, api.ErrMalformed}, {func(u *api.ClassModel) { u.Fields[1].S = "x" }, api.ErrMalformed}, {func(u *api.ClassModel) { u.Fields[3].N = 1 }, api.ErrMalformed},
		{func(u *api.ClassModel) { u.Methods[1].Code.Stack = 1 }, api.ErrMalformed}, {func(u *api.ClassModel) { u.Methods[1].Code.Lines = make([]api.LineEntry, 1) }, api.ErrMalformed}, {func(u *api.ClassModel) { u.Methods[1].Code.Insns = []api.Insn{} }, api.OK},
		{func(u *api.ClassModel) { code(u).Insns[1].A = 99; u.Name = "" }, api.ErrBadLocal}, {func(u *api.ClassModel) { code(u).StackMaps[0].Frame.Locals[0].Type.Name = ""; u.Name = "" }, api.ErrBadDescriptor},
		{func(u *api.ClassModel) { u.Name = "" }, api.ErrBadDescriptor}, {func(u *api.ClassModel) { u.Name = "[I" }, api.ErrConstantTag}, {func(u *api.ClassModel) { code(u).Locals = 1 }, api.ErrBadLocal}, {func(u *api.ClassModel) { code(u).StackMaps[0].Frame.Locals[1].Type = class("A") }, api.ErrStackMap}, {func(u *api.ClassModel) { code(u).Insns = nil; u.Flags = -1 }, api.ErrTooMany},
		{func(u *api.ClassModel) {
			u.Methods[1].Exceptions = strings.Split("ABCDEFGHIJKLMNOPQ", "")
			u.Flags = -1
		}, api.ErrTooMany}, {func(u *api.ClassModel) { u.Flags = -1 }, api.ErrBadFlags}, {func(u *api.ClassModel) { u.Super = "" }, api.ErrBadSuper}, {func(u *api.ClassModel) { u.Methods[1].HasCode = true }, api.ErrTooMany}, {func(u *api.ClassModel) { u.Source = strings.Repeat("x", 1025) }, api.ErrTooLarge}, {func(u *api.ClassModel) { u.Interfaces[1] = "I" }, api.ErrDuplicate},
	} {
		u := sample()
		x.f(&u)
		f, e := ToFile(u)
		if e != x.e || Check(u) != x.e || e != api.OK && !reflect.DeepEqual(f, api.File{}) {
			t.Errorf("case %d: %d, want %d", k, e, x.e)
		}
	}
	u := sample()
	for i := range 1000 {
		u.Methods[0].Code.Insns = append(u.Methods[0].Code.Insns, api.Insn{Op: api.Ldc, B: api.TagInt, A: 1000 + i})
	}
	if e := Check(u); e != api.ErrTooMany {
		t.Error(e)
	}
}

func TestFindAndEqual(t *testing.T) { // P13.5
	u := sample()
	u.Methods = append(u.Methods, u.Methods[1])
	if i, ok := FindMethod(u, "g", "()V"); i != 1 || !ok {
		t.Error(i, ok)
	}
	if i, ok := FindMethod(u, "g", "(I)V"); i != 0 || ok {
		t.Error(i, ok)
	}
	if i, ok := FindField(u, "s", "Llang/String;"); i != 3 || !ok {
		t.Error(i, ok)
	}
	if i, ok := FindField(u, "s", "I"); i != 0 || ok {
		t.Error(i, ok)
	}
	for k, f := range []func(*api.ClassModel){
		func(u *api.ClassModel) { u.Flags++ }, func(u *api.ClassModel) { u.Super = "" }, func(u *api.ClassModel) { u.Source = "" }, func(u *api.ClassModel) { u.Interfaces = u.Interfaces[:1] }, func(u *api.ClassModel) { u.Fields[2].N++ }, func(u *api.ClassModel) { u.Methods[1].HasCode = true }, func(u *api.ClassModel) { u.Methods[0].Exceptions = nil },
		func(u *api.ClassModel) { u.Methods[0].Code.Lines = nil }, func(u *api.ClassModel) { u.Methods[0].Code.Insns[20].Tos[1]++ }, func(u *api.ClassModel) { u.Methods[0].Code.Insns[21].Keys[1]++ }, func(u *api.ClassModel) { u.Methods[0].Code.StackMaps[0].Frame.Uninit = false }, func(u *api.ClassModel) { u.Methods[0].Code.StackMaps[0].Frame.Stack[0].NewIndex++ }, func(u *api.ClassModel) { u.Methods[0].Code.Handlers[0].To-- },
	} {
		u := sample()
		f(&u)
		if Equal(u, sample()) || !Equal(u, u) {
			t.Error(k)
		}
	}
	if !Equal(api.ClassModel{Interfaces: []string{}, Fields: []api.Field{}}, api.ClassModel{Methods: []api.Method{}}) {
		t.Error("empty lists")
	}
}
