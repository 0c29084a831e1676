package classverify

import (
	"armature/api"
	"armature/asm"
	"armature/classmodel"
	"strings"
	"testing"
)

func classes() []api.ClassInfo {
	return []api.ClassInfo{{Name: "lang/Object"}, {Name: "lang/String", Super: "lang/Object"}, {Name: "lang/Throwable", Super: "lang/Object"}, {Name: "I", Super: "lang/Object", IsInterface: true}, {Name: "J", Super: "lang/Object", IsInterface: true}, {Name: "P", Super: "lang/Object"}, {Name: "A", Super: "P", Interfaces: []string{"J", "I", "J"}}}
}

func class(t *testing.T, methods string) api.ClassModel {
	t.Helper()
	u, at, e := asm.Assemble(strings.Split("class 1 A extends P\nimplements I\nimplements J\n"+methods+"\nend", "\n"))
	if e != api.OK {
		t.Fatal(at, e)
	}
	return u
}

const (
	good = "method 9 f (I)I\ncode 1 1\niload 0\nireturn\nend\n"
	loop = "method 9 g (I)V\ncode 1 1\niload 0\nifeq 4\niinc 0 -1\ngoto 0\nreturn\nend\n"
	bad  = "method 9 h (I)I\ncode 1 1\naload 0\nireturn\nend\n"
	none = "method 257 n ()V\nend\n"
)

func TestVerify(t *testing.T) { // P24.1
	if i, at, e := Verify(classes(), class(t, good+none+loop)); i != 0 || at != 0 || e != api.OK {
		t.Error(i, at, e)
	}
	if i, at, e := VerifyWithMaps(classes(), class(t, good+none+loop)); i != 2 || at != 1 || e != api.ErrStackMap {
		t.Error(i, at, e)
	}
	for _, f := range []func([]api.ClassInfo, api.ClassModel) (int, int, api.Errno){Verify, VerifyWithMaps} {
		if i, at, e := f(classes(), class(t, bad)); i != 0 || at != 0 || e != api.ErrBadLocal {
			t.Error(i, at, e)
		}
		if i, at, e := f(classes(), class(t, none+strings.Replace(bad, "aload 0", "nop\naload 0", 1))); i != 1 || at != 1 || e != api.ErrBadLocal {
			t.Error(i, at, e)
		}
		change := func(g func([]api.ClassInfo)) []api.ClassInfo {
			l := classes()
			g(l)
			return l
		}
		for k, x := range []struct {
			l []api.ClassInfo
			u api.ClassModel
			e api.Errno
		}{
			{nil, api.ClassModel{}, api.ErrBadDescriptor}, {change(func(l []api.ClassInfo) { l[0].Name = "" }), class(t, good), api.ErrBadName}, {nil, class(t, good), api.ErrNoClass}, {change(func(l []api.ClassInfo) { l[6].Super = "lang/Object" }), class(t, good), api.ErrNoClass}, {change(func(l []api.ClassInfo) { l[6].Interfaces = []string{"I"} }), class(t, good), api.ErrNoClass}, {change(func(l []api.ClassInfo) {
				l[6] = api.ClassInfo{Name: "A", Super: "lang/Object", IsInterface: true, Interfaces: l[6].Interfaces}
			}), class(t, good), api.ErrNoClass},
		} {
			if i, at, e := f(x.l, x.u); i != -1 || at != 0 || e != x.e {
				t.Error(k, i, at, e)
			}
		}
	}
}

func TestAddMaps(t *testing.T) { // P24.2, P24.4
	u := class(t, good+none+loop)
	v, which, e := AddMaps(classes(), u)
	if which != 0 || e != api.OK || len(v.Methods[2].Code.StackMaps) != 2 || len(v.Methods[0].Code.StackMaps) != 0 || len(u.Methods[2].Code.StackMaps) != 0 {
		t.Fatal(v, which, e)
	}
	for _, f := range []func([]api.ClassInfo, api.ClassModel) (int, int, api.Errno){Verify, VerifyWithMaps} {
		if i, at, e := f(classes(), v); i != 0 || at != 0 || e != api.OK {
			t.Error(i, at, e)
		}
	}
	v.Methods[2].Code.StackMaps = nil
	if !classmodel.Equal(u, v) {
		t.Error(v)
	}
	if v, which, e := AddMaps(classes(), class(t, good+none+bad)); which != 2 || e != api.ErrBadLocal || !classmodel.Equal(v, api.ClassModel{}) {
		t.Error(v, which, e)
	}
	if _, which, e := AddMaps(nil, u); which != -1 || e != api.ErrNoClass {
		t.Error(which, e)
	}
}

func TestAddMapsWithoutRoom(t *testing.T) { // P24.2
	u := class(t, "method 9 g (I[[I)V\ncode 2 2\niload 0\nifeq 2\nreturn\nend\n")
	for i := 0; ; i++ {
		if i%300 == 0 {
			u.Methods = append(u.Methods, api.Method{Flags: api.Static, Name: "g", Desc: "(" + strings.Repeat("I", i/300) + ")V", HasCode: true, Code: api.Code{Stack: 1, Locals: 9, Insns: []api.Insn{{Op: api.Return}}}})
		}
		c := &u.Methods[len(u.Methods)-1].Code
		c.Insns = append([]api.Insn{{Op: api.Ldc, B: api.TagInt, A: i}, {Op: api.Pop}}, c.Insns...)
		f, e := classmodel.ToFile(u)
		if e != api.OK {
			t.Fatal(e)
		}
		if len(f.Pool) == api.MaxPool {
			break
		}
	}
	if _, _, e := Verify(classes(), u); e != api.OK {
		t.Fatal(e)
	}
	if v, which, e := AddMaps(classes(), u); which != -1 || e != api.ErrTooMany || !classmodel.Equal(v, api.ClassModel{}) {
		t.Error(which, e)
	}
}

func TestFrameAt(t *testing.T) { // P24.3
	u := class(t, good+none+loop+bad)
	if f, ok := FrameAt(classes(), u, 0, 1); !ok || len(f.Stack) != 1 || f.Stack[0].Kind != api.VInt || f.Locals[0].Kind != api.VInt {
		t.Error(f, ok)
	}
	for _, x := range [][2]int{{0, 2}, {0, -1}, {1, 0}, {3, 0}, {9, 0}, {-1, 0}} {
		if f, ok := FrameAt(classes(), u, x[0], x[1]); ok || f.Locals != nil || f.Stack != nil {
			t.Error(x, f, ok)
		}
	}
}
