package dis

import (
	"armature/api"
	"slices"
	"strings"
	"testing"
)

func class(s string) api.Type { return api.Type{Base: 'L', Name: s} }

func sample() api.ClassModel {
	code := api.Code{Stack: 4, Locals: 2,
		Insns:     []api.Insn{{Op: api.New, Ref: api.Ref{Class: "p/A"}}, {Op: api.Pop}, {Op: api.TableSwitch, A: 3, To: 4, Tos: []int{0, 1}}, {Op: api.LookupSwitch, To: 4, Keys: []int{-1, 7}, Tos: []int{0, 1}}, {Op: api.Return}},
		Handlers:  []api.Handler{{From: 0, To: 5, Target: 4, Type: "E"}, {From: 2, To: 3, Target: 0}},
		StackMaps: []api.StackMap{{Index: 1, Frame: api.Frame{Uninit: true, Locals: []api.VType{{Kind: api.VUninitializedThis, Type: class("p/A")}, {}}, Stack: []api.VType{{Kind: api.VUninitialized, Type: class("p/A")}, {Kind: api.VRef, Type: api.Type{Dim: 2, Base: 'I'}}, {Kind: api.VNull}, {Kind: api.VLong}}}}, {Index: 4, Frame: api.Frame{Locals: []api.VType{{Kind: api.VInt}}}}},
		Lines:     []api.LineEntry{{Index: 0, Line: 3}, {Index: 4, Line: 9}},
	}
	return api.ClassModel{Flags: 1025, Name: "p/A", Super: "B", Interfaces: []string{"I", "J"}, Source: "A \"src\"",
		Fields:  []api.Field{{Flags: 2, Name: "f", Desc: "J"}, {Flags: 8, Name: "i", Desc: "I", Const: api.TagInt, N: -5}, {Flags: 8, Name: "j", Desc: "J", Const: api.TagLong, N: 1 << 40}, {Flags: 8, Name: "s", Desc: "Llang/String;", Const: api.TagString, S: "t\n"}},
		Methods: []api.Method{{Flags: 1, Name: "<init>", Desc: "(I)V", HasCode: true, Code: code, Exceptions: []string{"E", "p/F"}}, {Flags: 1024, Name: "g", Desc: "()V"}}}
}

func TestDisassemble(t *testing.T) { // P14.1, P14.4
	want := `class 1025 p/A extends B
implements I
implements J
source "A \22src\22"
field 2 f J
field 8 i I = int -5
field 8 j J = long 1099511627776
field 8 s Llang/String; = string "t\0a"
method 1 <init> (I)V
throws E
throws p/F
code 4 2
line 3
label 0
new p/A
label 1
map raw locals this Lp/A; top stack new 0 Lp/A; [[I null long
pop
label 2
tableswitch 3 0 1 else 4
label 3
lookupswitch -1 0 7 1 else 4
line 9
label 4
map locals int stack
return
label 5
catch 0 5 4 E
catch 2 3 0 *
end
method 1024 g ()V
end
end`
	l, e := Disassemble(sample())
	if e != api.OK || strings.Join(l, "\n") != want {
		t.Errorf("%s\n%d", strings.Join(l, "\n"), e)
	}
	if l, e := Disassemble(api.ClassModel{Name: "lang/Object"}); e != api.OK || !slices.Equal(l, []string{"class 0 lang/Object extends -", "end"}) {
		t.Error(l, e)
	}
	if l, e := Disassemble(api.ClassModel{}); l != nil || e != api.ErrBadDescriptor {
		t.Error(l, e)
	}
}

func TestFormatInstruction(t *testing.T) { // P14.2
	r := api.Ref{Class: "p/A", Name: "x", Desc: "I"}
	for want, i := range map[string]api.Insn{
		"nop": {A: 5, S: "x"}, "push 300": {Op: api.Push, A: 300}, "iload -1": {Op: api.ILoad, A: -1}, "iinc 1 -2": {Op: api.IInc, A: 1, B: -2}, "goto 7": {Op: api.Goto, To: 7, A: 3},
		"ldc int 5": {Op: api.Ldc, A: 5, B: 3}, "ldc long -5": {Op: api.Ldc, A: -5, B: 5}, `ldc string "a\22b"`: {Op: api.Ldc, S: "a\"b", B: 8}, "getstatic p/A x I": {Op: api.GetStatic, Ref: r, B: 1}, "invokestatic p/A x I iface": {Op: api.InvokeStatic, Ref: r, B: 1}, "invokevirtual p/A x I": {Op: api.InvokeVirtual, Ref: r, B: 2}, "invokevirtual p/A x I iface": {Op: api.InvokeVirtual, Ref: r, B: 1},
		"new p/A": {Op: api.New, Ref: r}, "newarray [I": {Op: api.NewArray, S: "[I"}, "instanceof p/A": {Op: api.InstanceOf, Ref: r}, "tableswitch 3 5 7 else 9": {Op: api.TableSwitch, A: 3, Tos: []int{5, 7}, To: 9}, "lookupswitch 1 2 else 0": {Op: api.LookupSwitch, Keys: []int{1, 3}, Tos: []int{2}}, "lookupswitch else 4": {Op: api.LookupSwitch, Tos: []int{2}, To: 4},
	} {
		if s := FormatInstruction(i); s != want {
			t.Errorf("%q, want %q", s, want)
		}
	}
	for _, i := range []api.Insn{{Op: -1}, {Op: api.NumOps}, {Op: api.Ldc, B: 7}, {Op: api.Ldc}} {
		if s := FormatInstruction(i); s != "" {
			t.Error(i, s)
		}
	}
}

func TestQuote(t *testing.T) { // P14.3, P14.4
	seen := map[string]string{}
	for c := range 256 {
		s := string([]byte{byte(c)})
		q := Quote(s)
		if other, ok := seen[q]; ok {
			t.Error(s, other)
		}
		seen[q] = s
		plain := c >= 32 && c <= 126 && c != '"' && c != '\\'
		if plain != (len(q) == 3) || !plain && (len(q) != 5 || q[1] != '\\') {
			t.Errorf("%q", q)
		}
	}
	if Quote("") != `""` || Quote("a\\\x00\xff\"~\x7f") != `"a\5c\00\ff\22~\7f"` {
		t.Error(Quote("a\\\x00\xff\"~\x7f"))
	}
}

func TestDifferentClassesHaveDifferentLines(t *testing.T) { // P14.4
	base, _ := Disassemble(sample())
	for k, f := range []func(*api.ClassModel){
		func(u *api.ClassModel) { u.Flags = 1024 }, func(u *api.ClassModel) { u.Source = "" }, func(u *api.ClassModel) { u.Methods[0].Code.Lines = nil }, func(u *api.ClassModel) { u.Methods[0].Code.StackMaps[0].Frame.Uninit = false }, func(u *api.ClassModel) { u.Methods[0].Code.Handlers = u.Methods[0].Code.Handlers[:1] }, func(u *api.ClassModel) { u.Fields[1].Const, u.Fields[1].N = 0, 0 }, func(u *api.ClassModel) { u.Methods[0].Code.Insns[3].Keys[0] = -2 }, func(u *api.ClassModel) { u.Methods[0].Exceptions = nil }, func(u *api.ClassModel) { u.Methods[0].Code.StackMaps = u.Methods[0].Code.StackMaps[:1] },
	} {
		u := sample()
		f(&u)
		l, e := Disassemble(u)
		if e != api.OK || slices.Equal(l, base) {
			t.Error(k, e)
		}
	}
	for _, line := range base {
		if strings.TrimSpace(line) != line || strings.ContainsFunc(line, func(r rune) bool { return r < 32 || r > 126 }) || !strings.Contains(line, `"`) && strings.Contains(line, "  ") {
			t.Errorf("%q", line)
		}
	}
}
