package asm

import (
	"armature/api"
	"armature/classmodel"
	"armature/dis"
	"reflect"
	"strings"
	"testing"
)

const listing = `class 1025 p/A extends B
implements I
implements J
source "A \22src\22"
field 2 f J
field 8 i I = int -5
field 8 j J = long 1099511627776
field 8 s Llang/String; = string "t\0a"
method 1 <init> (I)V
throws E
throws p/F
code 4 2
line 3
label 0
new p/A
label 1
map raw locals this Lp/A; top stack new 0 Lp/A; [[I null long
pop
ldc int 5
ldc string "a b"
invokestatic I m ()V iface
invokevirtual B m ()V
newarray [I
label 7
tableswitch 3 0 1 else 4
lookupswitch -1 0 7 1 else 4
lookupswitch else 4
iinc 1 -5
line 9
map locals int stack
return
label 12
catch 0 12 4 E
catch 2 3 0 *
end
method 1024 g ()V
end
end`

func TestRoundTrip(t *testing.T) { // P15.3, P15.4, P15.5
	lines := strings.Split(listing, "\n")
	u, at, e := Assemble(lines)
	if at != 0 || e != api.OK {
		t.Fatal(at, e)
	}
	m := u.Methods[0]
	if u.Name != "p/A" || u.Super != "B" || u.Source != `A "src"` || u.Fields[3].S != "t\n" || len(m.Code.Insns) != 12 || m.Code.Handlers[1].Type != "" || m.Code.StackMaps[1].Index != 11 || m.Code.Lines[1] != (api.LineEntry{Index: 11, Line: 9}) || !m.Code.StackMaps[0].Frame.Uninit || m.Code.Insns[4].B != 1 {
		t.Errorf("%+v", u)
	}
	l, e := dis.Disassemble(u)
	if e != api.OK {
		t.Fatal(e)
	}
	v, at, e := Assemble(l)
	if at != 0 || e != api.OK || !classmodel.Equal(u, v) {
		t.Errorf("%+v %d %d", v, at, e)
	}
	for _, i := range m.Code.Insns {
		if r, e := ParseInstruction(dis.FormatInstruction(i)); e != api.OK || !reflect.DeepEqual(r, i) {
			t.Error(i, r, e)
		}
	}
}

func TestBlanksAndComments(t *testing.T) { // P15.6
	u, _, _ := Assemble(strings.Split(listing, "\n"))
	var lines []string
	for _, s := range strings.Split(listing, "\n") {
		if !strings.Contains(s, `"`) {
			s = strings.ReplaceAll(s, " ", " \t ")
		}
		lines = append(lines, "# comment", "", " \t", "\t "+s+" \t", " \t# class \"")
	}
	if v, at, e := Assemble(lines); at != 0 || e != api.OK || !classmodel.Equal(u, v) {
		t.Error(at, e)
	}
	lines[8] = "x"
	if _, at, e := Assemble(lines); at != 9 || e != api.ErrMalformed {
		t.Error(at, e)
	}
}

func TestAssembleErrors(t *testing.T) { // P15.3
	head := "class 1 A extends lang/Object\n"
	for k, x := range []struct {
		s  string
		at int
		e  api.Errno
	}{
		{"class 1 A extends lang/Object", 2, api.ErrTruncated}, {head + "end", 0, api.OK}, {head + "end\nx", 3, api.ErrTrailing}, {head + "end\n#x\n\"", 4, api.ErrTrailing}, {head + "end\n # x\n\t", 0, api.OK}, {"end", 1, api.ErrMalformed}, {"", 2, api.ErrTruncated}, {"#\n#", 3, api.ErrTruncated},
		{"class 01 A extends B\nend", 1, api.ErrMalformed}, {"class +1 A extends B\nend", 1, api.ErrMalformed}, {"class -0 A extends B\nend", 1, api.ErrMalformed}, {"class 1 A B\nend", 1, api.ErrMalformed}, {"class 1 A extends\nend", 1, api.ErrMalformed}, {"class 1 A extends B C\nend", 1, api.ErrMalformed}, {"class 9223372036854775808 A extends B\nend", 1, api.ErrMalformed}, {"class -9223372036854775808 A extends B\nend", 0, api.ErrBadFlags}, {"class 1 A extends -\nend", 0, api.ErrBadSuper}, {"class 1 \"A\" extends B\nend", 0, api.ErrBadDescriptor},
		{head + "end x", 2, api.ErrMalformed}, {head + "source \"a\"\nimplements I\nend", 3, api.ErrMalformed}, {head + "source \"a\"\nsource \"a\"\nend", 3, api.ErrMalformed}, {head + "source a\nend", 2, api.ErrMalformed}, {head + "source \"a\nend", 2, api.ErrMalformed}, {head + "source \"a\"b\nend", 2, api.ErrMalformed}, {head + "implements\nend", 2, api.ErrMalformed}, {head + "implements I J\nend", 2, api.ErrMalformed},
		{head + "field 1 x\nend", 2, api.ErrMalformed}, {head + "field 1 x I =\nend", 2, api.ErrMalformed}, {head + "field 1 x I = int\nend", 2, api.ErrMalformed}, {head + "field 1 x I = I 5\nend", 2, api.ErrMalformed}, {head + "field 1 x I = string 5\nend", 2, api.ErrMalformed}, {head + "field 1 x I int 5\nend", 2, api.ErrMalformed}, {head + "method 1 f ()V\nend\nfield 1 x I\nend", 4, api.ErrMalformed}, {head + "field 1 x I\nfield 1 x I\nend", 0, api.ErrDuplicate},
		{head + "method 1024 f ()V\ncatch 0 1 0 *\nend\nend", 3, api.ErrMalformed}, {head + "method 257 f ()V\nend", 4, api.ErrTruncated}, {head + "method 257 f ()V\nend\nend", 0, api.OK}, {head + "method 257 f ()V\nreturn\nend\nend", 3, api.ErrMalformed}, {head + "method 257 f ()V\nthrows\nend\nend", 3, api.ErrMalformed}, {head + "method 1 f ()V\ncode 0 1\nthrows E\nreturn\nend\nend", 4, api.ErrMalformed}, {head + "method 1 f ()V\ncode 0\nreturn\nend\nend", 3, api.ErrMalformed},
		{head + "method 1 f ()V\ncode 0 1\nlabel 1\nreturn\nend\nend", 4, api.ErrMalformed}, {head + "method 1 f ()V\ncode 0 1\nlabel 0 0\nreturn\nend\nend", 4, api.ErrMalformed}, {head + "method 1 f ()V\ncode 0 1\nreturn\ncatch 0 1 0 *\nreturn\nend\nend", 6, api.ErrMalformed}, {head + "method 1 f ()V\ncode 0 1\nreturn\ncatch 0 1 0\nend\nend", 5, api.ErrMalformed}, {head + "method 1 f ()V\ncode 0 1\nend\nend", 0, api.ErrTooMany},
		{head + "method 1 f ()V\ncode 0 1\nmap locals\nreturn\nend\nend", 4, api.ErrMalformed}, {head + "method 1 f ()V\ncode 0 1\nmap raw raw locals stack\nreturn\nend\nend", 4, api.ErrMalformed}, {head + "method 1 f ()V\ncode 0 1\nmap locals x stack\nreturn\nend\nend", 4, api.ErrMalformed}, {head + "method 1 f ()V\ncode 0 1\nmap locals this stack\nreturn\nend\nend", 4, api.ErrMalformed}, {head + "method 1 f ()V\ncode 0 1\nmap locals I stack\nreturn\nend\nend", 0, api.ErrStackMap}, {head + "method 1 f ()V\ncode 0 1\nmap locals new LA; stack\nreturn\nend\nend", 4, api.ErrMalformed},
	} {
		u, at, e := Assemble(strings.Split(x.s, "\n"))
		if at != x.at || e != x.e || e != api.OK && !reflect.DeepEqual(u, api.ClassModel{}) {
			t.Errorf("case %d: %d, %d, want %d, %d", k, at, e, x.at, x.e)
		}
	}
	if _, at, e := Assemble(nil); at != 1 || e != api.ErrTruncated {
		t.Error(at, e)
	}
}

func TestParseInstruction(t *testing.T) { // P15.2
	for s, want := range map[string]api.Insn{
		"push 7": {Op: api.Push, A: 7}, " \tpush\t 999 ": {Op: api.Push, A: 999}, "goto -3": {Op: api.Goto, To: -3}, "iinc -1 900": {Op: api.IInc, A: -1, B: 900}, "tableswitch 1 else 2": {Op: api.TableSwitch, A: 1, To: 2}, "lookupswitch 1 2 1 3 else 0": {Op: api.LookupSwitch, Keys: []int{1, 1}, Tos: []int{2, 3}}, "ldc string \"x y\"": {Op: api.Ldc, B: 8, S: "x y"}, "ldc long 5": {Op: api.Ldc, B: 5, A: 5}, "new []": {Op: api.New, Ref: api.Ref{Class: "[]"}}, "newarray x": {Op: api.NewArray, S: "x"}, "invokevirtual a b c iface": {Op: api.InvokeVirtual, B: 1, Ref: api.Ref{Class: "a", Name: "b", Desc: "c"}}, "new \"a b\"": {Op: api.New, Ref: api.Ref{Class: "\"a b\""}},
	} {
		if i, e := ParseInstruction(s); e != api.OK || !reflect.DeepEqual(i, want) {
			t.Errorf("%q: %v %d", s, i, e)
		}
	}
	for _, s := range []string{"", " ", "x", "push", "push 07", "push 7 8", "push x", "ldc int", "ldc 5", "ldc string x", "ldc string \"x", "ldc string \"\\41\"", "nop 1", "goto", "iinc 1", "tableswitch else 1", "tableswitch 1 2", "tableswitch 1 else", "lookupswitch 1 else 2", "lookupswitch", "getfield a b", "getfield a b c iface", "invokestatic a b c x", "invokestatic a b c iface iface", "new", "new a b", "NOP", "end", "#"} {
		if i, e := ParseInstruction(s); e != api.ErrMalformed || !reflect.DeepEqual(i, api.Insn{}) {
			t.Errorf("%q: %v %d", s, i, e)
		}
	}
}

func TestUnquote(t *testing.T) { // P15.1, P15.4
	for c := range 256 {
		s := string([]byte{'a', byte(c), '"'})
		if r, e := Unquote(dis.Quote(s)); r != s || e != api.OK {
			t.Error(c, r, e)
		}
	}
	for _, s := range []string{"", `"`, `a`, `"a`, `a"`, `"\41"`, `"\2"`, `"\`, `"\"`, `"\zz"`, `"\5C"`, `"\0A"`, `"a"b"`, "\"\n\"", "\"\x80\"", `"\+1"`, `"\ff" `, `"\f"f"`} {
		if r, e := Unquote(s); r != "" || e != api.ErrMalformed {
			t.Errorf("%q: %q %d", s, r, e)
		}
	}
}
