package format

import (
	"armature/api"
	"armature/attr"
	"armature/pool"
	"testing"
)

// book builds a file for the tests.
type book struct{ api.File }

func (b *book) utf(s string) int {
	var i int
	b.Pool, i, _ = pool.AddUTF8(b.Pool, s)
	return i
}

func (b *book) class(s string) int {
	var i int
	b.Pool, i, _ = pool.AddClass(b.Pool, s)
	return i
}

func (b *book) add(c api.Const) int {
	var i int
	b.Pool, i, _ = pool.Add(b.Pool, c)
	return i
}

func two(i int) string { return string([]byte{byte(i >> 8), byte(i)}) }

func (b *book) attr(name, bytes string) api.Attr {
	return api.Attr{NameIndex: b.utf(name), Bytes: bytes}
}

func (b *book) member(flags int, name, desc string, l ...api.Attr) api.Member {
	return api.Member{Flags: flags, Name: b.utf(name), Desc: b.utf(desc), Attributes: l}
}

func (b *book) code(locals int) api.Attr {
	s, _ := attr.EncodeCode(nil, api.Code{Locals: locals, Insns: []api.Insn{{Op: api.Return}}})
	return b.attr("Code", s)
}

func sample() *book {
	b := &book{}
	b.This, b.Super, b.Flags = b.class("p/A"), b.class("lang/Object"), api.Public
	b.Interfaces = []int{b.class("I"), b.class("J")}
	b.Fields = []api.Member{b.member(api.Private, "x", "I"), b.member(api.Static, "y", "Llang/String;", b.attr("Const", two(b.add(api.Const{Tag: 8, A: b.utf("text")}))))}
	thrown, _ := attr.EncodeIndexes([]int{b.class("E")})
	b.Methods = []api.Member{b.member(api.Public, "<init>", "(I)V", b.code(2)), b.member(api.Static, "<clinit>", "()V", b.code(0)), b.member(api.Public|api.Native, "f", "()I", b.attr("Thrown", thrown))}
	b.Attributes = []api.Attr{b.attr("Source", two(b.utf("A.src")))}
	return b
}

func sampleInterface() *book {
	b := &book{}
	b.This, b.Super, b.Flags = b.class("I"), b.class("lang/Object"), api.Interface|api.Abstract
	b.Fields = []api.Member{b.member(api.Public|api.Static|api.Final, "x", "I", b.attr("Const", two(b.add(api.Const{Tag: 3, N: 5}))))}
	b.Methods = []api.Member{b.member(api.Public|api.Abstract, "f", "()V"), b.member(api.Public, "g", "()V", b.code(1)), b.member(api.Public|api.Static, "h", "()V", b.code(0)), b.member(api.Static, "<clinit>", "()V", b.code(0))}
	return b
}

func TestValidFlags(t *testing.T) { // P12.1
	const pub, pri, pro, sta, fin, syn, nat, ifa, abs = api.Public, api.Private, api.Protected, api.Static, api.Final, api.Synchronized, api.Native, api.Interface, api.Abstract
	good := map[string][]int{
		"class":       {0, pub, fin, abs, abs | ifa, pub | abs | ifa, pub | fin, pub | abs},
		"field":       {0, pub, pri, pro, sta, fin, pub | sta | fin, pri | sta, pro | fin},
		"ifacefield":  {pub | sta | fin},
		"method":      {0, pub, pri | sta | fin, pro | syn, nat | syn, pub | nat | fin, abs, pub | abs, pro | abs, sta | nat, syn | fin},
		"ifacemethod": {pub, pub | abs, pub | sta},
	}
	bad := map[string][]int{
		"class":       {ifa, pub | ifa, fin | abs, fin | ifa | abs, sta, pri, 2048, -1, nat, 1 << 40, syn},
		"field":       {pub | pri, pub | pro, pri | pro, abs, syn, nat, -8, 64},
		"ifacefield":  {0, pub, pub | sta, sta | fin, pub | sta | fin | pri},
		"method":      {pub | pri, pri | abs, sta | abs, fin | abs, syn | abs, nat | abs, syn | sta, ifa, 64, 128, -1},
		"ifacemethod": {0, abs, pub | abs | sta, pub | fin, pub | nat, pri, sta},
		"":            {0}, "Class": {0}, "x": {1},
	}
	for what, l := range good {
		for _, f := range l {
			if !ValidFlags(what, f) {
				t.Error(what, f)
			}
		}
	}
	for what, l := range bad {
		for _, f := range l {
			if ValidFlags(what, f) {
				t.Error(what, f)
			}
		}
	}
}

func expect(t *testing.T, what string, b *book, place string, want api.Errno) {
	t.Helper()
	if s, e := Check(b.File); s != place || e != want {
		t.Errorf("%s: %q, %d, want %q, %d", what, s, e, place, want)
	}
}

// mutate expects an error after a change of one of the samples.
func mutate(t *testing.T, what, place string, want api.Errno, f func(b *book)) {
	t.Helper()
	b := sample()
	f(b)
	expect(t, what, b, place, want)
}

func TestValidFiles(t *testing.T) { // P12.2, P12.3
	expect(t, "class", sample(), "", api.OK)
	expect(t, "interface", sampleInterface(), "", api.OK)
	b := &book{}
	b.This, b.Flags = b.class("lang/Object"), api.Public
	expect(t, "root", b, "", api.OK)
	b.Super = 2
	expect(t, "root with a superclass", b, "class", api.ErrBadSuper)
	b = sample()
	b.utf("one more text")
	b.Fields[0], b.Fields[1] = b.Fields[1], b.Fields[0]
	b.Methods[0], b.Methods[2] = b.Methods[2], b.Methods[0]
	expect(t, "reordered", b, "", api.OK)
}

func TestClassErrors(t *testing.T) { // P12.2
	mutate(t, "pool", "pool", api.ErrConstantTag, func(b *book) { b.Pool[0].Tag = 2; b.This = 0 })
	mutate(t, "this", "class", api.ErrRange, func(b *book) { b.This = 0; b.Flags = -1 })
	mutate(t, "this too high", "class", api.ErrRange, func(b *book) { b.This = len(b.Pool) + 1 })
	mutate(t, "super", "class", api.ErrRange, func(b *book) { b.Super = -1; b.This = 1 })
	mutate(t, "this is a text", "class", api.ErrConstantTag, func(b *book) { b.This = 1 })
	mutate(t, "this is an array", "class", api.ErrConstantTag, func(b *book) { b.This = b.class("[I") })
	mutate(t, "super is an array", "class", api.ErrConstantTag, func(b *book) { b.Super = b.class("[I"); b.Flags = -1 })
	mutate(t, "flags", "class", api.ErrBadFlags, func(b *book) { b.Flags = api.Interface; b.Super = 0 })
	mutate(t, "no super", "class", api.ErrBadSuper, func(b *book) { b.Super = 0; b.Interfaces = make([]int, 9) })
	mutate(t, "interface with super", "class", api.ErrBadSuper, func(b *book) { b.Flags = api.Interface | api.Abstract; b.Super = b.class("B") })
	mutate(t, "interfaces", "class", api.ErrTooMany, func(b *book) { b.Interfaces = make([]int, 9); b.Super = b.This })
	mutate(t, "fields", "class", api.ErrTooMany, func(b *book) { b.Fields = make([]api.Member, 65) })
	mutate(t, "methods", "class", api.ErrTooMany, func(b *book) { b.Methods = make([]api.Member, 65) })
	mutate(t, "attributes", "class", api.ErrTooMany, func(b *book) { b.Attributes = make([]api.Attr, 17) })
	mutate(t, "member attributes", "class", api.ErrTooMany, func(b *book) { b.Methods[1].Attributes = make([]api.Attr, 17) })
	mutate(t, "own super", "class", api.ErrCircularity, func(b *book) { b.Super = b.This; b.Interfaces[0] = 0 })
	mutate(t, "own interface", "class", api.ErrCircularity, func(b *book) { b.Interfaces = []int{0, b.This} })
	mutate(t, "interface index", "iface 1", api.ErrRange, func(b *book) { b.Interfaces[1] = 0 })
	mutate(t, "interface text", "iface 0", api.ErrConstantTag, func(b *book) { b.Interfaces[0] = 1 })
	mutate(t, "interface array", "iface 0", api.ErrConstantTag, func(b *book) { b.Interfaces[0] = b.class("[LI;") })
	mutate(t, "repeated interface", "iface 1", api.ErrDuplicate, func(b *book) { b.Interfaces[1] = b.Interfaces[0] })
	mutate(t, "source name", "source", api.ErrMalformed, func(b *book) { b.Attributes[0].NameIndex = b.utf("Src") })
	mutate(t, "source length", "source", api.ErrMalformed, func(b *book) { b.Attributes[0].Bytes = "\x00" })
	mutate(t, "source index", "source", api.ErrMalformed, func(b *book) { b.Attributes[0].Bytes = two(b.This) })
	mutate(t, "two sources", "source", api.ErrMalformed, func(b *book) { b.Attributes = append(b.Attributes, b.Attributes[0]) })
}

func TestFieldErrors(t *testing.T) { // P12.2
	set := func(flags int, name, desc string) func(*book) {
		return func(b *book) { b.Fields[0] = b.member(flags, name, desc) }
	}
	mutate(t, "name index", "field 0", api.ErrBadName, func(b *book) { b.Fields[0].Name = 0; b.Fields[0].Desc = 0 })
	mutate(t, "name", "field 0", api.ErrBadName, set(0, "1", "V"))
	mutate(t, "init", "field 0", api.ErrBadName, set(0, "<init>", "I"))
	mutate(t, "desc", "field 0", api.ErrBadDescriptor, set(-1, "x", "V"))
	mutate(t, "desc signature", "field 0", api.ErrBadDescriptor, set(0, "x", "()V"))
	mutate(t, "desc index", "field 0", api.ErrBadDescriptor, func(b *book) { b.Fields[0].Desc = b.This })
	mutate(t, "flags", "field 0", api.ErrBadFlags, set(3, "x", "I"))
	mutate(t, "repeated", "field 1", api.ErrDuplicate, func(b *book) { b.Fields[1] = b.Fields[0] })
	mutate(t, "same name", "", api.OK, func(b *book) { b.Fields[0] = b.member(0, "y", "I") })
	constant := func(flags int, desc, name string, c api.Const) func(*book) {
		return func(b *book) { b.Fields[0] = b.member(flags, "x", desc, b.attr(name, two(b.add(c)))) }
	}
	five := api.Const{Tag: 3, N: 5}
	mutate(t, "int", "", api.OK, constant(api.Static, "I", "Const", five))
	mutate(t, "long", "", api.OK, constant(api.Static, "J", "Const", api.Const{Tag: 5, N: 5}))
	mutate(t, "not static", "field 0", api.ErrMalformed, constant(0, "I", "Const", five))
	mutate(t, "wrong name", "field 0", api.ErrMalformed, constant(api.Static, "I", "const", five))
	mutate(t, "wrong tag", "field 0", api.ErrMalformed, constant(api.Static, "J", "Const", five))
	mutate(t, "wrong type", "field 0", api.ErrMalformed, constant(api.Static, "[I", "Const", five))
	mutate(t, "wrong class", "field 0", api.ErrMalformed, constant(api.Static, "LString;", "Const", api.Const{Tag: 8, A: 1}))
	mutate(t, "zero index", "field 1", api.ErrMalformed, func(b *book) { b.Fields[1].Attributes[0].Bytes = "\x00\x00" })
	mutate(t, "length", "field 1", api.ErrMalformed, func(b *book) { b.Fields[1].Attributes[0].Bytes += "\x00" })
	mutate(t, "two of them", "field 1", api.ErrMalformed, func(b *book) {
		b.Fields[1].Attributes = append(b.Fields[1].Attributes, b.Fields[1].Attributes[0])
	})
	b := sampleInterface()
	b.Fields[0].Flags = api.Static
	expect(t, "interface field", b, "field 0", api.ErrBadFlags)
}

func TestMethodErrors(t *testing.T) { // P12.2
	set := func(flags int, name, desc string, with ...string) func(*book) {
		return func(b *book) {
			var l []api.Attr
			for _, s := range with {
				if s == "Code" {
					l = append(l, b.code(1))
				} else {
					l = append(l, b.attr(s, "\x00\x00"))
				}
			}
			b.Methods[0] = b.member(flags, name, desc, l...)
		}
	}
	mutate(t, "name", "method 0", api.ErrBadName, set(-1, "<x>", "V"))
	mutate(t, "name index", "method 0", api.ErrBadName, func(b *book) { b.Methods[0].Name = 999 })
	mutate(t, "desc", "method 0", api.ErrBadDescriptor, set(-1, "f", "V"))
	mutate(t, "init result", "method 0", api.ErrBadDescriptor, set(-1, "<init>", "()I"))
	mutate(t, "clinit", "method 0", api.ErrBadDescriptor, set(api.Static, "<clinit>", "()I", "Code"))
	mutate(t, "clinit parameter", "method 0", api.ErrBadDescriptor, set(api.Static, "<clinit>", "(I)V", "Code"))
	mutate(t, "clinit flags", "method 0", api.ErrBadFlags, set(api.Static|api.Public, "<clinit>", "()V", "Code"))
	mutate(t, "flags", "method 0", api.ErrBadFlags, set(api.Static|api.Synchronized, "f", "()V", "Code"))
	mutate(t, "init flags", "method 0", api.ErrBadFlags, set(api.Final, "<init>", "()V", "Code"))
	mutate(t, "abstract in a class", "method 0", api.ErrBadFlags, set(api.Abstract, "f", "()V"))
	mutate(t, "abstract in an abstract class", "", api.OK, func(b *book) { b.Flags = api.Abstract; set(api.Abstract, "f", "()V")(b) })
	mutate(t, "repeated", "method 2", api.ErrDuplicate, func(b *book) { b.Methods[2] = b.Methods[0] })
	mutate(t, "no code", "method 0", api.ErrMalformed, set(0, "f", "()V"))
	mutate(t, "code of a native method", "method 0", api.ErrMalformed, set(api.Native, "f", "()V", "Code"))
	mutate(t, "two codes", "method 0", api.ErrMalformed, set(0, "f", "()V", "Code", "Code"))
	mutate(t, "two lists", "method 0", api.ErrMalformed, set(0, "f", "()V", "Code", "Thrown", "Thrown"))
	mutate(t, "other attribute", "method 0", api.ErrMalformed, set(0, "f", "()V", "Code", "Const"))
	mutate(t, "empty list", "", api.OK, set(0, "f", "()V", "Code", "Thrown"))
	mutate(t, "bad code", "method 0", api.ErrTruncated, func(b *book) { b.Methods[0].Attributes[0].Bytes = "" })
	mutate(t, "bad list", "method 2", api.ErrTruncated, func(b *book) { b.Methods[2].Attributes[0].Bytes = "" })
	mutate(t, "list of a text", "method 2", api.ErrConstantTag, func(b *book) { b.Methods[2].Attributes[0].Bytes = "\x00\x01\x00\x01" })
	mutate(t, "list of an array", "method 2", api.ErrConstantTag, func(b *book) { b.Methods[2].Attributes[0].Bytes = "\x00\x01" + two(b.class("[I")) })
	mutate(t, "few locals", "method 0", api.ErrBadLocal, set(0, "f", "(J)V", "Code"))
	mutate(t, "enough locals", "", api.OK, set(api.Static, "f", "(J)V", "Code"))
	mutate(t, "few static locals", "method 0", api.ErrBadLocal, set(api.Static, "f", "(JI)V", "Code"))
	for k, f := range []func(*book){set(api.Public, "<init>", "()V", "Code"), set(0, "f", "()V", "Code"), set(api.Public|api.Native, "f", "()V"), set(api.Public, "f", "()V")} {
		b := sampleInterface()
		f(b)
		want := [4]api.Errno{api.ErrBadName, api.ErrBadFlags, api.ErrBadFlags, api.ErrMalformed}[k]
		expect(t, "interface method", b, "method 0", want)
	}
}
