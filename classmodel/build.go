package classmodel

import (
	"armature/api"
	"armature/attr"
	"armature/desc"
	"armature/format"
	"armature/insn"
	"armature/octet"
	"armature/opcode"
	"slices"
)

// builder collects the constants of a class in the order in which package pool would add them; e is the first error.
// It looks constants up in a map, because a class has many references to few constants.
type builder struct {
	pool  []api.Const
	index map[api.Const]int
	e     api.Errno
}

func newBuilder(p []api.Const) *builder {
	b := &builder{pool: slices.Clip(p), index: map[api.Const]int{}}
	for i, c := range p {
		if _, ok := b.index[c]; !ok {
			b.index[c] = i + 1
		}
	}
	return b
}

func (b *builder) fail(e api.Errno) {
	if b.e == api.OK {
		b.e = e
	}
}

func (b *builder) add(c api.Const) int {
	if i, ok := b.index[c]; ok {
		return i
	}
	if len(b.pool) >= api.MaxPool {
		b.fail(api.ErrTooMany)
		return 0
	}
	b.pool = append(b.pool, c)
	b.index[c] = len(b.pool)
	return len(b.pool)
}

func (b *builder) utf8(s string) int {
	return b.add(api.Const{Tag: api.TagUTF8, S: s})
}

func (b *builder) class(s string) int {
	return b.add(api.Const{Tag: api.TagClass, A: b.utf8(s)})
}

func (b *builder) member(tag int, r api.Ref) int {
	owner := b.class(r.Class)
	name := b.utf8(r.Name)
	both := b.add(api.Const{Tag: api.TagNameAndType, A: name, B: b.utf8(r.Desc)})
	return b.add(api.Const{Tag: tag, A: owner, B: both})
}

func (b *builder) constant(tag, n int, s string) int {
	if tag == api.TagString {
		return b.add(api.Const{Tag: tag, A: b.utf8(s)})
	}
	return b.add(api.Const{Tag: tag, N: n})
}

// raw converts an instruction.
func (b *builder) raw(i api.Insn) (api.Insn, api.Errno) {
	kind := opcode.OperandKind(i.Op)
	if kind < 0 {
		return api.Insn{}, api.ErrBadOpcode
	}
	if kind != 2 {
		if e := insn.Check(i); e != api.OK {
			return api.Insn{}, e
		}
		return i, api.OK
	}
	if e := checkSymbolic(i); e != api.OK {
		return api.Insn{}, e
	}
	index := b.operand(i)
	if b.e != api.OK {
		return api.Insn{}, b.e
	}
	return api.Insn{Op: i.Op, A: index}, api.OK
}

func (b *builder) operand(i api.Insn) int {
	switch i.Op {
	case api.Ldc:
		return b.constant(i.B, i.A, i.S)
	case api.New, api.CheckCast, api.InstanceOf:
		return b.class(i.Ref.Class)
	case api.NewArray:
		return b.utf8(i.S)
	}
	return b.member(memberTag(i), i.Ref)
}

func memberTag(i api.Insn) int {
	switch {
	case i.Op <= api.PutField:
		return api.TagField
	case i.Op == api.InvokeInterface || i.B == 1:
		return api.TagInterfaceMethod
	}
	return api.TagMethod
}

// checkSymbolic looks for fields that a symbolic instruction with a constant does not use.
func checkSymbolic(i api.Insn) api.Errno {
	if i.To != 0 || len(i.Keys) > 0 || len(i.Tos) > 0 {
		return api.ErrMalformed
	}
	rest := i
	switch i.Op {
	case api.Ldc:
		return checkLdc(i)
	case api.New, api.CheckCast, api.InstanceOf:
		rest.Ref.Class = ""
	case api.NewArray:
		rest.S = ""
	case api.InvokeSpecial, api.InvokeStatic:
		rest.Ref, rest.B = api.Ref{}, 0
	default:
		rest.Ref = api.Ref{}
	}
	if rest.A != 0 || rest.B != 0 || rest.S != "" || rest.Ref != (api.Ref{}) || i.B < 0 || i.B > 1 {
		return api.ErrMalformed
	}
	return api.OK
}

func checkLdc(i api.Insn) api.Errno {
	if i.Ref != (api.Ref{}) || i.B == api.TagString && i.A != 0 || i.B != api.TagString && i.S != "" {
		return api.ErrMalformed
	}
	if i.B != api.TagInt && i.B != api.TagLong && i.B != api.TagString {
		return api.ErrConstantTag
	}
	return api.OK
}

// ToFile converts a class model to a class file.
func ToFile(u api.ClassModel) (api.File, api.Errno) {
	if malformed(u) {
		return api.File{}, api.ErrMalformed
	}
	b := newBuilder(nil)
	f, codes, thrown := b.addClass(u)
	if b.e != api.OK {
		return api.File{}, b.e
	}
	f.Pool = b.pool
	if e := b.addAttributes(&f, codes, thrown); e != api.OK {
		return api.File{}, e
	}
	if _, e := format.Check(f); e != api.OK {
		return api.File{}, e
	}
	return f, api.OK
}

func malformed(u api.ClassModel) bool {
	for _, f := range u.Fields {
		if f.Const != api.TagInt && f.Const != api.TagLong && f.N != 0 || f.Const != api.TagString && f.S != "" {
			return true
		}
		if f.Const != 0 && f.Const != api.TagInt && f.Const != api.TagLong && f.Const != api.TagString {
			return true
		}
	}
	for _, m := range u.Methods {
		if !m.HasCode && !isZeroCode(m.Code) || hasRawParts(m.Code) {
			return true
		}
	}
	return false
}

func isZeroCode(c api.Code) bool {
	return c.Stack == 0 && c.Locals == 0 && len(c.Insns) == 0 && len(c.Handlers) == 0 && len(c.StackMaps) == 0 && len(c.Lines) == 0
}

func hasRawParts(c api.Code) bool {
	for _, h := range c.Handlers {
		if h.Class != 0 {
			return true
		}
	}
	for _, m := range c.StackMaps {
		for _, l := range [2][]api.VType{m.Frame.Locals, m.Frame.Stack} {
			for _, v := range l {
				if v.PoolIndex != 0 {
					return true
				}
			}
		}
	}
	return false
}

// addClass adds all constants of a class in the order of the document; codes and thrown have an entry for each method.
func (b *builder) addClass(u api.ClassModel) (api.File, []api.Code, [][]int) {
	f := api.File{Flags: u.Flags, This: b.class(u.Name)}
	if u.Super != "" {
		f.Super = b.class(u.Super)
	}
	for _, s := range u.Interfaces {
		f.Interfaces = append(f.Interfaces, b.class(s))
	}
	for _, x := range u.Fields {
		m := api.Member{Flags: x.Flags, Name: b.utf8(x.Name), Desc: b.utf8(x.Desc)}
		if x.Const != 0 {
			title := b.utf8("Const")
			m.Attributes = []api.Attr{indexAttr(title, b.constant(x.Const, x.N, x.S))}
		}
		f.Fields = append(f.Fields, m)
	}
	codes := make([]api.Code, len(u.Methods))
	thrown := make([][]int, len(u.Methods))
	for n, x := range u.Methods {
		if b.e != api.OK {
			break
		}
		m := api.Member{Flags: x.Flags, Name: b.utf8(x.Name), Desc: b.utf8(x.Desc)}
		if x.HasCode {
			m.Attributes = append(m.Attributes, api.Attr{NameIndex: b.utf8("Code")})
			codes[n] = b.addCode(x.Code)
		}
		if len(x.Exceptions) > 0 {
			m.Attributes = append(m.Attributes, api.Attr{NameIndex: b.utf8("Thrown")})
			for _, s := range x.Exceptions {
				thrown[n] = append(thrown[n], b.class(s))
			}
		}
		f.Methods = append(f.Methods, m)
	}
	if u.Source != "" {
		title := b.utf8("Source")
		f.Attributes = []api.Attr{indexAttr(title, b.utf8(u.Source))}
	}
	return f, codes, thrown
}

func indexAttr(title, i int) api.Attr {
	s, _ := octet.Put(i, 2)
	return api.Attr{NameIndex: title, Bytes: s}
}

func (b *builder) addCode(c api.Code) api.Code {
	r := api.Code{Stack: c.Stack, Locals: c.Locals, Lines: c.Lines}
	for _, i := range c.Insns {
		x, e := b.raw(i)
		if b.fail(e); b.e != api.OK {
			return api.Code{}
		}
		r.Insns = append(r.Insns, x)
	}
	for _, h := range c.Handlers {
		if h.Type != "" {
			h.Class, h.Type = b.class(h.Type), ""
		}
		r.Handlers = append(r.Handlers, h)
	}
	for _, m := range c.StackMaps {
		m.Frame.Locals = b.addVTypes(m.Frame.Locals)
		m.Frame.Stack = b.addVTypes(m.Frame.Stack)
		r.StackMaps = append(r.StackMaps, m)
	}
	return r
}

func (b *builder) addVTypes(l []api.VType) []api.VType {
	var r []api.VType
	for _, v := range l {
		switch v.Kind {
		case api.VRef, api.VUninitialized, api.VUninitializedThis:
			s, e := desc.Format(v.Type)
			b.fail(e)
			v.PoolIndex, v.Type = b.utf8(s), api.Type{}
		}
		r = append(r, v)
	}
	return r
}

// addAttributes encodes the code and the exceptions of all methods.
func (b *builder) addAttributes(f *api.File, codes []api.Code, thrown [][]int) api.Errno {
	for n := range f.Methods {
		for k := range f.Methods[n].Attributes {
			a := &f.Methods[n].Attributes[k]
			if text(b.pool, a.NameIndex) != "Code" {
				continue
			}
			var e api.Errno
			if a.Bytes, e = attr.EncodeCode(b.pool, codes[n]); e != api.OK {
				return e
			}
		}
	}
	for n := range f.Methods {
		for k := range f.Methods[n].Attributes {
			a := &f.Methods[n].Attributes[k]
			if text(b.pool, a.NameIndex) != "Thrown" {
				continue
			}
			var e api.Errno
			if a.Bytes, e = attr.EncodeIndexes(thrown[n]); e != api.OK {
				return e
			}
		}
	}
	return api.OK
}
