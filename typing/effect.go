package typing

import (
	"armature/api"
	"armature/desc"
	"armature/vtype"
	"slices"
)

func (s *state) run(i api.Insn) {
	switch {
	case i.Op <= api.IInc:
		s.runLocal(i)
	case i.Op <= api.Swap:
		s.runStack(i.Op)
	case i.Op <= api.L2I:
		s.runNumber(i.Op)
	case i.Op <= api.LookupSwitch:
		s.runBranch(i.Op)
	case i.Op <= api.Return:
		s.runReturn(i.Op)
	case i.Op <= api.PutField:
		s.runField(i)
	case i.Op <= api.InvokeInterface:
		s.runCall(i)
	case i.Op >= api.IALoad && i.Op <= api.AAStore:
		s.runElement(i.Op)
	default:
		s.runObject(i)
	}
}

func (s *state) runLocal(i api.Insn) {
	switch i.Op {
	case api.AConstNull:
		s.push(of(api.VNull))
	case api.Push:
		s.push(of(api.VInt))
	case api.Ldc:
		switch i.B {
		case api.TagInt:
			s.push(of(api.VInt))
		case api.TagLong:
			s.push(of(api.VLong))
		default:
			s.push(class(text))
		}
	case api.ILoad:
		s.load(i.A, isKind(api.VInt))
	case api.LLoad:
		s.load(i.A, isKind(api.VLong))
	case api.ALoad:
		s.load(i.A, isReferenceKind)
	case api.IStore:
		s.store(i.A, isKind(api.VInt))
	case api.LStore:
		s.store(i.A, isKind(api.VLong))
	case api.AStore:
		s.store(i.A, isReferenceKind)
	case api.IInc:
		if s.locals[i.A].Kind != api.VInt {
			s.fail(api.ErrBadLocal)
		}
	}
}

func (s *state) runStack(op int) {
	b := s.pop()
	switch op {
	case api.Dup:
		s.push(b)
		s.push(b)
	case api.DupX1, api.Swap:
		a := s.pop()
		s.push(b)
		s.push(a)
		if op == api.DupX1 {
			s.push(b)
		}
	}
}

func (s *state) runNumber(op int) {
	switch {
	case op == api.INeg:
		s.popKinds(api.VInt)
		s.push(of(api.VInt))
	case op <= api.IXor:
		s.popKinds(api.VInt, api.VInt)
		s.push(of(api.VInt))
	case op == api.LNeg:
		s.popKinds(api.VLong)
		s.push(of(api.VLong))
	case op <= api.LRem:
		s.popKinds(api.VLong, api.VLong)
		s.push(of(api.VLong))
	case op == api.LCmp:
		s.popKinds(api.VLong, api.VLong)
		s.push(of(api.VInt))
	case op == api.I2L:
		s.popKinds(api.VInt)
		s.push(of(api.VLong))
	default:
		s.popKinds(api.VLong)
		s.push(of(api.VInt))
	}
}

func (s *state) runBranch(op int) {
	switch {
	case op <= api.IfLe || op > api.Goto:
		s.popKinds(api.VInt)
	case op <= api.IfICmpLe:
		s.popKinds(api.VInt, api.VInt)
	case op <= api.IfACmpNe:
		s.popObject()
		s.popObject()
	case op <= api.IfNonNull:
		s.popObject()
	}
}

// returnKind is the kind of value that a return instruction takes.
func returnKind(op int) int {
	switch op {
	case api.IReturn:
		return api.KInt
	case api.LReturn:
		return api.KLong
	case api.AReturn:
		return api.KRef
	}
	return api.KNone
}

func (s *state) runReturn(op int) {
	if desc.Kind(s.sig.Result) != returnKind(op) {
		s.fail(api.ErrReturnKind)
		return
	}
	if op != api.Return {
		s.popFor(vtype.FromType(s.sig.Result))
	} else if s.uninit {
		s.fail(api.ErrUninitialized)
	}
}

func (s *state) runField(i api.Insn) {
	d, _ := desc.Parse(i.Ref.Desc)
	switch i.Op {
	case api.GetStatic:
		s.pushType(d)
	case api.PutStatic:
		s.popFor(vtype.FromType(d))
	case api.GetField:
		s.popFor(class(i.Ref.Class))
		s.pushType(d)
	case api.PutField:
		s.popFor(vtype.FromType(d))
		s.popFor(class(i.Ref.Class))
	}
}

func (s *state) runCall(i api.Insn) {
	g, _ := desc.ParseSignature(i.Ref.Desc)
	special := i.Op == api.InvokeSpecial
	if special && i.Ref.Name == "<init>" {
		s.popArguments(g.Params)
		s.initialize(i.Ref.Class, s.pop())
		return
	}
	receiver := i.Ref.Class
	if special {
		if receiver != s.Model.Name && receiver != s.Model.Super && !slices.Contains(s.Model.Interfaces, receiver) {
			s.fail(api.ErrIllegalAccess)
			return
		}
		receiver = s.Model.Name
	}
	s.popArguments(g.Params)
	if i.Op != api.InvokeStatic {
		s.popFor(class(receiver))
	}
	s.pushType(g.Result)
}

// initialize is the call of a constructor on x.
func (s *state) initialize(owner string, x api.VType) {
	switch x.Kind {
	case api.VUninitialized:
		if x.Type.Name != owner {
			s.fail(api.ErrTypeMismatch)
		}
	case api.VUninitializedThis:
		if owner != s.Model.Name && owner != s.Model.Super {
			s.fail(api.ErrTypeMismatch)
		}
		s.uninit = false
	default:
		s.fail(api.ErrUninitialized)
	}
	done := api.VType{Kind: api.VRef, Type: x.Type}
	s.replace(s.locals, x, done)
	s.replace(s.stack, x, done)
}

func (s *state) runObject(i api.Insn) {
	switch i.Op {
	case api.New:
		s.create(i.Ref.Class)
	case api.NewArray:
		s.popKinds(api.VInt)
		t, _ := desc.Parse(i.S)
		a, e := desc.ArrayOf(t)
		if e != api.OK {
			s.fail(api.ErrTypeMismatch)
		}
		s.push(api.VType{Kind: api.VRef, Type: a})
	case api.ArrayLength:
		if v := s.popObject(); v.Kind == api.VRef && v.Type.Dim == 0 {
			s.fail(api.ErrTypeMismatch)
		}
		s.push(of(api.VInt))
	case api.CheckCast:
		s.popObject()
		t, _ := desc.ParseClassConstant(i.Ref.Class)
		s.push(api.VType{Kind: api.VRef, Type: t})
	case api.InstanceOf:
		s.popObject()
		s.push(of(api.VInt))
	case api.AThrow:
		s.popFor(class(throwable))
	case api.MonitorEnter, api.MonitorExit:
		s.popObject()
	}
}

func (s *state) create(name string) {
	fresh := api.VType{Kind: api.VUninitialized, NewIndex: s.at, Type: api.Type{Base: 'L', Name: name}}
	older := func(v api.VType) bool { return v.Kind == api.VUninitialized && v.NewIndex == s.at }
	if slices.ContainsFunc(s.stack, older) {
		s.fail(api.ErrUninitialized)
	}
	for i, v := range s.locals {
		if older(v) {
			s.locals[i] = api.VType{}
		}
	}
	s.push(fresh)
}

func array(base byte) api.VType {
	return api.VType{Kind: api.VRef, Type: api.Type{Dim: 1, Base: base}}
}

func (s *state) runElement(op int) {
	switch op {
	case api.IALoad:
		s.popKinds(api.VInt)
		s.popFor(array('I'))
		s.push(of(api.VInt))
	case api.LALoad:
		s.popKinds(api.VInt)
		s.popFor(array('J'))
		s.push(of(api.VLong))
	case api.AALoad:
		s.popKinds(api.VInt)
		x := s.popReferences()
		if x.Kind == api.VRef {
			x.Type.Dim--
		}
		s.push(x)
	case api.IAStore:
		s.popKinds(api.VInt, api.VInt)
		s.popFor(array('I'))
	case api.LAStore:
		s.popKinds(api.VLong, api.VInt)
		s.popFor(array('J'))
	case api.AAStore:
		s.popObject()
		s.popKinds(api.VInt)
		s.popReferences()
	}
}

// popReferences pops null or an array of references.
func (s *state) popReferences() api.VType {
	x := s.pop()
	switch {
	case isRaw(x):
		s.fail(api.ErrUninitialized)
	case x.Kind != api.VNull && (x.Kind != api.VRef || x.Type.Dim < 1 || x.Type.Dim == 1 && x.Type.Base != 'L'):
		s.fail(api.ErrTypeMismatch)
	}
	return x
}
