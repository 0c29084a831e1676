package codegen

import (
	"armature/api"
	"armature/desc"
	"armature/program"
)

func fieldRef(x program.Expr) api.Ref {
	return api.Ref{Class: x.Owner, Name: x.Source.S, Desc: descriptor(x.Field.Type)}
}

func (g *generator) exprs(l []program.Expr) {
	for _, x := range l {
		g.expr(x)
	}
}

// construct calls the constructor for the operands of x, which are on the stack.
func (g *generator) construct(x program.Expr) {
	g.emit(api.Insn{Op: api.InvokeSpecial, Ref: api.Ref{Class: x.Owner, Name: program.Constructor, Desc: signature(x.Method)}})
}

func (g *generator) constant(tag, n int) {
	if tag == api.TagInt && n <= 127 {
		g.emit(api.Insn{Op: api.Push, A: n})
		return
	}
	g.emit(api.Insn{Op: api.Ldc, A: n, B: tag})
}

func (g *generator) expr(x program.Expr) {
	e := x.Source
	switch e.Kind {
	case api.EInt:
		g.constant(api.TagInt, e.N)
	case api.ELong:
		g.constant(api.TagLong, e.N)
	case api.EString:
		g.emit(api.Insn{Op: api.Ldc, B: api.TagString, S: e.S})
	case api.ENull:
		g.op(api.AConstNull)
	case api.EThis:
		g.load(g.find("this"))
	case api.ELocal:
		g.load(g.find(e.S))
	case api.ENew:
		g.emit(api.Insn{Op: api.New, Ref: api.Ref{Class: e.Class}})
		g.op(api.Dup)
		g.exprs(x.Args)
		g.construct(x)
	case api.ESuperCall:
		g.load(g.find("this"))
		g.exprs(x.Args)
		g.emit(api.Insn{Op: api.InvokeSpecial, Ref: api.Ref{Class: g.class.Super, Name: e.S, Desc: signature(x.Method)}})
	case api.EUnary, api.EBinary:
		g.operation(x)
	default:
		g.exprs(x.Args)
		g.apply(x)
	}
}

// apply emits the one instruction of an expression whose operands are on the stack.
func (g *generator) apply(x program.Expr) {
	e := x.Source
	switch e.Kind {
	case api.EField:
		g.emit(api.Insn{Op: api.GetField, Ref: fieldRef(x)})
	case api.EStaticField:
		g.emit(api.Insn{Op: api.GetStatic, Ref: fieldRef(x)})
	case api.EIndex:
		g.op(api.IALoad + int(kindOf(x.Type)))
	case api.EMethodCall, api.EStaticCall:
		g.call(x)
	case api.ENewArray:
		g.emit(api.Insn{Op: api.NewArray, S: descriptor(e.Type)})
	case api.ECast, api.EInstanceOf:
		op := api.CheckCast
		if e.Kind == api.EInstanceOf {
			op = api.InstanceOf
		}
		s, _ := desc.FormatClassConstant(e.Type)
		g.emit(api.Insn{Op: op, Ref: api.Ref{Class: s}})
	case api.ELength:
		g.op(api.ArrayLength)
	case api.EToInt:
		g.op(api.L2I)
	case api.EToLong:
		g.op(api.I2L)
	}
}

func (g *generator) call(x program.Expr) {
	i := api.Insn{Op: api.InvokeVirtual, Ref: api.Ref{Class: x.Owner, Name: x.Source.S, Desc: signature(x.Method)}}
	switch {
	case x.Source.Kind == api.EStaticCall:
		i.Op = api.InvokeStatic
	case g.classes.IsInterface(x.Owner):
		i.Op = api.InvokeInterface
	}
	g.emit(i)
}

// operation computes a number, or the 1 or 0 of a condition.
func (g *generator) operation(x program.Expr) {
	isLong := kindOf(x.Args[0].Type) == long
	op := -1
	if x.Source.Kind == api.EBinary {
		op = program.Arithmetic(x.Source.S)
	} else if x.Source.S == "-" {
		op = api.INeg
	}
	switch {
	case op < 0:
		g.truth(x)
		return
	case op == api.INeg && isLong:
		op = api.LNeg
	case isLong:
		op += api.LAdd - api.IAdd
	}
	g.exprs(x.Args)
	g.op(op)
}

// truth pushes 1 or 0.
func (g *generator) truth(x program.Expr) {
	no, end := g.label(), g.label()
	height := g.height
	g.condition(x, no, false)
	g.emit(api.Insn{Op: api.Push, A: 1})
	g.jump(api.Goto, end)
	g.place(no)
	g.height = height
	g.emit(api.Insn{Op: api.Push})
	g.place(end)
}

// condition jumps to a label if the truth of an expression is as wanted, and goes on otherwise.
func (g *generator) condition(x program.Expr, to int, wanted bool) {
	e := x.Source
	switch {
	case e.Kind == api.EUnary && e.S == "!":
		g.condition(x.Args[0], to, !wanted)
	case e.Kind == api.EBinary && (e.S == "&&" || e.S == "||"):
		g.decide(x, to, wanted)
	case e.Kind == api.EBinary && program.Comparison(e.S) >= 0:
		g.compare(x, to, wanted)
	default:
		g.expr(x)
		op := api.IfEq
		if wanted {
			op = api.IfNe
		}
		g.jump(op, to)
	}
}

// decide evaluates the second operand only if the first one does not decide.
func (g *generator) decide(x program.Expr, to int, wanted bool) {
	decisive := x.Source.S == "||"
	if decisive == wanted {
		g.condition(x.Args[0], to, wanted)
		g.condition(x.Args[1], to, wanted)
		return
	}
	skip := g.label()
	g.condition(x.Args[0], skip, decisive)
	g.condition(x.Args[1], to, wanted)
	g.place(skip)
}

func (g *generator) compare(x program.Expr, to int, wanted bool) {
	place := program.Comparison(x.Source.S)
	if !wanted {
		place ^= 1
	}
	g.exprs(x.Args)
	switch kindOf(x.Args[0].Type) {
	case reference:
		g.jump(api.IfACmpEq+place, to)
	case long:
		g.op(api.LCmp)
		g.jump(api.IfEq+place, to)
	default:
		g.jump(api.IfICmpEq+place, to)
	}
}
