package codegen

import (
	"armature/api"
	"armature/program"
)

// kind is a kind of operands. Opcodes for the kinds follow one another in this order.
type kind int

const (
	number kind = iota
	long
	reference
)

func kindOf(t api.Type) kind {
	switch {
	case t.Dim != 0 || t.Base == 'L':
		return reference
	case t.Base == 'J':
		return long
	}
	return number
}

// variable is a local variable; those without a name cannot be found.
type variable struct {
	name string
	slot int
	kind kind
}

// scope assigns local variables to slots.
type scope struct {
	variables []variable
	most      int // the number of slots in use at the same time
}

// declare adds a variable and returns it.
func (s *scope) declare(name string, t api.Type) variable {
	v := variable{name, len(s.variables), kindOf(t)}
	s.variables = append(s.variables, v)
	s.most = max(s.most, len(s.variables))
	return v
}

// leave forgets the variables that were declared since there were n.
func (s *scope) leave(n int) { s.variables = s.variables[:n] }

func (s *scope) find(name string) variable {
	for _, v := range s.variables {
		if v.name == name {
			return v
		}
	}
	return variable{}
}

// monitor is a monitor that the code is in. Returns inside of it go to exit, where it is left.
type monitor struct {
	lock variable
	exit int
	used bool
}

// generator generates the code of one method. Branches hold labels until the end; places maps labels to instructions.
type generator struct {
	scope
	classes         *program.Classes
	class           api.ClassDecl
	result          api.Type
	insns           []api.Insn
	handlers        []api.Handler
	places          []int
	height, highest int
	monitors        []*monitor
	returned        variable // holds the result while monitors are left
}

func (g *generator) emit(i api.Insn) {
	pops, pushes := effect(i)
	g.height = max(0, g.height-pops) + pushes
	g.highest = max(g.highest, g.height)
	g.insns = append(g.insns, i)
}

func (g *generator) op(op int) { g.emit(api.Insn{Op: op}) }

func (g *generator) load(v variable) { g.emit(api.Insn{Op: api.ILoad + int(v.kind), A: v.slot}) }

func (g *generator) store(v variable) { g.emit(api.Insn{Op: api.IStore + int(v.kind), A: v.slot}) }

func (g *generator) label() int {
	g.places = append(g.places, 0)
	return len(g.places) - 1
}

func (g *generator) place(label int) { g.places[label] = len(g.insns) }

func (g *generator) jump(op, label int) { g.emit(api.Insn{Op: op, To: label}) }

// code returns the finished code.
func (g *generator) code() api.Code {
	for n := range g.insns {
		if op := g.insns[n].Op; op >= api.IfEq && op <= api.Goto {
			g.insns[n].To = g.places[g.insns[n].To]
		}
	}
	return api.Code{Stack: g.highest, Locals: g.most, Insns: g.insns, Handlers: g.handlers}
}

func (g *generator) block(l []program.Stmt) {
	n := len(g.variables)
	for _, s := range l {
		g.stmt(s)
	}
	g.leave(n)
}

func (g *generator) stmt(s program.Stmt) {
	t := s.Source
	switch t.Kind {
	case api.SLocal:
		g.expr(s.Expr)
		g.store(g.declare(t.Name, t.Type))
	case api.SAssign:
		g.assign(s)
	case api.SExpr:
		g.expr(s.Expr)
		if s.Expr.Type.Base != 'V' {
			g.op(api.Pop)
		}
	case api.SIf:
		g.choice(s)
	case api.SWhile:
		g.loop(s)
	case api.SReturn:
		g.giveBack(s)
	case api.SThrow:
		g.expr(s.Expr)
		g.op(api.AThrow)
	case api.STry:
		g.try(s)
	case api.SSync:
		g.sync(s)
	case api.SBlock:
		g.block(s.Body)
	case api.SSuper:
		g.op(api.ALoad)
		g.exprs(s.Expr.Args)
		g.construct(s.Expr)
	}
}

func (g *generator) assign(s program.Stmt) {
	x := s.Target
	g.exprs(x.Args)
	g.expr(s.Expr)
	switch x.Source.Kind {
	case api.ELocal:
		g.store(g.find(x.Source.S))
	case api.EField:
		g.emit(api.Insn{Op: api.PutField, Ref: fieldRef(x)})
	case api.EStaticField:
		g.emit(api.Insn{Op: api.PutStatic, Ref: fieldRef(x)})
	case api.EIndex:
		g.op(api.IAStore + int(kindOf(x.Type)))
	}
}

func (g *generator) choice(s program.Stmt) {
	other, end := g.label(), g.label()
	g.condition(s.Expr, other, false)
	g.block(s.Body)
	if len(s.Alternative) > 0 && !program.Terminates(s.Source.Body) {
		g.jump(api.Goto, end)
	}
	g.place(other)
	g.block(s.Alternative)
	g.place(end)
}

func (g *generator) loop(s program.Stmt) {
	begin, end := g.label(), g.label()
	g.place(begin)
	g.condition(s.Expr, end, false)
	g.block(s.Body)
	if !program.Terminates(s.Source.Body) {
		g.jump(api.Goto, begin)
	}
	g.place(end)
}

func (g *generator) giveBack(s program.Stmt) {
	void := g.result.Base == 'V'
	if !void {
		g.expr(s.Expr)
	}
	switch {
	case len(g.monitors) > 0:
		if !void {
			g.store(g.returned)
		}
		g.unwind()
	case void:
		g.op(api.Return)
	default:
		g.op(api.IReturn + int(kindOf(g.result)))
	}
}

// unwind leaves the innermost monitor, or the method if there is none. The result is in a variable.
func (g *generator) unwind() {
	if n := len(g.monitors); n > 0 {
		g.monitors[n-1].used = true
		g.jump(api.Goto, g.monitors[n-1].exit)
	} else if g.result.Base == 'V' {
		g.op(api.Return)
	} else {
		g.load(g.returned)
		g.op(api.IReturn + int(kindOf(g.result)))
	}
}

func (g *generator) try(s program.Stmt) {
	if len(g.insns) == 0 {
		// An exception of the initializer of the class is thrown at instruction 0, outside of the method's statements.
		g.op(api.Nop)
	}
	from, after := len(g.insns), g.label()
	g.block(s.Body)
	to := len(g.insns)
	if from == to {
		return
	}
	if !program.Terminates(s.Source.Body) {
		g.jump(api.Goto, after)
	}
	g.handlers = append(g.handlers, api.Handler{From: from, To: to, Target: len(g.insns), Type: s.Source.Type.Name})
	n := len(g.variables)
	g.catch(g.declare(s.Source.Name, s.Source.Type))
	g.block(s.Alternative)
	g.leave(n)
	g.place(after)
}

// catch stores the exception with which a handler begins.
func (g *generator) catch(v variable) {
	g.height = 1
	g.highest = max(g.highest, 1)
	g.store(v)
}

func (g *generator) unlock(m *monitor) {
	g.load(m.lock)
	g.op(api.MonitorExit)
}

func (g *generator) sync(s program.Stmt) {
	n := len(g.variables)
	if len(g.monitors) == 0 && g.result.Base != 'V' {
		g.returned = g.declare("", g.result)
	}
	object := api.Type{Base: 'L'}
	g.expr(s.Expr)
	m := &monitor{lock: g.declare("", object), exit: g.label()}
	after := g.label()
	g.op(api.Dup)
	g.store(m.lock)
	g.op(api.MonitorEnter)
	g.monitors = append(g.monitors, m)
	from := len(g.insns)
	g.block(s.Body)
	to := len(g.insns)
	g.monitors = g.monitors[:len(g.monitors)-1]
	if !program.Terminates(s.Source.Body) {
		g.unlock(m)
		g.jump(api.Goto, after)
	}
	if from < to {
		g.handlers = append(g.handlers, api.Handler{From: from, To: to, Target: len(g.insns)})
		thrown := g.declare("", object)
		g.catch(thrown)
		g.unlock(m)
		g.load(thrown)
		g.op(api.AThrow)
	}
	if m.used {
		g.place(m.exit)
		g.unlock(m)
		g.unwind()
	}
	g.leave(n)
	g.place(after)
}
