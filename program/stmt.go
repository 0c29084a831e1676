package program

import (
	"armature/api"
	"slices"
)

// Stmt is a statement with typed expressions. In a call of the superclass constructor Expr has the operands and the constructor.
type Stmt struct {
	Source            api.Stmt
	Target, Expr      Expr
	Body, Alternative []Stmt
}

// Terminates reports whether control cannot reach the end of a list of statements.
func Terminates(l []api.Stmt) bool {
	if len(l) == 0 {
		return false
	}
	switch s := l[len(l)-1]; s.Kind {
	case api.SReturn, api.SThrow:
		return true
	case api.SBlock, api.SSync:
		return Terminates(s.Body)
	case api.SIf, api.STry:
		return Terminates(s.Body) && Terminates(s.Alternative)
	}
	return false
}

// Block checks the statements of a block.
func (c Checker) Block(l []api.Stmt) ([]Stmt, api.Errno) {
	var r []Stmt
	for i, t := range l {
		if i > 0 && Terminates(l[i-1:i]) {
			return nil, api.ErrIncomplete
		}
		s, next, e := c.Stmt(t)
		if e != api.OK {
			return nil, e
		}
		c = next
		r = append(r, s)
	}
	return r, api.OK
}

func (c Checker) hasLocal(s string) bool {
	return slices.ContainsFunc(c.Scope.Locals, func(p api.Param) bool { return p.Name == s })
}

func (c Checker) with(t api.Type, s string) Checker {
	c.Scope.Locals = append(slices.Clip(c.Scope.Locals), api.Param{Type: t, Name: s})
	return c
}

// Stmt checks a well-formed statement and returns it with the checker for the scope after it.
func (c Checker) Stmt(t api.Stmt) (Stmt, Checker, api.Errno) {
	s := Stmt{Source: t}
	next := c
	e := api.OK
	switch t.Kind {
	case api.SLocal:
		next, e = c.variable(&s)
	case api.SAssign:
		e = c.assign(&s)
	case api.SExpr:
		s.Expr, e = c.Expr(t.Expr)
	case api.SIf, api.SWhile:
		e = c.guarded(&s, func(x api.Type) bool { return isInt(x) })
	case api.SSync:
		e = c.guarded(&s, IsReference)
	case api.SReturn:
		e = c.leave(&s)
	case api.SThrow:
		if s.Expr, e = c.Expr(t.Expr); e == api.OK && !c.Assignable(s.Expr.Type, class(throwable)) {
			e = api.ErrExprType
		}
	case api.STry:
		e = c.try(&s)
	case api.SBlock:
		s.Body, e = c.Block(t.Body)
	case api.SSuper:
		e = c.super(&s)
	}
	if e != api.OK {
		return Stmt{}, c, e
	}
	return s, next, api.OK
}

func (c Checker) variable(s *Stmt) (Checker, api.Errno) {
	t := s.Source
	if !c.Known(t.Type) || c.hasLocal(t.Name) {
		return c, api.ErrScope
	}
	var e api.Errno
	if s.Expr, e = c.Expr(t.Expr); e != api.OK {
		return c, e
	}
	if !c.Assignable(s.Expr.Type, t.Type) {
		return c, api.ErrExprType
	}
	return c.with(t.Type, t.Name), api.OK
}

func (c Checker) assign(s *Stmt) api.Errno {
	var e api.Errno
	if s.Target, e = c.Expr(s.Source.Target); e != api.OK {
		return e
	}
	if s.Expr, e = c.Expr(s.Source.Expr); e != api.OK {
		return e
	}
	if !c.Assignable(s.Expr.Type, s.Target.Type) {
		return api.ErrExprType
	}
	return api.OK
}

// guarded checks a statement with an expression of a certain kind before its blocks.
func (c Checker) guarded(s *Stmt, fits func(api.Type) bool) api.Errno {
	var e api.Errno
	if s.Expr, e = c.Expr(s.Source.Expr); e != api.OK {
		return e
	}
	if !fits(s.Expr.Type) {
		return api.ErrExprType
	}
	if s.Body, e = c.Block(s.Source.Body); e != api.OK {
		return e
	}
	s.Alternative, e = c.Block(s.Source.Alternative)
	return e
}

func (c Checker) leave(s *Stmt) api.Errno {
	void := c.Scope.Result.Base == 'V'
	if s.Source.Expr.Kind == 0 {
		if !void {
			return api.ErrExprType
		}
		return api.OK
	}
	var e api.Errno
	if s.Expr, e = c.Expr(s.Source.Expr); e != api.OK {
		return e
	}
	if void || !c.Assignable(s.Expr.Type, c.Scope.Result) {
		return api.ErrExprType
	}
	return api.OK
}

func (c Checker) try(s *Stmt) api.Errno {
	t := s.Source
	if !c.Known(t.Type) || c.hasLocal(t.Name) {
		return api.ErrScope
	}
	if !c.Assignable(t.Type, class(throwable)) {
		return api.ErrExprType
	}
	var e api.Errno
	if s.Body, e = c.Block(t.Body); e != api.OK {
		return e
	}
	s.Alternative, e = c.with(t.Type, t.Name).Block(t.Alternative)
	return e
}

func (c Checker) super(s *Stmt) api.Errno {
	if c.Scope.Static {
		return api.ErrScope
	}
	c.Scope.InSuperArgs = true
	var e api.Errno
	s.Expr.Source = s.Source.Expr
	if s.Expr.Args, e = c.exprs(s.Source.Expr.Args); e != api.OK {
		return e
	}
	return c.constructorCall(&s.Expr, c.current().Super)
}
