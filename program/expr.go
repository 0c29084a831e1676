package program

import (
	"armature/api"
	"slices"
	"strings"
)

// Expr is an expression with its type. Owner is the class that declares the field or method that the expression names.
type Expr struct {
	Source api.Expr
	Type   api.Type
	Args   []Expr
	Owner  string
	Field  api.FieldDecl
	Method api.MethodDecl
}

// Checker checks expressions and statements in a scope. The class of the scope must exist.
type Checker struct {
	*Classes
	Scope api.Scope
}

// NewChecker returns a checker for a scope.
func NewChecker(s api.Scope) Checker { return Checker{NewClasses(s.Decls), s} }

func (c Checker) current() *api.ClassDecl { return &c.list[c.Scope.Class] }

func (c Checker) accessible(owner string, flags int) bool {
	return flags&api.Private == 0 || owner == c.current().Name
}

func intType() api.Type { return api.Type{Base: 'I'} }

func longType() api.Type { return api.Type{Base: 'J'} }

func isInt(t api.Type) bool { return t == intType() }

func isLong(t api.Type) bool { return t == longType() }

func class(s string) api.Type { return api.Type{Base: 'L', Name: s} }

// exprs types operands in order.
func (c Checker) exprs(l []api.Expr) ([]Expr, api.Errno) {
	var r []Expr
	for _, e := range l {
		x, err := c.Expr(e)
		if err != api.OK {
			return nil, err
		}
		r = append(r, x)
	}
	return r, api.OK
}

// Expr returns a well-formed expression with its type.
func (c Checker) Expr(e api.Expr) (Expr, api.Errno) {
	args, err := c.exprs(e.Args)
	if err != api.OK {
		return Expr{}, err
	}
	x := Expr{Source: e, Args: args}
	switch e.Kind {
	case api.EInt, api.ELong, api.EString, api.ENull, api.EThis, api.ELocal:
		err = c.leaf(&x)
	case api.EField, api.EStaticField:
		err = c.field(&x)
	case api.EIndex, api.ELength, api.ENewArray:
		err = c.array(&x)
	case api.EMethodCall, api.EStaticCall, api.ESuperCall, api.ENew:
		err = c.call(&x)
	case api.ECast, api.EInstanceOf:
		err = c.test(&x)
	default:
		err = operator(&x, c)
	}
	if err != api.OK {
		return Expr{}, err
	}
	return x, api.OK
}

func (c Checker) leaf(x *Expr) api.Errno {
	switch x.Source.Kind {
	case api.EInt:
		x.Type = intType()
	case api.ELong:
		x.Type = longType()
	case api.EString:
		x.Type = class("lang/String")
	case api.ENull:
		x.Type = Null()
	case api.EThis:
		if c.Scope.Static || c.Scope.InSuperArgs {
			return api.ErrScope
		}
		x.Type = class(c.current().Name)
	case api.ELocal:
		i := slices.IndexFunc(c.Scope.Locals, func(p api.Param) bool { return p.Name == x.Source.S })
		if i < 0 {
			return api.ErrScope
		}
		x.Type = c.Scope.Locals[i].Type
	}
	return api.OK
}

func (c Checker) field(x *Expr) api.Errno {
	owner, static := x.Source.Class, true
	if x.Source.Kind == api.EField {
		t := x.Args[0].Type
		if !IsReference(t) {
			return api.ErrExprType
		}
		owner, static = MemberClass(t), false
	}
	d, f, ok := c.FindField(owner, x.Source.S)
	if !ok || (f.Flags&api.Static != 0) != static || !c.accessible(d, f.Flags) {
		return api.ErrScope
	}
	x.Owner, x.Field, x.Type = d, f, f.Type
	return api.OK
}

func (c Checker) array(x *Expr) api.Errno {
	t := x.Args[0].Type
	switch x.Source.Kind {
	case api.EIndex:
		if t.Dim <= 0 || !isInt(x.Args[1].Type) {
			return api.ErrExprType
		}
		t.Dim--
		x.Type = t
	case api.ELength:
		if t.Dim <= 0 {
			return api.ErrExprType
		}
		x.Type = intType()
	case api.ENewArray:
		if !c.Known(x.Source.Type) {
			return api.ErrScope
		}
		if !isInt(t) || x.Source.Type.Dim >= api.MaxDimensions {
			return api.ErrExprType
		}
		x.Type = x.Source.Type
		x.Type.Dim++
	}
	return api.OK
}

// fits reports whether arguments can be passed to a method.
func (c Checker) fits(args []Expr, m api.MethodDecl) bool {
	for i, p := range m.Params {
		if !c.Assignable(args[i].Type, p.Type) {
			return false
		}
	}
	return true
}

func (c Checker) call(x *Expr) api.Errno {
	switch x.Source.Kind {
	case api.EMethodCall:
		t := x.Args[0].Type
		if !IsReference(t) {
			return api.ErrExprType
		}
		return c.methodCall(x, MemberClass(t), x.Args[1:], false)
	case api.EStaticCall:
		return c.methodCall(x, x.Source.Class, x.Args, true)
	case api.ESuperCall:
		if !c.canCallSuper(x.Source.S, len(x.Args)) {
			return api.ErrScope
		}
		return c.methodCall(x, c.current().Super, x.Args, false)
	}
	d, ok := c.Find(x.Source.Class)
	if !ok {
		return api.ErrScope
	}
	if d.Flags&(api.Abstract|api.Interface) != 0 {
		return api.ErrExprType
	}
	x.Type = class(d.Name)
	return c.constructorCall(x, d.Name)
}

func (c Checker) methodCall(x *Expr, owner string, args []Expr, static bool) api.Errno {
	d, m, ok := c.FindMethod(owner, x.Source.S, len(args))
	if !ok || (m.Flags&api.Static != 0) != static || !c.accessible(d, m.Flags) {
		return api.ErrScope
	}
	if !c.fits(args, m) {
		return api.ErrExprType
	}
	x.Owner, x.Method, x.Type = d, m, m.Result
	return api.OK
}

// canCallSuper reports whether there is one implementation of a method above the current class.
func (c Checker) canCallSuper(s string, n int) bool {
	if c.Scope.Static || c.Scope.InSuperArgs || c.current().Flags&api.Interface != 0 {
		return false
	}
	super := c.current().Super
	if _, m, ok := c.FindMethod(super, s, n); ok && m.Flags&api.Abstract != 0 {
		return false
	}
	for _, k := range c.Superclasses(super) {
		if _, ok := c.Declared(k, s, n); ok {
			return true
		}
	}
	specific := c.Specific(super, s, n)
	if len(specific) != 1 {
		return false
	}
	m, _ := c.Declared(specific[0], s, n)
	return m.HasBody
}

// constructorCall looks the constructor of a class up for the operands of x.
func (c Checker) constructorCall(x *Expr, owner string) api.Errno {
	m, ok := c.Declared(owner, Constructor, len(x.Args))
	if !ok && len(x.Args) == 0 && c.IsOwn(owner) && !c.declaresConstructor(owner) {
		ok = true
		m = api.MethodDecl{Flags: api.Public, Name: Constructor, Result: api.Type{Base: 'V'}, HasBody: true}
	}
	if !ok || !c.accessible(owner, m.Flags) {
		return api.ErrScope
	}
	if !c.fits(x.Args, m) {
		return api.ErrExprType
	}
	x.Owner, x.Method = owner, m
	return api.OK
}

func (c Checker) declaresConstructor(s string) bool {
	d, _ := c.Find(s)
	return slices.ContainsFunc(d.Methods, func(m api.MethodDecl) bool { return m.Name == Constructor })
}

func (c Checker) test(x *Expr) api.Errno {
	t, u := x.Args[0].Type, x.Source.Type
	if !c.Known(u) {
		return api.ErrScope
	}
	iface := func(t api.Type) bool { return t.Base == 'L' && t.Dim == 0 && c.IsInterface(t.Name) }
	if !IsReference(t) || !IsReference(u) || !c.Assignable(t, u) && !c.Assignable(u, t) && !iface(t) && !iface(u) {
		return api.ErrExprType
	}
	x.Type = u
	if x.Source.Kind == api.EInstanceOf {
		x.Type = intType()
	}
	return api.OK
}

// operator types the kinds that compute with numbers or compare.
func operator(x *Expr, c Checker) api.Errno {
	t := x.Args[0].Type
	ok := false
	switch x.Source.Kind {
	case api.EToInt:
		ok, x.Type = isLong(t), intType()
	case api.EToLong:
		ok, x.Type = isInt(t), longType()
	case api.EUnary:
		ok, x.Type = isInt(t) || isLong(t) && x.Source.S == "-", t
	case api.EBinary:
		ok, x.Type = binary(x.Source.S, t, x.Args[1].Type, c)
	}
	if !ok {
		return api.ErrExprType
	}
	return api.OK
}

func binary(s string, a, b api.Type, c Checker) (bool, api.Type) {
	numbers := a == b && (isInt(a) || isLong(a))
	switch {
	case strings.Contains("+-*/%", s):
		return numbers, a
	case s == "==" || s == "!=":
		return numbers || IsReference(a) && IsReference(b) && (c.Assignable(a, b) || c.Assignable(b, a)), intType()
	case s == "<" || s == "<=" || s == ">" || s == ">=":
		return numbers, intType()
	}
	return numbers && isInt(a), intType()
}
