package program

import (
	"armature/api"
	"armature/ast"
	"slices"
	"strings"
)

// Method is a method with its typed body. CallsSuper tells that a constructor begins with a call of the superclass constructor.
type Method struct {
	Decl       api.MethodDecl
	Body       []Stmt
	CallsSuper bool
}

// Class is a class with typed bodies. NeedsConstructor tells that it has the constructor without parameters that is not declared.
type Class struct {
	Decl             api.ClassDecl
	Methods          []Method
	StaticInit       []Stmt
	NeedsConstructor bool
}

// Program is a program that has been checked.
type Program struct {
	*Classes
	Own []Class
}

// Problem is where a program is wrong: in a class, and in a member of it or in the class itself.
type Problem struct {
	Class, Member string
	Err           api.Errno
}

// Analyze checks a program and returns it with types.
func Analyze(l []api.ClassDecl) (*Program, Problem) {
	if s, e := ast.Check(l); e != api.OK {
		return nil, Problem{s, "", e}
	}
	p := &Program{Classes: NewClasses(l)}
	for _, pass := range [5]func(*api.ClassDecl) (string, api.Errno){p.names, p.circles, p.supertypes, p.overriding, p.implementations} {
		for i := range l {
			if s, e := pass(&l[i]); e != api.OK {
				return nil, Problem{l[i].Name, s, e}
			}
		}
	}
	for i := range l {
		c, s, e := p.bodies(i)
		if e != api.OK {
			return nil, Problem{l[i].Name, s, e}
		}
		p.Own = append(p.Own, c)
	}
	return p, Problem{}
}

// names is pass 1.
func (p *Program) names(d *api.ClassDecl) (string, api.Errno) {
	known := func(s string) bool { _, ok := p.Find(s); return ok }
	if strings.HasPrefix(d.Name, "lang/") || !known(d.Super) || slices.ContainsFunc(d.Interfaces, func(s string) bool { return !known(s) }) {
		return "", api.ErrScope
	}
	for _, f := range d.Fields {
		if !p.Known(f.Type) {
			return f.Name, api.ErrScope
		}
	}
	for _, m := range d.Methods {
		if !p.Known(m.Result) || slices.ContainsFunc(m.Params, func(x api.Param) bool { return !p.Known(x.Type) }) {
			return m.Name, api.ErrScope
		}
	}
	return "", api.OK
}

// circles is pass 2.
func (p *Program) circles(d *api.ClassDecl) (string, api.Errno) {
	if slices.Contains(p.Superclasses(d.Super), d.Name) || slices.Contains(p.reach(nil, d.Interfaces), d.Name) {
		return "", api.ErrCircularity
	}
	return "", api.OK
}

// supertypes is pass 3.
func (p *Program) supertypes(d *api.ClassDecl) (string, api.Errno) {
	s, _ := p.Find(d.Super)
	if s.Flags&(api.Final|api.Interface) != 0 || slices.ContainsFunc(d.Interfaces, func(s string) bool { return !p.IsInterface(s) }) {
		return "", api.ErrBadSuper
	}
	return "", api.OK
}

func sameTypes(a, b api.MethodDecl) bool {
	return a.Result == b.Result && slices.EqualFunc(a.Params, b.Params, func(x, y api.Param) bool { return x.Type == y.Type })
}

// visibility orders access from private to public.
func visibility(flags int) int {
	switch {
	case flags&api.Public != 0:
		return 3
	case flags&api.Protected != 0:
		return 2
	case flags&api.Private != 0:
		return 0
	}
	return 1
}

// overriding is pass 4.
func (p *Program) overriding(d *api.ClassDecl) (string, api.Errno) {
	above := p.Superclasses(d.Name)[1:]
	for _, f := range d.Fields {
		for _, s := range above {
			c, _ := p.Find(s)
			if slices.ContainsFunc(c.Fields, func(g api.FieldDecl) bool { return g.Name == f.Name }) {
				return f.Name, api.ErrExprType
			}
		}
	}
	above = slices.Concat(above, p.Interfaces(d.Name))
	for _, m := range d.Methods {
		if m.Name == Constructor {
			continue
		}
		for _, s := range above {
			if n, ok := p.Declared(s, m.Name, len(m.Params)); ok && !mayOverride(m, n) {
				return m.Name, api.ErrExprType
			}
		}
	}
	return "", api.OK
}

func mayOverride(m, n api.MethodDecl) bool {
	if n.Flags&api.Private != 0 {
		return true
	}
	return sameTypes(m, n) && m.Flags&api.Static == n.Flags&api.Static && visibility(m.Flags) >= visibility(n.Flags) && n.Flags&api.Final == 0
}

// implementations is pass 5.
func (p *Program) implementations(d *api.ClassDecl) (string, api.Errno) {
	if d.Flags&api.Abstract != 0 {
		return "", api.OK
	}
	for k, places := range [2][]string{p.Superclasses(d.Name), p.Interfaces(d.Name)} {
		for _, s := range places {
			c, _ := p.Find(s)
			for _, m := range c.Methods {
				needed := m.Flags&api.Abstract != 0
				if k == 1 {
					needed = m.Flags&api.Static == 0
				}
				if needed && !p.isImplemented(d.Name, m) {
					return m.Name, api.ErrIncomplete
				}
			}
		}
	}
	return "", api.OK
}

func (p *Program) isImplemented(class string, m api.MethodDecl) bool {
	for _, s := range p.Superclasses(class) {
		if n, ok := p.Declared(s, m.Name, len(m.Params)); ok {
			return n.Flags&(api.Abstract|api.Static|api.Private) == 0 && sameTypes(m, n)
		}
	}
	specific := p.Specific(class, m.Name, len(m.Params))
	if len(specific) != 1 {
		return false
	}
	n, _ := p.Declared(specific[0], m.Name, len(m.Params))
	return n.HasBody && sameTypes(m, n)
}

// bodies is pass 6.
func (p *Program) bodies(i int) (Class, string, api.Errno) {
	d := p.list[i]
	c := Class{Decl: d}
	ck := Checker{p.Classes, api.Scope{Class: i}}
	for _, m := range d.Methods {
		x := Method{Decl: m}
		var e api.Errno
		if m.HasBody {
			x, e = ck.body(m)
		}
		if e != api.OK {
			return c, m.Name, e
		}
		c.Methods = append(c.Methods, x)
	}
	if d.Flags&api.Interface == 0 && !ck.declaresConstructor(d.Name) {
		c.NeedsConstructor = true
		if e := ck.constructorCall(&Expr{}, d.Super); e != api.OK {
			return c, Constructor, e
		}
	}
	ck.Scope.Static = true
	ck.Scope.Result = api.Type{Base: 'V'}
	var e api.Errno
	if c.StaticInit, e = ck.Block(d.StaticInit); e != api.OK {
		return c, "<clinit>", e
	}
	return c, "", api.OK
}

func (c Checker) body(m api.MethodDecl) (Method, api.Errno) {
	x := Method{Decl: m}
	for i, a := range m.Params {
		if slices.ContainsFunc(m.Params[:i], func(b api.Param) bool { return b.Name == a.Name }) {
			return x, api.ErrScope
		}
	}
	c.Scope.Static = m.Flags&api.Static != 0
	c.Scope.Result = m.Result
	c.Scope.Locals = m.Params
	x.CallsSuper = len(m.Body) > 0 && m.Body[0].Kind == api.SSuper
	if m.Name == Constructor && !x.CallsSuper {
		if e := c.constructorCall(&Expr{}, c.current().Super); e != api.OK {
			return x, e
		}
	}
	var e api.Errno
	if x.Body, e = c.Block(m.Body); e != api.OK {
		return x, e
	}
	if m.Result.Base != 'V' && !Terminates(m.Body) {
		return x, api.ErrIncomplete
	}
	return x, api.OK
}
