package parse

import "armature/api"

// flags takes modifiers in the given order, each at most once.
func (p *parser) flags(words ...string) int {
	flags := 0
	for _, w := range words {
		if p.accept(w) {
			flags |= flagOf(w)
		}
	}
	return flags
}

func flagOf(word string) int {
	switch word {
	case "public":
		return api.Public
	case "private":
		return api.Private
	case "protected":
		return api.Protected
	case "static":
		return api.Static
	case "final":
		return api.Final
	case "sync":
		return api.Synchronized
	}
	return api.Abstract
}

// names reads a list of classes after a keyword, if it is there.
func (p *parser) names(word string) []string {
	if !p.accept(word) {
		return nil
	}
	l := []string{p.className()}
	for p.accept(",") {
		l = append(l, p.className())
	}
	return l
}

func (p *parser) class() api.ClassDecl {
	c := api.ClassDecl{Flags: p.flags("public")}
	if p.accept("interface") {
		c.Flags |= api.Interface | api.Abstract
		c.Name = p.className()
		c.Super = "lang/Object"
		c.Interfaces = p.names("extends")
	} else {
		c.Flags |= p.flags("final", "abstract")
		p.expect("class")
		c.Name = p.className()
		p.expect("extends")
		c.Super = p.className()
		c.Interfaces = p.names("implements")
	}
	p.expect("{")
	for !p.accept("}") {
		p.member(&c)
	}
	return c
}

func (p *parser) member(c *api.ClassDecl) {
	flags := p.flags("public", "private", "protected", "static", "final", "sync", "abstract")
	switch {
	case flags == api.Static && p.sees("{"):
		c.StaticInit = append(c.StaticInit, p.block()...)
	case p.accept("new"):
		m := api.MethodDecl{Flags: flags, Name: "<init>", Result: api.Type{Base: 'V'}, Params: p.params(), HasBody: true}
		m.Body = p.block()
		c.Methods = append(c.Methods, m)
	case p.accept("void"):
		c.Methods = append(c.Methods, p.method(flags, api.Type{Base: 'V'}, p.identifier()))
	default:
		t := p.typ()
		name := p.identifier()
		if p.accept(";") {
			c.Fields = append(c.Fields, api.FieldDecl{Flags: flags, Type: t, Name: name})
		} else {
			c.Methods = append(c.Methods, p.method(flags, t, name))
		}
	}
}

func (p *parser) method(flags int, result api.Type, name string) api.MethodDecl {
	m := api.MethodDecl{Flags: flags, Result: result, Name: name, Params: p.params()}
	if !p.accept(";") {
		m.HasBody = true
		m.Body = p.block()
	}
	return m
}

func (p *parser) params() []api.Param {
	p.expect("(")
	if p.accept(")") {
		return nil
	}
	var l []api.Param
	for {
		l = append(l, api.Param{Type: p.typ(), Name: p.identifier()})
		if !p.accept(",") {
			p.expect(")")
			return l
		}
	}
}

func (p *parser) block() []api.Stmt {
	p.expect("{")
	var l []api.Stmt
	for !p.accept("}") {
		l = append(l, p.stmt())
	}
	return l
}

// stmt selects the rule for a statement by its first token.
func (p *parser) stmt() api.Stmt {
	rule := p.expressionStmt
	switch t := p.next(); {
	case isMark(t, "if"):
		rule = p.ifStmt
	case isMark(t, "while"), isMark(t, "sync"):
		rule = p.conditionStmt
	case isMark(t, "return"), isMark(t, "throw"):
		rule = p.leavingStmt
	case isMark(t, "try"):
		rule = p.tryStmt
	case isMark(t, "{"):
		rule = p.blockStmt
	case isMark(t, "super") && !isMark(p.after(), "."):
		rule = p.superStmt
	case p.seesVariable():
		rule = p.variableStmt
	}
	return rule()
}

// seesVariable reports whether a type begins here rather than an expression.
func (p *parser) seesVariable() bool {
	t, u := p.next(), p.after()
	if isMark(t, "int") || isMark(t, "long") {
		return !isMark(u, "(")
	}
	return isClassToken(t) && !isMark(u, ".")
}

func (p *parser) condition() api.Expr {
	p.expect("(")
	e := p.expr()
	p.expect(")")
	return e
}

func (p *parser) ifStmt() api.Stmt {
	p.expect("if")
	s := api.Stmt{Kind: api.SIf, Expr: p.condition(), Body: p.block()}
	if p.accept("else") {
		s.Alternative = p.block()
	}
	return s
}

func (p *parser) conditionStmt() api.Stmt {
	kind := api.SWhile
	if !p.accept("while") {
		p.expect("sync")
		kind = api.SSync
	}
	return api.Stmt{Kind: kind, Expr: p.condition(), Body: p.block()}
}

func (p *parser) leavingStmt() api.Stmt {
	s := api.Stmt{Kind: api.SThrow}
	if p.accept("return") {
		s.Kind = api.SReturn
		if p.accept(";") {
			return s
		}
	} else {
		p.expect("throw")
	}
	s.Expr = p.expr()
	p.expect(";")
	return s
}

func (p *parser) tryStmt() api.Stmt {
	p.expect("try")
	s := api.Stmt{Kind: api.STry, Body: p.block()}
	p.expect("catch", "(")
	s.Type, s.Name = p.typ(), p.identifier()
	p.expect(")")
	s.Alternative = p.block()
	return s
}

func (p *parser) blockStmt() api.Stmt { return api.Stmt{Kind: api.SBlock, Body: p.block()} }

func (p *parser) superStmt() api.Stmt {
	p.expect("super")
	s := api.Stmt{Kind: api.SSuper}
	if !p.sees("(") {
		// Both ( and . may follow here, but the latter has been ruled out.
		p.fail()
	}
	s.Expr.Args = p.arguments()
	p.expect(";")
	return s
}

func (p *parser) variableStmt() api.Stmt {
	s := api.Stmt{Kind: api.SLocal, Type: p.typ(), Name: p.identifier()}
	p.expect("=")
	s.Expr = p.expr()
	p.expect(";")
	return s
}

func (p *parser) expressionStmt() api.Stmt {
	e := p.expr()
	s := api.Stmt{Kind: api.SExpr, Expr: e}
	if p.accept("=") {
		s = api.Stmt{Kind: api.SAssign, Target: e, Expr: p.expr()}
	}
	p.expect(";")
	return s
}
