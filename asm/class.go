package asm

import "armature/api"

// parser goes through the lines of a class; line is the current one.
type parser struct {
	line
	lines []string
	at    int
}

// advance makes the next line that is not a comment the current one.
func (p *parser) advance() {
	for p.at < len(p.lines) && isComment(p.lines[p.at]) {
		p.at++
	}
	if p.at == len(p.lines) {
		panic(failure{len(p.lines) + 1, api.ErrTruncated})
	}
	p.at++
	p.line = line{number: p.at, rest: split(p.lines[p.at-1], p.at)}
}

// finish requires the end of the current line and goes on to the next one.
func (p *parser) finish() {
	p.end()
	p.advance()
}

func dash(s, stands string) string {
	if s == stands {
		return ""
	}
	return s
}

func (p *parser) class() api.ClassModel {
	var u api.ClassModel
	p.advance()
	p.expect("class")
	u.Flags, u.Name = p.integer(), p.word()
	p.expect("extends")
	u.Super = dash(p.word(), "-")
	p.finish()
	for p.accept("implements") {
		u.Interfaces = append(u.Interfaces, p.word())
		p.finish()
	}
	if p.accept("source") {
		u.Source = p.literal()
		p.finish()
	}
	for p.accept("field") {
		u.Fields = append(u.Fields, p.field())
		p.finish()
	}
	for p.accept("method") {
		u.Methods = append(u.Methods, p.method())
		p.finish()
	}
	p.expect("end")
	p.end()
	return u
}

func (p *parser) field() api.Field {
	f := api.Field{Flags: p.integer(), Name: p.word(), Desc: p.word()}
	if p.accept("=") {
		f.Const, f.N, f.S = p.value()
	}
	return f
}

// method reads a method up to its line end, which remains the current one.
func (p *parser) method() api.Method {
	m := api.Method{Flags: p.integer(), Name: p.word(), Desc: p.word()}
	p.finish()
	for p.accept("throws") {
		m.Exceptions = append(m.Exceptions, p.word())
		p.finish()
	}
	if p.accept("code") {
		m.HasCode = true
		m.Code = p.code()
	}
	p.expect("end")
	return m
}

func (p *parser) code() api.Code {
	c := api.Code{Stack: p.integer(), Locals: p.integer()}
	p.finish()
	for p.next() != "catch" && p.next() != "end" {
		p.codeLine(&c)
		p.finish()
	}
	for p.accept("catch") {
		c.Handlers = append(c.Handlers, api.Handler{From: p.integer(), To: p.integer(), Target: p.integer(), Type: dash(p.word(), "*")})
		p.finish()
	}
	return c
}

func (p *parser) codeLine(c *api.Code) {
	n := len(c.Insns)
	switch {
	case p.accept("line"):
		c.Lines = append(c.Lines, api.LineEntry{Index: n, Line: p.integer()})
	case p.accept("label"):
		if p.integer() != n {
			p.fail()
		}
	case p.accept("map"):
		c.StackMaps = append(c.StackMaps, api.StackMap{Index: n, Frame: p.frame()})
	default:
		c.Insns = append(c.Insns, p.instruction())
	}
}
