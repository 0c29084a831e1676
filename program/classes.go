// Package program resolves names and types of source programs.
// Package typecheck (56) tells the outcome; codegen (57) and evaluator (58) go on with the trees in which every name has been resolved.
package program

import (
	"armature/api"
	"armature/builtin"
	"armature/desc"
	"slices"
)

const (
	root      = "lang/Object"
	throwable = "lang/Throwable"
	// Constructor is the name of constructors.
	Constructor = "<init>"
)

// Classes are the classes of a program and the built-in ones.
type Classes struct {
	list   []api.ClassDecl
	own    int // the number of classes of the program, which come first
	index  map[string]int
	supers map[string][]string
	ifaces map[string][]string
}

// NewClasses adds the built-in classes to those of a program.
func NewClasses(l []api.ClassDecl) *Classes {
	c := &Classes{list: slices.Concat(l, builtins()), own: len(l), index: map[string]int{}, supers: map[string][]string{}, ifaces: map[string][]string{}}
	for i, d := range c.list {
		if _, ok := c.index[d.Name]; !ok {
			c.index[d.Name] = i
		}
	}
	return c
}

// builtins returns the built-in classes as declarations.
func builtins() []api.ClassDecl {
	var l []api.ClassDecl
	for _, u := range builtin.Classes() {
		c := api.ClassDecl{Flags: u.Flags, Name: u.Name, Super: u.Super}
		for _, f := range u.Fields {
			t, _ := desc.Parse(f.Desc)
			c.Fields = append(c.Fields, api.FieldDecl{Flags: f.Flags, Type: t, Name: f.Name})
		}
		for _, m := range u.Methods {
			g, _ := desc.ParseSignature(m.Desc)
			d := api.MethodDecl{Flags: m.Flags, Name: m.Name, Result: g.Result, HasBody: true}
			for _, t := range g.Params {
				d.Params = append(d.Params, api.Param{Type: t})
			}
			c.Methods = append(c.Methods, d)
		}
		l = append(l, c)
	}
	return l
}

// Find returns the first declaration of a class.
func (c *Classes) Find(s string) (*api.ClassDecl, bool) {
	i, ok := c.index[s]
	if !ok {
		return nil, false
	}
	return &c.list[i], true
}

// IsOwn reports whether a class is declared by the program.
func (c *Classes) IsOwn(s string) bool {
	i, ok := c.index[s]
	return ok && i < c.own
}

// IsInterface reports whether a class is declared as an interface.
func (c *Classes) IsInterface(s string) bool {
	d, ok := c.Find(s)
	return ok && d.Flags&api.Interface != 0
}

// Superclasses returns a class and its superclasses, nearest first.
func (c *Classes) Superclasses(s string) []string {
	if l, ok := c.supers[s]; ok {
		return l
	}
	var l []string
	for at := s; !slices.Contains(l, at); {
		d, ok := c.Find(at)
		if !ok {
			break
		}
		l = append(l, at)
		at = d.Super
	}
	c.supers[s] = l
	return l
}

// Interfaces returns the interfaces of a class, each before those that it extends.
func (c *Classes) Interfaces(s string) []string {
	if l, ok := c.ifaces[s]; ok {
		return l
	}
	var l []string
	for _, super := range c.Superclasses(s) {
		d, _ := c.Find(super)
		l = c.reach(l, d.Interfaces)
	}
	c.ifaces[s] = l
	return l
}

// reach adds interfaces and those that they extend, depth first.
func (c *Classes) reach(l, names []string) []string {
	for _, s := range names {
		d, ok := c.Find(s)
		if ok && !slices.Contains(l, s) {
			l = c.reach(append(l, s), d.Interfaces)
		}
	}
	return l
}

// IsSubtype reports whether a class is another or has it above itself.
func (c *Classes) IsSubtype(a, b string) bool {
	if a == b {
		return true
	}
	if _, ok := c.Find(a); !ok {
		return false
	}
	return b == root || slices.Contains(c.Superclasses(a), b) || slices.Contains(c.Interfaces(a), b)
}

// Null returns the type of the null literal.
func Null() api.Type { return api.Type{Dim: -1, Base: 'L', Name: root} }

// IsReference reports whether a type is a reference type.
func IsReference(t api.Type) bool { return t.Base == 'L' || t.Dim != 0 }

// MemberClass returns the class in which the members of objects of a reference type are looked up.
func MemberClass(t api.Type) string {
	if t.Dim == 0 {
		return t.Name
	}
	return root
}

// Assignable reports whether a value of type a can be assigned to type b.
func (c *Classes) Assignable(a, b api.Type) bool {
	if a == b {
		return true
	}
	if !IsReference(a) || !IsReference(b) || b == Null() {
		return false
	}
	object := b.Base == 'L' && b.Name == root
	switch {
	case a == Null(), object && b.Dim == 0:
		return true
	case a.Base == 'L' && b.Base == 'L' && a.Dim == b.Dim && c.IsSubtype(a.Name, b.Name):
		return true
	}
	return a.Dim > b.Dim && object
}

// FindField returns a field and the class that declares it.
func (c *Classes) FindField(class, s string) (string, api.FieldDecl, bool) {
	for _, super := range c.Superclasses(class) {
		d, _ := c.Find(super)
		for _, f := range d.Fields {
			if f.Name == s {
				return super, f, true
			}
		}
	}
	return "", api.FieldDecl{}, false
}

// Declared returns the method that a class itself declares.
func (c *Classes) Declared(class, s string, n int) (api.MethodDecl, bool) {
	d, ok := c.Find(class)
	if !ok {
		return api.MethodDecl{}, false
	}
	for i := range d.Methods {
		if d.Methods[i].Name == s && len(d.Methods[i].Params) == n {
			return d.Methods[i], true
		}
	}
	return api.MethodDecl{}, false
}

// FindMethod returns a method and the class that declares it.
func (c *Classes) FindMethod(class, s string, n int) (string, api.MethodDecl, bool) {
	places := []string{class}
	if s != Constructor {
		places = slices.Concat(c.Superclasses(class), c.Interfaces(class))
	}
	for _, p := range places {
		if m, ok := c.Declared(p, s, n); ok {
			return p, m, true
		}
	}
	return "", api.MethodDecl{}, false
}

// Specific returns the interfaces of a class that declare an instance method, without those that have another of them as a subtype.
func (c *Classes) Specific(class, s string, n int) []string {
	var all, l []string
	for _, i := range c.Interfaces(class) {
		if m, ok := c.Declared(i, s, n); ok && m.Flags&api.Static == 0 {
			all = append(all, i)
		}
	}
	for _, i := range all {
		if !slices.ContainsFunc(all, func(k string) bool { return k != i && c.IsSubtype(k, i) }) {
			l = append(l, i)
		}
	}
	return l
}

// Known reports whether the class of a type, if it has one, is declared.
func (c *Classes) Known(t api.Type) bool {
	_, ok := c.Find(t.Name)
	return ok || t.Base != 'L'
}
