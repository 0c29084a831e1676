package classspace

import (
	"armature/api"
	"armature/classmodel"
	"armature/name"
)

// key is a name as a loader knows it.
type key struct {
	loader int
	name   string
}

// Valid reports whether a class space is valid.
func Valid(w api.ClassSpace) bool {
	if _, e := New(w.Loaders); e != api.OK || len(w.Classes) > api.MaxClasses {
		return false
	}
	initiated, ok := initiatedNames(w)
	if !ok {
		return false
	}
	defined := map[key]bool{}
	for i, c := range w.Classes {
		k := key{c.Loader, c.Model.Name}
		if found, ok := initiated[k]; !ok || found != i || defined[k] || !validClass(w, i) {
			return false
		}
		defined[k] = true
	}
	for _, c := range w.Constraints {
		if !hasLoader(w, c.A) || !hasLoader(w, c.B) || !name.IsClassName(c.Name) {
			return false
		}
	}
	return constraintsHold(w, initiated)
}

// initiatedNames returns the initiated classes by loader and name, and whether the list is in order.
func initiatedNames(w api.ClassSpace) (map[key]int, bool) {
	classes := map[key]int{}
	for _, x := range w.Initiated {
		k := key{x.Loader, x.Name}
		if _, ok := classes[k]; ok || !hasLoader(w, x.Loader) || !hasClass(w, x.Class) || w.Classes[x.Class].Model.Name != x.Name {
			return nil, false
		}
		classes[k] = x.Class
	}
	return classes, true
}

func validClass(w api.ClassSpace, i int) bool {
	c := w.Classes[i]
	if !hasLoader(w, c.Loader) || name.HasPrefix(c.Model.Name, langPart) && c.Loader != 0 || classmodel.Check(c.Model) != api.OK {
		return false
	}
	if c.Stage < api.Loaded || c.Stage > api.LinkFailed || (c.Err != api.OK) != (c.Stage == api.LinkFailed) {
		return false
	}
	if c.Super == -1 {
		if c.Model.Super != "" {
			return false
		}
	} else if !isEarlier(w, i, c.Super, c.Model.Super, false) {
		return false
	}
	if len(c.Interfaces) != len(c.Model.Interfaces) {
		return false
	}
	for k, s := range c.Interfaces {
		if !isEarlier(w, i, s, c.Model.Interfaces[k], true) {
			return false
		}
	}
	return true
}

// isEarlier reports whether s is a class or an interface before i with the given name.
func isEarlier(w api.ClassSpace, i, s int, title string, iface bool) bool {
	if s < 0 || s >= i {
		return false
	}
	m := w.Classes[s].Model
	return m.Name == title && (m.Flags&api.Interface != 0) == iface
}

// constraintsHold reports whether connected loaders have the same classes.
func constraintsHold(w api.ClassSpace, initiated map[key]int) bool {
	groups := map[string]*[api.MaxLoaders]int{}
	for _, c := range w.Constraints {
		g := groups[c.Name]
		if g == nil {
			g = new([api.MaxLoaders]int)
			for i := range g {
				g[i] = i
			}
			groups[c.Name] = g
		}
		from, to := g[c.A], g[c.B]
		for i := range g {
			if g[i] == from {
				g[i] = to
			}
		}
	}
	seen := map[key]int{}
	for k, class := range initiated {
		g := groups[k.name]
		if g == nil {
			continue
		}
		shared := key{g[k.loader], k.name}
		if other, ok := seen[shared]; ok && other != class {
			return false
		}
		seen[shared] = class
	}
	return true
}
