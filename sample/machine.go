package sample

import (
	"armature/api"
	"armature/builtin"
	"armature/load"
)

// Machine makes a machine with one loader for each listing, and loads all classes of the listings.
func Machine(room int, listings ...string) (api.Machine, api.Errno) {
	l, e := Loaders(listings...)
	if e != api.OK {
		return api.Machine{}, e
	}
	m, e := builtin.NewMachine(l, room)
	if e != api.OK {
		return api.Machine{}, e
	}
	for i, x := range l {
		for _, c := range x.Store {
			if m.Space, _, e = load.Load(m.Space, i, c.Name); e != api.OK {
				return m, e
			}
		}
	}
	return m, api.OK
}
