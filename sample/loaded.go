package sample

import (
	"armature/api"
	"armature/load"
)

// Loaded makes a class space and loads all stored classes, loader by loader, each by its own loader.
func Loaded(listings ...string) (api.ClassSpace, api.Errno) {
	w, e := Space(listings...)
	if e != api.OK {
		return w, e
	}
	for i, l := range w.Loaders {
		for _, c := range l.Store {
			if w, _, e = load.Load(w, i, c.Name); e != api.OK {
				return w, e
			}
		}
	}
	return w, api.OK
}
