package sample

import (
	"armature/api"
	"armature/classspace"
	"strconv"
	"strings"
)

// Space makes a class space with one loader for each listing.
// Lines "to PREFIX N" at the beginning of a listing are delegations; * stands for the empty prefix.
func Space(listings ...string) (api.ClassSpace, api.Errno) {
	l, e := Loaders(listings...)
	if e != api.OK {
		return api.ClassSpace{}, e
	}
	return classspace.New(l)
}

// Loaders makes one loader for each listing.
func Loaders(listings ...string) ([]api.Loader, api.Errno) {
	var l []api.Loader
	for _, text := range listings {
		var x api.Loader
		for {
			first, rest, _ := strings.Cut(text, "\n")
			words := strings.Fields(first)
			if len(words) != 3 || words[0] != "to" {
				break
			}
			n, _ := strconv.Atoi(words[2])
			x.Delegations = append(x.Delegations, api.Delegation{Prefix: strings.TrimPrefix(words[1], "*"), To: n})
			text = rest
		}
		if strings.TrimSpace(text) != "" {
			var e api.Errno
			if x.Store, e = Store(text); e != api.OK {
				return nil, e
			}
		}
		l = append(l, x)
	}
	return l, api.OK
}
