// Package sample makes small classes from listings; the tests of the layers from 25 on use it.
package sample

import (
	"armature/api"
	"armature/asm"
	"armature/classmodel"
	"armature/desc"
	"armature/file"
	"strconv"
	"strings"
)

// Root is a listing of the classes that the verifier refers to.
const Root = `class 1 lang/Object extends -
m 1 <init> ()V
class 17 lang/String extends lang/Object
class 1 lang/Throwable extends lang/Object
m 1 <init> ()V`

// Models assembles the classes of a listing. Each class begins with the word class; its last line may be absent.
// A line "m FLAGS NAME DESC" stands for a whole method, with the shortest code if it needs any.
func Models(text string) ([]api.ClassModel, api.Errno) {
	var l []api.ClassModel
	var lines []string
	super := ""
	finish := func() api.Errno {
		if len(lines) == 0 {
			return api.OK
		}
		u, _, e := asm.Assemble(append(lines, "end"))
		l = append(l, u)
		lines = nil
		return e
	}
	for s := range strings.SplitSeq(text, "\n") {
		s = strings.TrimSpace(s)
		if strings.HasPrefix(s, "class ") {
			if e := finish(); e != api.OK {
				return nil, e
			}
			super = s[strings.LastIndexByte(s, ' ')+1:]
		}
		lines = append(lines, expand(s, super)...)
	}
	if e := finish(); e != api.OK {
		return nil, e
	}
	return l, api.OK
}

// Store encodes the classes of a listing.
func Store(text string) ([]api.StoredClass, api.Errno) {
	models, e := Models(text)
	if e != api.OK {
		return nil, e
	}
	var l []api.StoredClass
	for _, u := range models {
		f, e := classmodel.ToFile(u)
		if e != api.OK {
			return nil, e
		}
		s, e := file.Encode(f)
		if e != api.OK {
			return nil, e
		}
		l = append(l, api.StoredClass{Name: u.Name, Bytes: s})
	}
	return l, api.OK
}

func expand(s, super string) []string {
	rest, ok := strings.CutPrefix(s, "m ")
	if !ok {
		return []string{s}
	}
	lines := []string{"method " + rest}
	words := strings.Fields(rest)
	flags, _ := strconv.Atoi(words[0])
	if flags&(api.Abstract|api.Native) == 0 {
		lines = append(lines, body(words[1], words[2], super, flags)...)
	}
	return append(lines, "end")
}

func body(name, d, super string, flags int) []string {
	g, _ := desc.ParseSignature(d)
	locals := len(g.Params)
	if flags&api.Static == 0 {
		locals++
	}
	lines := []string{"code 1 " + strconv.Itoa(locals)}
	if name == "<init>" && super != "-" {
		lines = append(lines, "aload 0", "invokespecial "+super+" <init> ()V")
	}
	switch desc.Kind(g.Result) {
	case api.KInt:
		return append(lines, "push 0", "ireturn")
	case api.KLong:
		return append(lines, "ldc long 0", "lreturn")
	case api.KRef:
		return append(lines, "aconstnull", "areturn")
	}
	return append(lines, "return")
}
