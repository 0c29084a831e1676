package builtin_test

import (
	"armature/api"
	"armature/builtin"
	"armature/classmodel"
	"armature/classspace"
	"armature/classverify"
	"armature/dis"
	"armature/file"
	"armature/heap"
	"armature/link"
	"armature/load"
	"slices"
	"strings"
	"testing"
)

func TestClasses(t *testing.T) { // P38.1
	plain := func(name, super string) string {
		return "class 1 lang/" + name + " extends lang/" + super + "\nmethod 1 <init> ()V\ncode 1 1\naload 0\ninvokespecial lang/" + super + " <init> ()V\nreturn\nend\n"
	}
	want := "class 1 lang/Object extends -\nmethod 1 <init> ()V\ncode 0 1\nreturn\nend\nmethod 273 wait ()V\nend\nmethod 273 notify ()V\nend\nmethod 273 notifyAll ()V\nend\nend\n" +
		"class 17 lang/String extends lang/Object\nmethod 257 length ()I\nend\nmethod 257 at (I)I\nend\nend\n"
	for _, x := range [][2]string{{"Throwable", "Object"}, {"Error", "Throwable"}, {"NullPointerException", "Throwable"}, {"IndexOutOfBoundsException", "Throwable"}, {"ArithmeticException", "Throwable"}, {"ArrayStoreException", "Throwable"}, {"ClassCastException", "Throwable"}, {"ArraySizeException", "Throwable"}, {"IllegalMonitorStateException", "Throwable"}, {"LinkageError", "Error"}, {"InitializerError", "Error"}, {"OutOfMemoryError", "Error"}, {"StackOverflowError", "Error"}} {
		want += plain(x[0], x[1]) + "end\n"
	}
	want += plain("Thread", "Object") + "method 1 run ()V\ncode 0 1\nreturn\nend\nmethod 257 start ()V\nend\nend\n" +
		"class 17 lang/Console extends lang/Object\nmethod 265 printInt (I)V\nend\nmethod 265 printString (Llang/String;)V\nend\nmethod 265 printLong (J)V\nend\nend\n" +
		"class 1025 lang/Reference extends lang/Object\nfield 1 referent Llang/Object;\nfield 1 cleared I\nmethod 1 <init> (Llang/Object;)V\ncode 2 2\naload 0\ninvokespecial lang/Object <init> ()V\naload 0\naload 1\nputfield lang/Reference referent Llang/Object;\nreturn\nend\nend\n"
	for _, s := range []string{"Soft", "Weak", "Phantom"} {
		want += "class 1 lang/" + s + "Reference extends lang/Reference\nmethod 1 <init> (Llang/Object;)V\ncode 2 2\naload 0\naload 1\ninvokespecial lang/Reference <init> (Llang/Object;)V\nreturn\nend\nend\n"
	}
	var got []string
	for _, u := range builtin.Classes() {
		l, e := dis.Disassemble(u)
		if e != api.OK {
			t.Fatal(u.Name, e)
		}
		got = append(got, l...)
	}
	if !slices.Equal(got, strings.Split(strings.TrimSpace(want), "\n")) || len(builtin.Classes()) != 21 {
		t.Error(strings.Join(got, "\n"))
	}
}

func TestStoredClasses(t *testing.T) { // P38.2
	models := builtin.Classes()
	for i, c := range builtin.StoredClasses() {
		f, e := classmodel.ToFile(models[i])
		s, e2 := file.Encode(f)
		if e != api.OK || e2 != api.OK || c.Name != models[i].Name || c.Bytes != s {
			t.Error(i, c.Name)
		}
	}
}

func TestNewClassSpaceAndMachine(t *testing.T) { // P38.2
	mine := api.Loader{Store: []api.StoredClass{{Name: "A"}}}
	l := []api.Loader{mine, {}}
	w, e := builtin.NewClassSpace(l)
	if e != api.OK || len(w.Loaders) != 2 || len(w.Loaders[0].Store) != 22 || w.Loaders[0].Store[21].Name != "A" || w.Loaders[0].Store[0].Name != "lang/Object" || len(w.Classes) != 0 || len(l[0].Store) != 1 {
		t.Error(w, e)
	}
	many := make([]api.StoredClass, 44)
	for i := range many {
		many[i].Name = strings.Repeat("A", i+1)
	}
	for _, x := range []struct {
		l []api.Loader
		e api.Errno
	}{{nil, api.ErrTooMany}, {[]api.Loader{{Store: []api.StoredClass{{Name: "lang/Mine"}}, Delegations: make([]api.Delegation, 9)}}, api.ErrDuplicate}, {[]api.Loader{{Store: many}}, api.ErrTooMany}, {[]api.Loader{{Store: many[:43]}}, api.OK}, {[]api.Loader{{Delegations: make([]api.Delegation, 1)}}, api.ErrRange}, {[]api.Loader{{}, {Store: []api.StoredClass{{Name: "lang/Mine"}}}}, api.ErrBadName}} {
		w, e := builtin.NewClassSpace(x.l)
		if e != x.e || e != api.OK && !classspace.Equal(w, api.ClassSpace{}) {
			t.Error(x.e, e)
		}
		m, e := builtin.NewMachine(x.l, -1)
		if want := x.e; want == api.OK && e != api.ErrBadArgument || want != api.OK && e != want || m.Space.Loaders != nil {
			t.Error(x.e, e)
		}
	}
	for room, want := range map[int]api.Errno{-1: api.ErrBadArgument, 0: api.OK, 5000: api.OK, 5001: api.ErrBadArgument} {
		m, e := builtin.NewMachine(l, room)
		if e != want || e == api.OK && (m.MaxObjects != room || !classspace.Equal(m.Space, w) || !heap.Valid(m) || m.Threads != nil) || e != api.OK && m.Space.Loaders != nil {
			t.Error(room, e)
		}
	}
}

func TestExceptionClass(t *testing.T) { // P38.3, P38.4
	want := map[api.Errno]string{api.ErrNullPointer: "NullPointerException", api.ErrIndexOutOfBounds: "IndexOutOfBoundsException", api.ErrDivideByZero: "ArithmeticException", api.ErrArrayStore: "ArrayStoreException", api.ErrClassCast: "ClassCastException", api.ErrArraySize: "ArraySizeException", api.ErrMonitorOwner: "IllegalMonitorStateException", api.ErrOutOfMemory: "OutOfMemoryError", api.ErrStackOverflow: "StackOverflowError", api.ErrInitFailed: "LinkageError", api.ErrNoNative: "LinkageError"}
	for e := api.ErrNoClass; e <= api.ErrVerify; e++ {
		want[e] = "LinkageError"
	}
	w, _ := builtin.NewClassSpace(make([]api.Loader, 1))
	w, top, _ := load.Load(w, 0, "lang/Throwable")
	for e := api.Errno(-5); e < 90; e++ {
		s := builtin.ExceptionClass(e)
		if n, ok := want[e]; ok && s != "lang/"+n || !ok && s != "" {
			t.Error(e, s)
		}
		if s == "" {
			continue
		}
		var c int
		var err api.Errno
		if w, c, err = load.Load(w, 0, s); err != api.OK || !classspace.IsSubtype(w, c, top) {
			t.Error(s, err)
		}
	}
}

func TestVerified(t *testing.T) { // P38.4
	var infos []api.ClassInfo
	for _, u := range builtin.Classes() {
		infos = append(infos, api.ClassInfo{Name: u.Name, Super: u.Super})
	}
	w, e := builtin.NewClassSpace(make([]api.Loader, 2))
	if e != api.OK {
		t.Fatal(e)
	}
	for _, u := range builtin.Classes() {
		if e := classmodel.Check(u); e != api.OK {
			t.Error(u.Name, e)
		}
		if i, at, e := classverify.Verify(infos, u); e != api.OK {
			t.Error(u.Name, i, at, e)
		}
		if i, at, e := classverify.VerifyWithMaps(infos, u); e != api.OK {
			t.Error(u.Name, i, at, e)
		}
		var c int
		if w, c, e = load.Load(w, 1, u.Name); e != api.OK {
			t.Error(u.Name, e)
		}
		if w, e = link.Link(w, c); e != api.OK {
			t.Error(u.Name, e)
		}
	}
}
