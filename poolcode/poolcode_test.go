package poolcode

import (
	"armature/api"
	"reflect"
	"strings"
	"testing"
)

func sample() []api.Const {
	return []api.Const{{Tag: 1, S: "A"}, {Tag: 7, A: 1}, {Tag: 1, S: "f"}, {Tag: 1, S: "()V"}, {Tag: 12, A: 3, B: 4}, {Tag: 10, A: 2, B: 5}, {Tag: 8, A: 3}, {Tag: 1, S: "I"}, {Tag: 12, A: 3, B: 8}, {Tag: 9, A: 2, B: 9}, {Tag: 11, A: 2, B: 5}, {Tag: 3, N: -1 << 31}, {Tag: 5, N: -1 << 63}, {Tag: 3, N: 1<<31 - 1}, {Tag: 5, N: 7}, {Tag: 1, S: strings.Repeat("x", 1024)}, {Tag: 1}}
}

func TestEncode(t *testing.T) { // P6.1
	for _, x := range []struct {
		p    []api.Const
		want string
		e    api.Errno
	}{
		{nil, "\x00\x00", api.OK},
		{[]api.Const{{Tag: 1, S: "ab"}}, "\x00\x01\x01\x00\x02ab", api.OK},
		{[]api.Const{{Tag: 3, N: -2}, {Tag: 5, N: 258}}, "\x00\x02\x03\xff\xff\xff\xfe\x05\x00\x00\x00\x00\x00\x00\x01\x02", api.OK},
		{sample()[:6], "\x00\x06\x01\x00\x01A\x07\x00\x01\x01\x00\x01f\x01\x00\x03()V\x0c\x00\x03\x00\x04\x0a\x00\x02\x00\x05", api.OK},
		{[]api.Const{{Tag: 2}}, "", api.ErrConstantTag},
		{[]api.Const{{Tag: 7, A: 1}}, "", api.ErrConstantTag},
		{[]api.Const{{Tag: 7}}, "", api.ErrRange},
		{make([]api.Const, 1001), "", api.ErrTooMany},
	} {
		if s, e := Encode(x.p); s != x.want || e != x.e {
			t.Errorf("%v: %q %d", x.p, s, e)
		}
	}
}

func TestDecodeErrors(t *testing.T) { // P6.2
	for _, x := range []struct {
		s  string
		at int
		e  api.Errno
	}{
		{"", -1, api.ErrRange}, {"", 1, api.ErrRange}, {"", 0, api.ErrTruncated}, {"\x00", 0, api.ErrTruncated}, {"\x00\x01\x02", 0, api.ErrConstantTag}, {"\x00\x01", 0, api.ErrTruncated}, {"\x00\x02\x02", 0, api.ErrConstantTag}, {"\x00\x01\x01\x00\x02a", 0, api.ErrTruncated}, {"\x00\x01\x0c\x00\x01\x00", 0, api.ErrTruncated},
		{"\x00\x01\x07\x00\x00", 0, api.ErrRange}, {"\x00\x01\x07\x00\x01", 0, api.ErrConstantTag}, {"\x00\x01\x01\x04\x01" + strings.Repeat("x", 1025), 0, api.ErrTooLarge}, {"\x03\xe9" + strings.Repeat("\x03\x00\x00\x00\x00", 1001), 0, api.ErrTooMany}, {"\xff\xff\x03", 0, api.ErrTruncated},
	} {
		if p, at, e := Decode(x.s, x.at); p != nil || at != 0 || e != x.e {
			t.Errorf("%q: %v %d %d", x.s, p, at, e)
		}
	}
}

func TestRoundTrip(t *testing.T) { // P6.3
	s, e := Encode(sample())
	if e != api.OK {
		t.Fatal(e)
	}
	p, at, e := Decode("\x01\x02"+s+"\x09", 2)
	if e != api.OK || at != 2+len(s) || !reflect.DeepEqual(p, sample()) {
		t.Error(p, at, e)
	}
	if r, e := Encode(p); r != s || e != api.OK {
		t.Error(e)
	}
	for i := range len(s) {
		if p, at, e := Decode(s[:i], 0); p != nil || at != 0 || e != api.ErrTruncated {
			t.Error(i, p, at, e)
		}
	}
}
