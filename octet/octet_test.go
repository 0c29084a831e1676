package octet

import (
	"armature/api"
	"strings"
	"testing"
)

func TestPut(t *testing.T) { // P2.1
	for _, x := range []struct {
		n, size int
		want    string
		e       api.Errno
	}{
		{258, 2, "\x01\x02", api.OK}, {-1, 1, "\xff", api.OK}, {255, 1, "\xff", api.OK}, {-128, 1, "\x80", api.OK},
		{256, 1, "", api.ErrTooLarge}, {-129, 1, "", api.ErrTooLarge}, {65535, 2, "\xff\xff", api.OK}, {65536, 2, "", api.ErrTooLarge}, {-32768, 2, "\x80\x00", api.OK}, {-32769, 2, "", api.ErrTooLarge},
		{1<<32 - 1, 4, "\xff\xff\xff\xff", api.OK}, {1 << 32, 4, "", api.ErrTooLarge}, {-1 << 31, 4, "\x80\x00\x00\x00", api.OK}, {-1<<31 - 1, 4, "", api.ErrTooLarge},
		{1<<63 - 1, 8, "\x7f\xff\xff\xff\xff\xff\xff\xff", api.OK}, {-1 << 63, 8, "\x80\x00\x00\x00\x00\x00\x00\x00", api.OK},
		{1, 0, "", api.ErrBadArgument}, {1, 3, "", api.ErrBadArgument}, {1, -1, "", api.ErrBadArgument}, {1 << 40, 16, "", api.ErrBadArgument},
	} {
		if s, e := Put(x.n, x.size); s != x.want || e != x.e {
			t.Errorf("Put(%d, %d) = %q, %d", x.n, x.size, s, e)
		}
	}
}

func TestGet(t *testing.T) { // P2.2
	for _, x := range []struct {
		s              string
		at, size, u, n int
		e              api.Errno
	}{
		{"\xff", 0, 1, 255, -1, api.OK}, {"a\x01\x02", 1, 2, 258, 258, api.OK}, {"\x80\x00", 0, 2, 32768, -32768, api.OK}, {"\xff\xff\xff\xfe", 0, 4, 1<<32 - 2, -2, api.OK},
		{"\xff\xff\xff\xff\xff\xff\xff\xff", 0, 8, -1, -1, api.OK}, {"ab", 2, 1, 0, 0, api.ErrTruncated}, {"ab", 3, 1, 0, 0, api.ErrRange}, {"ab", -1, 1, 0, 0, api.ErrRange}, {"ab", -1, 3, 0, 0, api.ErrBadArgument}, {"abc", 2, 2, 0, 0, api.ErrTruncated}, {"", 1<<63 - 1, 8, 0, 0, api.ErrRange},
	} {
		if u, e := Unsigned(x.s, x.at, x.size); u != x.u || e != x.e {
			t.Errorf("Unsigned(%q, %d, %d) = %d, %d", x.s, x.at, x.size, u, e)
		}
		if n, e := Signed(x.s, x.at, x.size); n != x.n || e != x.e {
			t.Errorf("Signed(%q, %d, %d) = %d, %d", x.s, x.at, x.size, n, e)
		}
	}
}

func TestStrings(t *testing.T) { // P2.3
	if s, e := PutString("a"); s != "\x00\x01a" || e != api.OK {
		t.Errorf("%q %d", s, e)
	}
	long := strings.Repeat("x", 65535)
	s, e := PutString(long)
	if e != api.OK {
		t.Fatal(e)
	}
	if r, at, e := GetString("zz"+s+"q", 2); r != long || at != 2+2+65535 || e != api.OK {
		t.Error(len(r), at, e)
	}
	if s, e := PutString(long + "x"); s != "" || e != api.ErrTooLarge {
		t.Error(len(s), e)
	}
	for _, x := range []struct {
		s  string
		at int
		e  api.Errno
	}{{"\x00\x02a", 0, api.ErrTruncated}, {"\x00", 0, api.ErrTruncated}, {"\x00", 2, api.ErrRange}, {"\x00\x00", -1, api.ErrRange}, {"\x00\x00", 2, api.ErrTruncated}} {
		if r, at, e := GetString(x.s, x.at); r != "" || at != 0 || e != x.e {
			t.Errorf("%q %d: %q %d %d", x.s, x.at, r, at, e)
		}
	}
}

func TestRoundTripAndOrder(t *testing.T) { // P2.4
	numbers := []int{0, 1, 127, 128, 255, 256, 32767, 32768, 65535, 65536, 1<<31 - 1, 1 << 31, 1<<32 - 1, 1 << 32, 1<<63 - 1}
	for _, size := range []int{1, 2, 4, 8} {
		before := ""
		for i, n := range numbers {
			s, e := Put(n, size)
			if e != api.OK {
				continue
			}
			if i > 0 && before >= s {
				t.Error("order", n, size)
			}
			before = s
			if u, e := Unsigned("pre"+s+"post", 3, size); u != n || e != api.OK {
				t.Error(n, size, u, e)
			}
			if neg, e := Put(-n, size); e == api.OK {
				if v, e := Signed("x"+neg, 1, size); v != -n || e != api.OK {
					t.Error(-n, size, v, e)
				}
			}
		}
	}
}
