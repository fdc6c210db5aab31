package varint_test

import (
	"math"
	"strings"
	"testing"

	"periscope/api"
	"periscope/varint"
)

// edges has the least and the greatest numbers of each length, with others.
func edges() []uint64 {
	l := []uint64{0, 1, 300, 0x0102030405060708, 0xfedcba9876543210, math.MaxInt64, math.MaxUint64 - 1, math.MaxUint64}
	for bits := 1; bits < 64; bits++ {
		l = append(l, 1<<bits-1, 1<<bits, 1<<bits+1)
	}
	return l
}

// high has so many bytes of 128 and above.
func high(n int) string {
	return strings.Repeat("\x80\xff\x81", n)[:n]
}

// P2.1: groups of seven bits, the lowest first, 128 added to all but the last one.
func TestPut(t *testing.T) {
	for _, x := range []struct {
		n    uint64
		want string
	}{
		{0, "\x00"},
		{1, "\x01"},
		{127, "\x7f"},
		{128, "\x80\x01"},
		{129, "\x81\x01"},
		{255, "\xff\x01"},
		{300, "\xac\x02"},
		{16383, "\xff\x7f"},
		{16384, "\x80\x80\x01"},
		{1<<21 - 1, "\xff\xff\x7f"},
		{1 << 21, "\x80\x80\x80\x01"},
		{1<<63 - 1, "\xff\xff\xff\xff\xff\xff\xff\xff\x7f"},
		{1 << 63, "\x80\x80\x80\x80\x80\x80\x80\x80\x80\x01"},
		{math.MaxUint64, "\xff\xff\xff\xff\xff\xff\xff\xff\xff\x01"},
	} {
		if s := varint.Put(x.n); s != x.want {
			t.Errorf("Put(%d) = %q; want %q", x.n, s, x.want)
		}
		if n, next, e := varint.Get(x.want, 0); n != x.n || next != len(x.want) || e != api.OK {
			t.Errorf("Get(%q, 0) = %d, %d, %v; want %d", x.want, n, next, e, x.n)
		}
	}
}

// P2.1: a form has a byte for each seven bits of its number.
func TestPutLength(t *testing.T) {
	for size := 1; size <= 9; size++ {
		last := uint64(1)<<(7*size) - 1
		if s := varint.Put(last); len(s) != size {
			t.Errorf("Put(%d) has %d bytes; want %d", last, len(s), size)
		}
		if s := varint.Put(last + 1); len(s) != size+1 {
			t.Errorf("Put(%d) has %d bytes; want %d", last+1, len(s), size+1)
		}
	}
}

func refused(t *testing.T, s string, at int, want api.Errno) {
	t.Helper()
	if n, next, e := varint.Get(s, at); n != 0 || next != 0 || e != want {
		t.Errorf("Get(%q, %d) = %d, %d, %v; want %v", s, at, n, next, e, want)
	}
}

// P2.1: a place below 0 is told first.
func TestGetBelow(t *testing.T) {
	for _, s := range []string{"", "\x01", "\x80", "\x80\x00", high(12)} {
		for _, at := range []int{-1, -2, -10, math.MinInt} {
			refused(t, s, at, api.ErrArg)
		}
	}
}

// P2.1: a form that ends too soon, and a place behind the text.
func TestGetShort(t *testing.T) {
	for size := 0; size <= 9; size++ {
		refused(t, high(size), 0, api.ErrShort)
		refused(t, strings.Repeat("\x80", size), 0, api.ErrShort)
		refused(t, strings.Repeat("\xff", size), 0, api.ErrShort)
		refused(t, "\x01\x00"+high(size), 2, api.ErrShort)
	}
	for _, at := range []int{1, 2, 11, 1 << 31, 1 << 32, math.MaxInt - 9, math.MaxInt} {
		refused(t, "\x01", at, api.ErrShort)
		refused(t, "\x80", at, api.ErrShort)
	}
	refused(t, "", 1, api.ErrShort)
	refused(t, "", math.MaxInt, api.ErrShort)
}

// P2.1: ten bytes are the most, and the tenth has one bit.
func TestGetTenth(t *testing.T) {
	for _, nine := range []string{high(9), strings.Repeat("\x80", 9), strings.Repeat("\xff", 9)} {
		for b := range 256 {
			for _, ahead := range []string{"", "\x00", "\x80"} {
				for _, behind := range []string{"", "\x00", "\x01", "\xff"} {
					s := ahead + nine + string([]byte{byte(b)}) + behind
					if b != 1 {
						refused(t, s, len(ahead), api.ErrForm)
					} else if n, next, e := varint.Get(s, len(ahead)); n>>63 != 1 || next != len(ahead)+10 || e != api.OK {
						t.Errorf("Get(%q, %d) = %d, %d, %v", s, len(ahead), n, next, e)
					}
				}
			}
		}
	}
	for size := 10; size <= 30; size++ {
		refused(t, high(size), 0, api.ErrForm)
		refused(t, high(size)+"\x01", 0, api.ErrForm)
	}
}

// P2.1: a group of 0 stands last in the form of 0 alone.
func TestGetNought(t *testing.T) {
	for size := 1; size <= 9; size++ {
		refused(t, high(size)+"\x00", 0, api.ErrForm)
		refused(t, strings.Repeat("\x80", size)+"\x00\x01", 0, api.ErrForm)
		refused(t, "\x00\x05"+high(size)+"\x00", 2, api.ErrForm)
	}
	for at := range 12 {
		s := strings.Repeat("\x80", at) + "\x00"
		if n, next, e := varint.Get(s, at); n != 0 || next != at+1 || e != api.OK {
			t.Errorf("Get(%q, %d) = %d, %d, %v; want 0", s, at, n, next, e)
		}
	}
	s := "\x80\x80\x00\x01"
	if n, next, e := varint.Get(s, 3); n != 1 || next != 4 || e != api.OK {
		t.Errorf("Get(%q, 3) = %d, %d, %v; want 1", s, n, next, e)
	}
}

// P2.2: the form of how many bytes there are, and these.
func TestText(t *testing.T) {
	for _, x := range []struct{ s, want string }{
		{"", "\x00"},
		{"ab", "\x02ab"},
		{"\x00\xff\x80", "\x03\x00\xff\x80"},
		{"é", "\x02é"},
		{strings.Repeat("x", 127), "\x7f" + strings.Repeat("x", 127)},
		{strings.Repeat("x", 128), "\x80\x01" + strings.Repeat("x", 128)},
		{strings.Repeat("x", 300), "\xac\x02" + strings.Repeat("x", 300)},
		{strings.Repeat("x", 16384), "\x80\x80\x01" + strings.Repeat("x", 16384)},
	} {
		if s := varint.Text(x.s); s != x.want {
			t.Errorf("Text of %d bytes = %.20q..; want %.20q..", len(x.s), s, x.want)
		}
	}
}

// P2.2: just so many bytes, and the place behind them.
func TestTake(t *testing.T) {
	for _, x := range []struct {
		s        string
		at, most int
		want     string
		next     int
	}{
		{"\x02ab", 0, 2, "ab", 3},
		{"\x02abc", 0, 9, "ab", 3},
		{"x\x02abc", 1, 2, "ab", 4},
		{"\x00", 0, 0, "", 1},
		{"\x00ab", 0, 0, "", 1},
		{"\x03ab\x00", 0, math.MaxInt, "ab\x00", 4},
		{"\x80\x01" + strings.Repeat("y", 130), 0, 128, strings.Repeat("y", 128), 130},
	} {
		if s, next, e := varint.Take(x.s, x.at, x.most); s != x.want || next != x.next || e != api.OK {
			t.Errorf("Take(%q, %d, %d) = %q, %d, %v; want %q, %d", x.s, x.at, x.most, s, next, e, x.want, x.next)
		}
	}
}

// P2.2: Get's error comes first, then too long, then too short; beside an error all is zero.
func TestTakeErrors(t *testing.T) {
	for _, x := range []struct {
		s        string
		at, most int
		want     api.Errno
	}{
		{"\x02ab", -1, 2, api.ErrArg},
		{"\x02ab", math.MinInt, -1, api.ErrArg},
		{"", 0, 9, api.ErrShort},
		{"", 0, -1, api.ErrShort},
		{"\x02ab", 3, -1, api.ErrShort},
		{"\x02ab", math.MaxInt, -1, api.ErrShort},
		{"\x80", 0, -1, api.ErrShort},
		{"\xff\x01\xff", 2, 0, api.ErrShort},
		{"\x80\x00", 0, -1, api.ErrForm},
		{"\x80\x00", 0, 9, api.ErrForm},
		{high(9) + "\x02", 0, math.MaxInt, api.ErrForm},
		{high(10), 0, math.MaxInt, api.ErrForm},
		{"\x02ab", 0, 1, api.ErrLong},
		{"\x02ab", 0, 0, api.ErrLong},
		{"\x02ab", 0, -1, api.ErrLong},
		{"\x02a", 0, 1, api.ErrLong},
		{"\x02", 0, math.MinInt, api.ErrLong},
		{"\x00", 0, -1, api.ErrLong},
		{"\x00", 0, math.MinInt, api.ErrLong},
		{varint.Put(math.MaxUint64) + "ab", 0, math.MaxInt, api.ErrLong},
		{varint.Put(math.MaxUint64) + "ab", 0, -1, api.ErrLong},
		{varint.Put(1<<63) + "ab", 0, math.MaxInt, api.ErrLong},
		{varint.Put(1<<32) + "ab", 0, 9, api.ErrLong},
		{varint.Put(math.MaxInt) + "ab", 0, math.MaxInt, api.ErrShort},
		{varint.Put(1<<32) + "ab", 0, math.MaxInt, api.ErrShort},
		{"\x01", 0, 1, api.ErrShort},
		{"\x02a", 0, 2, api.ErrShort},
		{"ab\x02a", 2, 9, api.ErrShort},
	} {
		if s, next, e := varint.Take(x.s, x.at, x.most); s != "" || next != 0 || e != x.want {
			t.Errorf("Take(%q, %d, %d) = %q, %d, %v; want %v", x.s, x.at, x.most, s, next, e, x.want)
		}
	}
}

// P2.3: Get of what was Put is the number, whatever stands ahead and behind.
func TestGetOfPut(t *testing.T) {
	for _, n := range edges() {
		s := varint.Put(n)
		for _, ahead := range []string{"", "\x00", "\x80", "\xff\xff", high(20)} {
			for _, behind := range []string{"", "\x00", "\x01", "\xff", high(20)} {
				m, next, e := varint.Get(ahead+s+behind, len(ahead))
				if m != n || next != len(ahead+s) || e != api.OK {
					t.Fatalf("Get(%q, %d) = %d, %d, %v; want %d", ahead+s+behind, len(ahead), m, next, e, n)
				}
			}
		}
	}
}

// P2.3: no other bytes are the same number's form: what is read is what is put.
func TestOneForm(t *testing.T) {
	read := func(s string) {
		n, next, e := varint.Get(s, 0)
		if e == api.OK && (next < 1 || next > len(s) || varint.Put(n) != s[:next]) {
			t.Fatalf("Get(%q, 0) = %d, %d: that number's form is %q", s, n, next, varint.Put(n))
		}
	}
	for a := range 256 {
		read(string([]byte{byte(a)}))
		for b := range 256 {
			read(string([]byte{byte(a), byte(b)}))
			for size := 1; size <= 9; size++ {
				read(high(size) + string([]byte{byte(a), byte(b)}))
			}
		}
	}
	// Noughts behind a form would say the same number.
	for _, n := range edges() {
		s := []byte(varint.Put(n))
		s[len(s)-1] |= 0x80
		for len(s) < 12 {
			refused(t, string(s)+"\x00", 0, api.ErrForm)
			s = append(s, 0x80)
		}
	}
}

// P2.3: Take of Text is the text, if it is not too long.
func TestTakeOfText(t *testing.T) {
	for _, size := range []int{0, 1, 2, 126, 127, 128, 129, 200, 16383, 16384, 20000} {
		s := strings.Repeat("a\x00\xff\x80", size/4+1)[:size]
		for _, ahead := range []string{"", "\x00", "\xff\xff"} {
			for _, behind := range []string{"", "\x00", "\xff\xff"} {
				whole := ahead + varint.Text(s) + behind
				for _, most := range []int{size, size + 1, math.MaxInt} {
					got, next, e := varint.Take(whole, len(ahead), most)
					if got != s || next != len(whole)-len(behind) || e != api.OK {
						t.Fatalf("Take of a Text of %d bytes, most %d: %d bytes, %d, %v", size, most, len(got), next, e)
					}
				}
				if got, next, e := varint.Take(whole, len(ahead), size-1); got != "" || next != 0 || e != api.ErrLong {
					t.Fatalf("Take of a Text of %d bytes, most %d: %d bytes, %d, %v; want ErrLong", size, size-1, len(got), next, e)
				}
			}
		}
	}
}
