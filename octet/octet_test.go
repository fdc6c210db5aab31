package octet_test

import (
	"math"
	"strconv"
	"strings"
	"testing"

	"periscope/api"
	"periscope/octet"
)

// edges has the greatest numbers of each width, in bytes and in digits, with their neighbours.
func edges() []uint64 {
	l := []uint64{0, 0x0102030405060708, 0xfedcba9876543210, math.MaxUint64}
	for bits := 1; bits < 64; bits++ {
		l = append(l, 1<<bits-1, 1<<bits, 1<<bits+1)
	}
	return l
}

// P1.1: just as many bytes, the highest first.
func TestPut(t *testing.T) {
	for _, x := range []struct {
		n     uint64
		width int
		want  string
	}{
		{258, 2, "\x01\x02"},
		{258, 5, "\x00\x00\x00\x01\x02"},
		{0, 1, "\x00"},
		{0, 8, "\x00\x00\x00\x00\x00\x00\x00\x00"},
		{255, 1, "\xff"},
		{65535, 2, "\xff\xff"},
		{0x010203, 3, "\x01\x02\x03"},
		{0x01020304, 4, "\x01\x02\x03\x04"},
		{0x0102030405, 5, "\x01\x02\x03\x04\x05"},
		{0x010203040506, 6, "\x01\x02\x03\x04\x05\x06"},
		{0x01020304050607, 7, "\x01\x02\x03\x04\x05\x06\x07"},
		{0x0102030405060708, 8, "\x01\x02\x03\x04\x05\x06\x07\x08"},
		{math.MaxUint64, 8, "\xff\xff\xff\xff\xff\xff\xff\xff"},
	} {
		if s, e := octet.Put(x.n, x.width); s != x.want || e != api.OK {
			t.Errorf("Put(%d, %d) = %q, %v; want %q", x.n, x.width, s, e, x.want)
		}
	}
}

// P1.1: a width that may not be is told ahead of a number that does not fit.
func TestPutWidth(t *testing.T) {
	for _, width := range []int{math.MinInt, -8, -1, 0, 9, 10, 16, 64, math.MaxInt} {
		for _, n := range []uint64{0, 1, 256, math.MaxUint64} {
			if s, e := octet.Put(n, width); s != "" || e != api.ErrArg {
				t.Errorf("Put(%d, %d) = %q, %v; want ErrArg", n, width, s, e)
			}
		}
	}
}

// P1.1: a number fits up to the greatest one of its width, and no further.
func TestPutRange(t *testing.T) {
	for width := 1; width <= 7; width++ {
		over := uint64(1) << (8 * width)
		if s, e := octet.Put(over-1, width); s != strings.Repeat("\xff", width) || e != api.OK {
			t.Errorf("Put(%d, %d) = %q, %v", over-1, width, s, e)
		}
		for _, n := range []uint64{over, over + 1, 2 * over, 1 << 63, math.MaxUint64} {
			if s, e := octet.Put(n, width); s != "" || e != api.ErrRange {
				t.Errorf("Put(%d, %d) = %q, %v; want ErrRange", n, width, s, e)
			}
		}
	}
}

// P1.1: the number of just those bytes, the highest first.
func TestGet(t *testing.T) {
	s := "\x01\x02\x03\xff\x80\x00\x7f\xfe\x09"
	for _, x := range []struct {
		at, width int
		want      uint64
	}{
		{0, 1, 0x01}, {3, 1, 0xff}, {5, 1, 0}, {8, 1, 0x09},
		{0, 2, 0x0102}, {7, 2, 0xfe09}, {1, 3, 0x0203ff}, {4, 3, 0x80007f},
		{0, 4, 0x010203ff}, {2, 5, 0x03ff80007f}, {3, 6, 0xff80007ffe09},
		{2, 7, 0x03ff80007ffe09}, {0, 8, 0x010203ff80007ffe}, {1, 8, 0x0203ff80007ffe09},
	} {
		if n, e := octet.Get(s, x.at, x.width); n != x.want || e != api.OK {
			t.Errorf("Get(%q, %d, %d) = %x, %v; want %x", s, x.at, x.width, n, e, x.want)
		}
	}
}

// P1.1: arguments that may not be are told ahead of a text that is too short.
func TestGetArguments(t *testing.T) {
	for _, s := range []string{"", "\x01", "\x01\x02\x03\x04\x05\x06\x07\x08\x09\x0a"} {
		for _, width := range []int{math.MinInt, -1, 0, 9, 10, math.MaxInt} {
			for _, at := range []int{math.MinInt, -1, 0, 1, 99, math.MaxInt} {
				if n, e := octet.Get(s, at, width); n != 0 || e != api.ErrArg {
					t.Errorf("Get(%q, %d, %d) = %d, %v; want ErrArg", s, at, width, n, e)
				}
			}
		}
		for _, at := range []int{math.MinInt, -8, -1} {
			for width := 1; width <= 8; width++ {
				if n, e := octet.Get(s, at, width); n != 0 || e != api.ErrArg {
					t.Errorf("Get(%q, %d, %d) = %d, %v; want ErrArg", s, at, width, n, e)
				}
			}
		}
	}
}

// P1.1: of s there must be all bytes from at on; places far behind it are no other case.
func TestGetShort(t *testing.T) {
	for size := 0; size <= 10; size++ {
		s := strings.Repeat("\x01", size)
		for width := 1; width <= 8; width++ {
			for at := 0; at <= size+9; at++ {
				n, e := octet.Get(s, at, width)
				want := api.OK
				if at+width > size {
					want = api.ErrShort
				}
				if e != want || e != api.OK && n != 0 {
					t.Errorf("Get of %d bytes at %d, width %d = %d, %v; want %v", size, at, width, n, e, want)
				}
			}
			for _, at := range []int{1 << 31, 1 << 32, math.MaxInt - 8, math.MaxInt - 1, math.MaxInt} {
				if n, e := octet.Get(s, at, width); n != 0 || e != api.ErrShort {
					t.Errorf("Get of %d bytes at %d, width %d = %d, %v; want ErrShort", size, at, width, n, e)
				}
			}
		}
	}
}

// P1.2: just as many digits, the highest first.
func TestHex(t *testing.T) {
	for _, x := range []struct {
		n      uint64
		digits int
		want   string
	}{
		{255, 4, "00ff"},
		{0, 1, "0"},
		{0, 16, "0000000000000000"},
		{9, 1, "9"},
		{10, 1, "a"},
		{15, 1, "f"},
		{16, 2, "10"},
		{0xabc, 3, "abc"},
		{0x0123456789abcdef, 15, "123456789abcdef"},
		{0x0123456789abcdef, 16, "0123456789abcdef"},
		{0xfedcba9876543210, 16, "fedcba9876543210"},
		{math.MaxUint64, 16, "ffffffffffffffff"},
	} {
		if s, e := octet.Hex(x.n, x.digits); s != x.want || e != api.OK {
			t.Errorf("Hex(%d, %d) = %q, %v; want %q", x.n, x.digits, s, e, x.want)
		}
	}
}

// P1.2: as many digits as may not be are told ahead of a number that does not fit.
func TestHexDigits(t *testing.T) {
	for _, digits := range []int{math.MinInt, -16, -1, 0, 17, 18, 64, math.MaxInt} {
		for _, n := range []uint64{0, 1, 16, math.MaxUint64} {
			if s, e := octet.Hex(n, digits); s != "" || e != api.ErrArg {
				t.Errorf("Hex(%d, %d) = %q, %v; want ErrArg", n, digits, s, e)
			}
		}
	}
}

// P1.2: a number fits up to the greatest one of its digits, and no further.
func TestHexRange(t *testing.T) {
	for digits := 1; digits <= 15; digits++ {
		over := uint64(1) << (4 * digits)
		if s, e := octet.Hex(over-1, digits); s != strings.Repeat("f", digits) || e != api.OK {
			t.Errorf("Hex(%d, %d) = %q, %v", over-1, digits, s, e)
		}
		for _, n := range []uint64{over, over + 1, 2 * over, 1 << 63, math.MaxUint64} {
			if s, e := octet.Hex(n, digits); s != "" || e != api.ErrRange {
				t.Errorf("Hex(%d, %d) = %q, %v; want ErrRange", n, digits, s, e)
			}
		}
	}
}

// P1.2: the number, with noughts ahead or not.
func TestUnhex(t *testing.T) {
	for _, x := range []struct {
		s    string
		want uint64
	}{
		{"0", 0}, {"0000000000000000", 0}, {"f", 15}, {"10", 16}, {"00ff", 255}, {"abc", 0xabc},
		{"0123456789abcdef", 0x0123456789abcdef}, {"fedcba9876543210", 0xfedcba9876543210},
		{"8000000000000000", 1 << 63}, {"ffffffffffffffff", math.MaxUint64},
	} {
		if n, e := octet.Unhex(x.s); n != x.want || e != api.OK {
			t.Errorf("Unhex(%q) = %d, %v; want %d", x.s, n, e, x.want)
		}
	}
}

// P1.2: of all bytes, just those sixteen are digits, wherever they stand.
func TestUnhexBytes(t *testing.T) {
	for b := range 256 {
		for size := 1; size <= 16; size++ {
			for at := range size {
				s := strings.Repeat("1", at) + string([]byte{byte(b)}) + strings.Repeat("1", size-1-at)
				n, e := octet.Unhex(s)
				if strings.IndexByte("0123456789abcdef", byte(b)) < 0 {
					if n != 0 || e != api.ErrForm {
						t.Fatalf("Unhex(%q) = %d, %v; want ErrForm", s, n, e)
					}
				} else if want, err := strconv.ParseUint(s, 16, 64); err != nil || n != want || e != api.OK {
					t.Fatalf("Unhex(%q) = %d, %v; want %d", s, n, e, want)
				}
			}
		}
	}
}

// P1.2: texts that are no number's digits.
func TestUnhexForm(t *testing.T) {
	for _, s := range []string{
		"", "00000000000000000", "ffffffffffffffff0", strings.Repeat("0", 32), strings.Repeat("1", 1000),
		"A", "FF", "aB", "0x1", "0X1", "+1", "-1", "1_0", " 1", "1 ", "1\n", "\x00", "\xff", "é", "１", "g", "ffffffffffffffFf",
	} {
		if n, e := octet.Unhex(s); n != 0 || e != api.ErrForm {
			t.Errorf("Unhex(%q) = %d, %v; want ErrForm", s, n, e)
		}
	}
}

// P1.3: Get of what was Put, with anything ahead and behind, is the number.
func TestGetOfPut(t *testing.T) {
	for _, n := range edges() {
		for width := 1; width <= 8; width++ {
			s, e := octet.Put(n, width)
			if fits := width == 8 || n < 1<<(8*width); fits != (e == api.OK) || fits && len(s) != width {
				t.Fatalf("Put(%d, %d) = %q, %v", n, width, s, e)
			}
			if e != api.OK {
				continue
			}
			for _, ahead := range []string{"", "\x00", "\xff\x80", strings.Repeat("\x01", 20)} {
				for _, behind := range []string{"", "\x00", "\xff\x80"} {
					if m, e := octet.Get(ahead+s+behind, len(ahead), width); m != n || e != api.OK {
						t.Fatalf("Get(%q, %d, %d) = %d, %v; want %d", ahead+s+behind, len(ahead), width, m, e, n)
					}
				}
			}
		}
	}
}

// P1.3: Unhex of Hex is the number; Hex of what Unhex reads, with as many digits, is the text.
func TestUnhexOfHex(t *testing.T) {
	for _, n := range edges() {
		for digits := 1; digits <= 16; digits++ {
			s, e := octet.Hex(n, digits)
			if fits := digits == 16 || n < 1<<(4*digits); fits != (e == api.OK) || fits && len(s) != digits {
				t.Fatalf("Hex(%d, %d) = %q, %v", n, digits, s, e)
			}
			if e != api.OK {
				continue
			}
			if m, e := octet.Unhex(s); m != n || e != api.OK {
				t.Fatalf("Unhex(%q) = %d, %v; want %d", s, m, e, n)
			}
		}
	}
	for _, s := range []string{"0", "a", "00", "0f", "f0", "007", "00ff", "0123456789abcdef", "0000000000000001", "ffffffffffffffff"} {
		n, e := octet.Unhex(s)
		if e != api.OK {
			t.Fatalf("Unhex(%q): %v", s, e)
		}
		if back, e := octet.Hex(n, len(s)); back != s || e != api.OK {
			t.Errorf("Hex(%d, %d) = %q, %v; want %q", n, len(s), back, e, s)
		}
	}
}
