package crc_test

import (
	"hash/crc32"
	"strings"
	"testing"

	"periscope/api"
	"periscope/crc"
)

// texts has texts of many lengths and bytes, with those of which sums are known.
func texts() []string {
	l := []string{"", "\x00", "\xff", "a", "abc", "123456789", "\x00\x00\x00\x00", "\xff\xff\xff\xff", "\xcb\xf4\x39\x26", "é\n"}
	all := make([]byte, 600)
	for i := range all {
		all[i] = byte(i * 7)
	}
	for _, size := range []int{2, 3, 4, 5, 7, 8, 255, 256, 257, 600} {
		l = append(l, string(all[:size]), strings.Repeat("\x00", size), strings.Repeat("\xff", size))
	}
	for b := range 256 {
		l = append(l, string([]byte{byte(b)}), string([]byte{'x', byte(b), 0}))
	}
	return l
}

// P3.1: sums that are known.
func TestOf(t *testing.T) {
	for _, x := range []struct {
		s    string
		want uint32
	}{
		{"", 0},
		{"123456789", 3421780262},
		{"a", 0xe8b7be43},
		{"abc", 0x352441c2},
		{"\x00", 0xd202ef8d},
		{"\xff", 0xff000000},
		{"\x00\x00\x00\x00", 0x2144df1c},
		{"\xff\xff\xff\xff", 0xffffffff},
		{"The quick brown fox jumps over the lazy dog", 0x414fa339},
	} {
		if sum := crc.Of(x.s); sum != x.want {
			t.Errorf("Of(%q) = %d; want %d", x.s, sum, x.want)
		}
	}
}

// P3.1: sums as the standard has them, which another program works out.
func TestOfAsOthers(t *testing.T) {
	for _, s := range texts() {
		if sum := crc.Of(s); sum != crc32.ChecksumIEEE([]byte(s)) {
			t.Errorf("Of(%q) = %d; want %d", s, sum, crc32.ChecksumIEEE([]byte(s)))
		}
	}
}

// P3.1: the sum stands behind, the highest byte first.
func TestSeal(t *testing.T) {
	for _, x := range []struct{ s, want string }{
		{"", "\x00\x00\x00\x00"},
		{"123456789", "123456789\xcb\xf4\x39\x26"},
		{"\xff", "\xff\xff\x00\x00\x00"},
		{"abc", "abc\x35\x24\x41\xc2"},
	} {
		if s := crc.Seal(x.s); s != x.want {
			t.Errorf("Seal(%q) = %q; want %q", x.s, s, x.want)
		}
	}
}

// P3.1: fewer than four bytes are no sum, whatever they are.
func TestOpenShort(t *testing.T) {
	for _, s := range []string{"", "a", "\x00", "ab", "\x00\x00", "abc", "\x00\x00\x00", "\xff\xff\xff"} {
		if got, e := crc.Open(s); got != "" || e != api.ErrShort {
			t.Errorf("Open(%q) = %q, %v; want ErrShort", s, got, e)
		}
	}
}

// P3.1: other bytes than the sum, and the sum's bytes in another order or place.
func TestOpenSum(t *testing.T) {
	for _, s := range []string{
		"\x00\x00\x00\x01", "\x01\x00\x00\x00", "\xff\xff\xff\xff", "abcd",
		"123456789\x26\x39\xf4\xcb", "\xcb\xf4\x39\x26123456789", "123456789",
		"123456789\xcb\xf4\x39\x26\x00", "123456789\xcb\xf4\x39", "123456788\xcb\xf4\x39\x26", "0123456789\xcb\xf4\x39\x26", "23456789\xcb\xf4\x39\x26",
		"123456789\x34\x0b\xc6\xd9",
	} {
		if got, e := crc.Open(s); got != "" || e != api.ErrSum {
			t.Errorf("Open(%q) = %q, %v; want ErrSum", s, got, e)
		}
	}
}

// P3.1, P3.3: Open of what was sealed is that, also of what was sealed twice.
func TestOpenOfSeal(t *testing.T) {
	for _, s := range texts() {
		once := crc.Seal(s)
		if got, e := crc.Open(once); got != s || e != api.OK {
			t.Errorf("Open(%q) = %q, %v; want %q", once, got, e, s)
		}
		if got, e := crc.Open(crc.Seal(once)); got != once || e != api.OK {
			t.Errorf("Open of Seal(%q) = %q, %v", once, got, e)
		}
	}
}

// P3.3: one byte that is another one is told, be it of the text or of the sum.
func TestOpenOtherByte(t *testing.T) {
	for _, s := range []string{"", "\x00", "a", "123456789", strings.Repeat("\x00", 40), strings.Repeat("\xffab", 40)} {
		sealed := crc.Seal(s)
		for at := range len(sealed) {
			for b := range 256 {
				other := sealed[:at] + string([]byte{byte(b)}) + sealed[at+1:]
				if other == sealed {
					continue
				}
				if got, e := crc.Open(other); got != "" || e != api.ErrSum {
					t.Fatalf("Open(%q) = %q, %v; want ErrSum", other, got, e)
				}
			}
		}
	}
}

func counts(t *testing.T, m *crc.Machine, made, bytes int) {
	t.Helper()
	if m.Made() != made || m.Bytes() != bytes {
		t.Errorf("made %d, bytes %d; want %d, %d", m.Made(), m.Bytes(), made, bytes)
	}
}

// P3.2: a table is made at the first sum that is asked for, and never again; all bytes are counted.
func TestMachine(t *testing.T) {
	m := crc.New()
	counts(t, m, 0, 0)
	if sum := m.Of("1234", "56789"); sum != 3421780262 {
		t.Errorf("Of(1234, 56789) = %d", sum)
	}
	counts(t, m, 1, 9)
	if sum := m.Of("abc"); sum != 0x352441c2 {
		t.Errorf("Of(abc) = %d", sum)
	}
	counts(t, m, 1, 12)
	m.Of("", "x", "")
	counts(t, m, 1, 13)
	for range 100 {
		m.Of("\x00", "\xff\xff")
	}
	counts(t, m, 1, 313)
}

// P3.2: a sum of nothing is asked for, too.
func TestMachineOfNothing(t *testing.T) {
	for _, parts := range [][]string{nil, {}, {""}, {"", "", ""}} {
		m := crc.New()
		for range 3 {
			if sum := m.Of(parts...); sum != 0 {
				t.Errorf("Of(%q) = %d", parts, sum)
			}
			counts(t, m, 1, 0)
		}
	}
}

// P3.2: machines have nothing of one another, and nothing of the sums that none of them was asked for.
func TestMachinesApart(t *testing.T) {
	a, b := crc.New(), crc.New()
	if a == b {
		t.Fatal("New answers one machine twice")
	}
	a.Of("abc")
	crc.Of("abcd")
	crc.Open(crc.Seal("abcde"))
	counts(t, a, 1, 3)
	counts(t, b, 0, 0)
	b.Of("ab", "cd", "e")
	counts(t, a, 1, 3)
	counts(t, b, 1, 5)
}

// P3.2: a nil machine.
func TestMachineNil(t *testing.T) {
	var m *crc.Machine
	for _, parts := range [][]string{nil, {""}, {"a"}, {"1234", "56789"}} {
		if sum := m.Of(parts...); sum != 0 {
			t.Errorf("Of(%q) = %d", parts, sum)
		}
		counts(t, m, 0, 0)
	}
}

// P3.3: a machine's sums are Of, however often it was asked.
func TestMachineAsOf(t *testing.T) {
	m := crc.New()
	bytes := 0
	for range 2 {
		for _, s := range texts() {
			if sum := m.Of(s); sum != crc.Of(s) {
				t.Errorf("a machine's Of(%q) = %d; want %d", s, sum, crc.Of(s))
			}
			bytes += len(s)
			counts(t, m, 1, bytes)
		}
	}
}

// P3.3: a machine's sums are Of, however the text is cut; the parts stay as they are.
func TestMachineCuts(t *testing.T) {
	m := crc.New()
	for _, s := range []string{"", "\x00", "123456789", "\xff\xff\xff\xff\xff", "a\x00b\x80c\xffd\x7f e"} {
		for i := 0; i <= len(s); i++ {
			for j := i; j <= len(s); j++ {
				parts := []string{s[:i], s[i:j], s[j:]}
				if sum := m.Of(parts...); sum != crc.Of(s) {
					t.Errorf("Of(%q) = %d; want %d", parts, sum, crc.Of(s))
				}
				if parts[0] != s[:i] || parts[1] != s[i:j] || parts[2] != s[j:] {
					t.Errorf("Of changed its parts: %q", parts)
				}
			}
		}
		if sum := m.Of(strings.Split(s, "")...); sum != crc.Of(s) {
			t.Errorf("Of(%q), byte by byte = %d; want %d", s, sum, crc.Of(s))
		}
	}
}
