package parent_test

import (
	"math"
	"regexp"
	"strconv"
	"strings"
	"testing"

	"periscope/api"
	"periscope/parent"
)

const (
	good      = "00-0123456789abcdeffedcba9876543210-00f067aa0ba902b7-01"
	noTrace   = "00-00000000000000000000000000000000-00f067aa0ba902b7-01"
	noSpan    = "00-0123456789abcdeffedcba9876543210-0000000000000000-01"
	nothing   = "00-00000000000000000000000000000000-0000000000000000-00"
	hexDigits = "0123456789abcdef"
)

var form = regexp.MustCompile(`^([0-9a-f]{2})-([0-9a-f]{16})([0-9a-f]{16})-([0-9a-f]{16})-([0-9a-f]{2})((?s:-.*)?)$`)

// said is what Read must answer of s.
func said(s string) (api.Parent, api.Errno) {
	m := form.FindStringSubmatch(s)
	if m == nil || m[1] == "ff" || m[1] == "00" && m[6] != "" {
		return api.Parent{}, api.ErrForm
	}
	var n [4]uint64
	for i := range n {
		n[i], _ = strconv.ParseUint(m[i+2], 16, 64)
	}
	if n[0] == 0 && n[1] == 0 || n[2] == 0 {
		return api.Parent{}, api.ErrZero
	}
	return api.Parent{Trace: api.Trace{Hi: n[0], Lo: n[1]}, Span: n[2], Flags: int(n[3])}, api.OK
}

func hold(t *testing.T, s string) {
	t.Helper()
	want, wantErrno := said(s)
	if p, e := parent.Read(s); p != want || e != wantErrno {
		t.Errorf("Read(%.200q) = %x, %v; want %x, %v", s, p, e, want, wantErrno)
	}
}

func versions() []string {
	var l []string
	for _, high := range hexDigits {
		for _, low := range hexDigits {
			l = append(l, string(high)+string(low))
		}
	}
	return l
}

// P7.1: what a text says.
func TestRead(t *testing.T) {
	plain := api.Parent{Trace: api.Trace{Hi: 0x0123456789abcdef, Lo: 0xfedcba9876543210}, Span: 0x00f067aa0ba902b7, Flags: 1}
	flagged := func(flags int) api.Parent {
		p := plain
		p.Flags = flags
		return p
	}
	for _, x := range []struct {
		s    string
		want api.Parent
		e    api.Errno
	}{
		{good, plain, api.OK},
		{"00-00000000000000010000000000000002-0000000000000003-01", api.Parent{Trace: api.Trace{Hi: 1, Lo: 2}, Span: 3, Flags: 1}, api.OK},
		{"00-00000000000000000000000000000002-0000000000000003-00", api.Parent{Trace: api.Trace{Lo: 2}, Span: 3}, api.OK},
		{"00-80000000000000000000000000000000-8000000000000000-80", api.Parent{Trace: api.Trace{Hi: 1 << 63}, Span: 1 << 63, Flags: 128}, api.OK},
		{"00-ffffffffffffffffffffffffffffffff-ffffffffffffffff-ff", api.Parent{Trace: api.Trace{Hi: math.MaxUint64, Lo: math.MaxUint64}, Span: math.MaxUint64, Flags: 255}, api.OK},
		{good[:53] + "00", flagged(0), api.OK},
		{good[:53] + "10", flagged(16), api.OK},
		{good[:53] + "0f", flagged(15), api.OK},
		{"01" + good[2:], plain, api.OK},
		{"fe" + good[2:], plain, api.OK},
		{"0f" + good[2:], plain, api.OK},
		{"f0" + good[2:], plain, api.OK},
		{"cc" + good[2:] + "-", plain, api.OK},
		{"cc" + good[2:] + "-what the\n\xff\x00", plain, api.OK},
		{"cc" + good[2:] + "what", api.Parent{}, api.ErrForm},
		{"cc" + good[2:] + ".", api.Parent{}, api.ErrForm},
		{"cc" + good[2:] + "0-", api.Parent{}, api.ErrForm},
		{"ff" + good[2:], api.Parent{}, api.ErrForm},
		{"ff" + good[2:] + "-", api.Parent{}, api.ErrForm},
		{"FF" + good[2:], api.Parent{}, api.ErrForm},
		{good + "-", api.Parent{}, api.ErrForm},
		{good + "-00", api.Parent{}, api.ErrForm},
		{good + "0", api.Parent{}, api.ErrForm},
		{good + "\n", api.Parent{}, api.ErrForm},
		{" " + good, api.Parent{}, api.ErrForm},
		{strings.ToUpper(good), api.Parent{}, api.ErrForm},
		{strings.ReplaceAll(good, "-", ""), api.Parent{}, api.ErrForm},
		{strings.ReplaceAll(good, "-", "_"), api.Parent{}, api.ErrForm},
		{strings.Repeat("-", 55), api.Parent{}, api.ErrForm},
		{strings.Repeat("0", 55), api.Parent{}, api.ErrForm},
		{noTrace, api.Parent{}, api.ErrZero},
		{noSpan, api.Parent{}, api.ErrZero},
		{nothing, api.Parent{}, api.ErrZero},
		{"cc" + noTrace[2:] + "-x", api.Parent{}, api.ErrZero},
		{"cc" + noSpan[2:], api.Parent{}, api.ErrZero},
	} {
		if p, e := parent.Read(x.s); p != x.want || e != x.e {
			t.Errorf("Read(%q) = %x, %v; want %x, %v", x.s, p, e, x.want, x.e)
		}
		hold(t, x.s)
	}
}

// P7.1: of all bytes, which may stand at each place; a fault of form is told ahead of a number that is 0.
func TestReadBytes(t *testing.T) {
	grounds := []string{good, "01" + good[2:], "cc" + good[2:] + "-x", "0f" + good[2:], "f0" + good[2:], noTrace, noSpan, nothing, "cc" + nothing[2:] + "-"}
	for _, s := range grounds {
		for at := range len(s) {
			for b := range 256 {
				hold(t, s[:at]+string([]byte{byte(b)})+s[at+1:])
			}
		}
	}
}

// P7.1: texts that are cut off are none, whatever stands in them; nor may a byte more or less stand within.
func TestReadLength(t *testing.T) {
	for _, version := range []string{"00", "01", "cc", "ff"} {
		for _, ground := range []string{good, noTrace, noSpan, nothing} {
			s := version + ground[2:]
			for size := range len(s) {
				if p, e := parent.Read(s[:size]); p != (api.Parent{}) || e != api.ErrForm {
					t.Errorf("Read(%q) = %x, %v; want ErrForm", s[:size], p, e)
				}
			}
			for at := range len(s) {
				hold(t, s[:at]+s[at+1:])
				hold(t, s[:at]+s[at+1:]+"-")
				hold(t, s[:at]+s[at+1:]+"0")
				hold(t, s[:at]+"0"+s[at:])
				hold(t, s[:at]+"-"+s[at:])
			}
		}
	}
	for _, s := range []string{"", "-", "0", "00", "00-", strings.Repeat("é", 28), strings.Repeat("\x00", 55), strings.Repeat("\xff", 1000), strings.Repeat("00-", 1000)} {
		if p, e := parent.Read(s); p != (api.Parent{}) || e != api.ErrForm {
			t.Errorf("Read(%q) = %x, %v; want ErrForm", s, p, e)
		}
	}
}

// P7.1: each version, with each kind of what may stand behind.
func TestReadVersions(t *testing.T) {
	for _, version := range versions() {
		for _, ground := range []string{good, noTrace, noSpan} {
			for _, tail := range []string{"", "-", "--", "-00", "-x", "0", "00", "x", "x-", " ", "\n", "\x00", "_", "-" + strings.Repeat("x", 10000)} {
				hold(t, version+ground[2:]+tail)
			}
		}
	}
}

// edges has numbers of each length, with noughts at either end.
func edges() []uint64 {
	l := []uint64{0, 0x0123456789abcdef, 0xfedcba9876543210, math.MaxUint64}
	for bits := 0; bits < 64; bits += 7 {
		l = append(l, 1<<bits, 1<<bits-1)
	}
	return l
}

// P7.2: the text of version 00.
func TestWrite(t *testing.T) {
	for _, x := range []struct {
		p    api.Parent
		want string
		e    api.Errno
	}{
		{api.Parent{Trace: api.Trace{Hi: 1, Lo: 2}, Span: 3, Flags: 1}, "00-00000000000000010000000000000002-0000000000000003-01", api.OK},
		{api.Parent{Trace: api.Trace{Hi: 1}, Span: 3}, "00-00000000000000010000000000000000-0000000000000003-00", api.OK},
		{api.Parent{Trace: api.Trace{Lo: 2}, Span: 3, Flags: 16}, "00-00000000000000000000000000000002-0000000000000003-10", api.OK},
		{api.Parent{Trace: api.Trace{Hi: math.MaxUint64, Lo: math.MaxUint64}, Span: math.MaxUint64, Flags: 255}, "00-ffffffffffffffffffffffffffffffff-ffffffffffffffff-ff", api.OK},
		{api.Parent{Trace: api.Trace{Hi: 0x0123456789abcdef, Lo: 0xfedcba9876543210}, Span: 0x00f067aa0ba902b7, Flags: 1}, good, api.OK},
		{api.Parent{}, "", api.ErrZero},
		{api.Parent{Trace: api.Trace{Hi: 1, Lo: 2}, Flags: 1}, "", api.ErrZero},
		{api.Parent{Span: 3, Flags: 1}, "", api.ErrZero},
	} {
		if s, e := parent.Write(x.p); s != x.want || e != x.e {
			t.Errorf("Write(%x) = %q, %v; want %q, %v", x.p, s, e, x.want, x.e)
		}
	}
}

// P7.2: flags are from 0 to 255; of two faults the number that is 0 is told.
func TestWriteFlags(t *testing.T) {
	for flags := -300; flags <= 600; flags++ {
		want, wantErrno := "", api.ErrRange
		if flags >= 0 && flags <= 255 {
			want, wantErrno = good[:53]+hexDigits[flags/16:flags/16+1]+hexDigits[flags%16:flags%16+1], api.OK
		}
		p := api.Parent{Trace: api.Trace{Hi: 0x0123456789abcdef, Lo: 0xfedcba9876543210}, Span: 0x00f067aa0ba902b7, Flags: flags}
		if s, e := parent.Write(p); s != want || e != wantErrno {
			t.Errorf("Write(%x) = %q, %v; want %q, %v", p, s, e, want, wantErrno)
		}
	}
	for _, flags := range []int{math.MinInt, math.MinInt + 1, math.MinInt32, -256, -1, 256, 1 << 16, 1 << 32, 1<<32 + 1, math.MaxInt} {
		for _, p := range []api.Parent{{Trace: api.Trace{Hi: 1}, Span: 1}, {Trace: api.Trace{Lo: 1}, Span: 1}, {Span: 1}, {Trace: api.Trace{Lo: 1}}, {}} {
			want := api.ErrRange
			if p.Trace == (api.Trace{}) || p.Span == 0 {
				want = api.ErrZero
			}
			p.Flags = flags
			if s, e := parent.Write(p); s != "" || e != want {
				t.Errorf("Write(%x) = %q, %v; want %v", p, s, e, want)
			}
		}
	}
}

// P7.2: sampled is what has odd flags, also where they may not be; nothing else is looked at.
func TestSampled(t *testing.T) {
	for flags := -300; flags <= 600; flags++ {
		want := strings.Contains("13579", strconv.Itoa(flags)[len(strconv.Itoa(flags))-1:])
		for _, p := range []api.Parent{{Flags: flags}, {Trace: api.Trace{Hi: 1, Lo: 1}, Span: 1, Flags: flags}, {Trace: api.Trace{Hi: 2, Lo: 2}, Span: 2, Flags: flags}} {
			if parent.Sampled(p) != want {
				t.Errorf("Sampled(%v) = %v", p, !want)
			}
		}
	}
	for flags, want := range map[int]bool{math.MinInt: false, math.MinInt + 1: true, math.MaxInt: true, math.MaxInt - 1: false} {
		if parent.Sampled(api.Parent{Flags: flags}) != want {
			t.Errorf("Sampled of flags %d = %v", flags, !want)
		}
	}
}

// P7.2: a child is the same but for its span; nothing is checked.
func TestChild(t *testing.T) {
	for _, p := range []api.Parent{{}, {Trace: api.Trace{Hi: 1, Lo: 2}, Span: 3, Flags: 1}, {Trace: api.Trace{Lo: math.MaxUint64}, Flags: -1}, {Span: math.MaxUint64, Flags: math.MaxInt}} {
		for _, n := range edges() {
			before := p
			want := api.Parent{Trace: p.Trace, Span: n, Flags: p.Flags}
			if c := parent.Child(p, n); c != want || p != before {
				t.Errorf("Child(%x, %d) = %x; want %x", p, n, c, want)
			}
		}
	}
}

// P7.3: what was written is read as it was.
func TestReadOfWrite(t *testing.T) {
	for _, hi := range edges() {
		for _, lo := range edges() {
			for _, span := range edges() {
				for _, flags := range []int{0, 1, 2, 127, 128, 254, 255} {
					p := api.Parent{Trace: api.Trace{Hi: hi, Lo: lo}, Span: span, Flags: flags}
					s, e := parent.Write(p)
					if hi == 0 && lo == 0 || span == 0 {
						if s != "" || e != api.ErrZero {
							t.Fatalf("Write(%x) = %q, %v; want ErrZero", p, s, e)
						}
						continue
					}
					if e != api.OK || len(s) != 55 || s[:2] != "00" {
						t.Fatalf("Write(%x) = %q, %v", p, s, e)
					}
					if got, e := parent.Read(s); got != p || e != api.OK {
						t.Fatalf("Read(%q) = %x, %v; want %x", s, got, e, p)
					}
				}
			}
		}
	}
}

// P7.3: what is read can be written, and is read as the same; of version 00 it is just the same text.
func TestWriteOfRead(t *testing.T) {
	for _, version := range versions() {
		for _, body := range []string{good[2:], "-00000000000000010000000000000000-0000000000000001-fe", "-0000000000000000000000000000000a-000000000000000f-00"} {
			for _, tail := range []string{"", "-", "-more"} {
				p, e := parent.Read(version + body + tail)
				if (e == api.OK) != (version != "ff" && (version != "00" || tail == "")) {
					t.Fatalf("Read(%q): %v", version+body+tail, e)
				}
				if e != api.OK {
					continue
				}
				if s, e := parent.Write(p); s != "00"+body || e != api.OK {
					t.Fatalf("Write(%x) = %q, %v; want %q", p, s, e, "00"+body)
				}
				if again, e := parent.Read("00" + body); again != p || e != api.OK {
					t.Fatalf("Read(%q) = %x, %v; want %x", "00"+body, again, e, p)
				}
			}
		}
	}
}
