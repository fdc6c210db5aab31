package spanrec_test

import (
	"encoding/binary"
	"math"
	"strings"
	"testing"

	"periscope/api"
	"periscope/spanrec"
	"periscope/varint"
)

// good is a span that may be, each number of which is another one.
func good() api.Span {
	return api.Span{Trace: api.Trace{Hi: 1, Lo: 2}, ID: 3, Up: 4, Name: "shop", Status: 200, Seq: 5, Kids: 6, Shadow: true, Start: 300, End: 307}
}

// turned is good, but for what turn does.
func turned(turn func(s *api.Span)) api.Span {
	s := good()
	turn(&s)
	return s
}

// The parts of a span's bytes, by their places.
const (
	hi = iota
	lo
	id
	up
	name
	status
	seq
	kids
	shade
	start
	took
	partCount
)

// parts is what the bytes of s must be, part by part.
func parts(s api.Span) []string {
	wide := func(n uint64) string { return string(binary.BigEndian.AppendUint64(nil, n)) }
	number := func(n int) string { return string(binary.AppendUvarint(nil, uint64(n))) }
	p := make([]string, partCount)
	p[hi], p[lo], p[id], p[up] = wide(s.Trace.Hi), wide(s.Trace.Lo), wide(s.ID), wide(s.Up)
	p[name] = number(len(s.Name)) + s.Name
	p[status], p[seq], p[kids] = number(s.Status), number(s.Seq), number(s.Kids)
	p[shade] = "\x00"
	if s.Shadow {
		p[shade] = "\x01"
	}
	p[start], p[took] = number(s.Start), number(s.End-s.Start)
	return p
}

func bytesOf(s api.Span) string {
	return strings.Join(parts(s), "")
}

func refused(t *testing.T, s string, at int, want api.Errno) {
	t.Helper()
	if x, next, e := spanrec.Read(s, at); x != (api.Span{}) || next != 0 || e != want {
		t.Errorf("Read(%q, %d) = %v, %d, %v; want %v", s, at, x, next, e, want)
	}
}

func read(t *testing.T, s string, at int, want api.Span, wantNext int) {
	t.Helper()
	if x, next, e := spanrec.Read(s, at); x != want || next != wantNext || e != api.OK {
		t.Errorf("Read(%q, %d) = %v, %d, %v; want %v, %d", s, at, x, next, e, want, wantNext)
	}
}

// judged asks Check, and whether Write says the same; what may be is just the bytes that it must be.
func judged(t *testing.T, s api.Span, want api.Errno) {
	t.Helper()
	if e := spanrec.Check(s); e != want {
		t.Errorf("Check(%v) = %v; want %v", s, e, want)
	}
	wantBytes := ""
	if want == api.OK {
		wantBytes = bytesOf(s)
	}
	if b, e := spanrec.Write(s); b != wantBytes || e != want {
		t.Errorf("Write(%v) = %q, %v; want %q, %v", s, b, e, wantBytes, want)
	}
}

// P9.1: the trace and ID are not 0; the one above may be.
func TestCheckZero(t *testing.T) {
	judged(t, good(), api.OK)
	for _, x := range []struct {
		trace  api.Trace
		id, up uint64
		want   api.Errno
	}{
		{api.Trace{}, 3, 4, api.ErrZero},
		{api.Trace{}, 0, 0, api.ErrZero},
		{api.Trace{Hi: 1, Lo: 2}, 0, 4, api.ErrZero},
		{api.Trace{Hi: 1, Lo: 2}, 0, 0, api.ErrZero},
		{api.Trace{Hi: 1, Lo: 2}, 3, 0, api.OK},
		{api.Trace{Hi: 1}, 3, 4, api.OK},
		{api.Trace{Lo: 1}, 3, 4, api.OK},
		{api.Trace{Hi: 1 << 63}, 1 << 63, 1 << 63, api.OK},
		{api.Trace{Lo: 1 << 63}, 1 << 32, 3, api.OK},
		{api.Trace{Hi: 1, Lo: 2}, 3, 3, api.OK},
		{api.Trace{Hi: math.MaxUint64, Lo: math.MaxUint64}, math.MaxUint64, math.MaxUint64, api.OK},
	} {
		judged(t, turned(func(s *api.Span) { s.Trace, s.ID, s.Up = x.trace, x.id, x.up }), x.want)
	}
}

// P9.1: names that may be a header's name, and others.
func TestCheckName(t *testing.T) {
	for s, want := range map[string]api.Errno{
		"a": api.OK, "-": api.OK, "0": api.OK, "shop-2": api.OK, strings.Repeat("z", 32): api.OK,
		"": api.ErrName, "A": api.ErrName, "a b": api.ErrName, "a_b": api.ErrName, "é": api.ErrName, "a\x00": api.ErrName, "\n": api.ErrName, "a.b": api.ErrName,
		strings.Repeat("z", 33): api.ErrName, strings.Repeat("z", 1000): api.ErrName, strings.Repeat("\xff", 32): api.ErrName,
	} {
		judged(t, turned(func(x *api.Span) { x.Name = s }), want)
	}
}

// P9.1: each number at its limits, and beyond them.
func TestCheckRange(t *testing.T) {
	for _, x := range []struct {
		what        string
		set         func(s *api.Span, n int)
		least, most int
	}{
		{"status", func(s *api.Span, n int) { s.Status = n }, 0, 599},
		{"seq", func(s *api.Span, n int) { s.Seq = n }, 0, 63},
		{"kids", func(s *api.Span, n int) { s.Kids = n }, 0, 64},
		{"start with end", func(s *api.Span, n int) { s.Start, s.End = n, n }, 0, 1 << 40},
		{"start", func(s *api.Span, n int) { s.Start = n }, 0, 307},
		{"end", func(s *api.Span, n int) { s.End = n }, 300, 1 << 40},
		{"end of one from 0 on", func(s *api.Span, n int) { s.Start, s.End = 0, n }, 0, 1 << 40},
		{"end of the last start", func(s *api.Span, n int) { s.Start, s.End = 1<<40, n }, 1 << 40, 1 << 40},
		{"start of the last end", func(s *api.Span, n int) { s.Start, s.End = n, 1<<40 }, 0, 1 << 40},
	} {
		for _, n := range []int{x.least, x.least + 1, (x.least + x.most) / 2, x.most - 1, x.most} {
			if x.least <= n && n <= x.most {
				judged(t, turned(func(s *api.Span) { x.set(s, n) }), api.OK)
			}
		}
		for _, n := range []int{x.least - 1, x.most + 1, -1, 1<<40 + 1, -1 << 40, 1 << 62, math.MinInt, math.MinInt + 1, math.MaxInt} {
			s := turned(func(s *api.Span) { x.set(s, n) })
			if e := spanrec.Check(s); e != api.ErrRange {
				t.Errorf("%s: Check of %d = %v; want ErrRange", x.what, n, e)
			}
			judged(t, s, api.ErrRange)
		}
	}
}

// P9.1: what is beyond may not be made good by another number that is beyond, too.
func TestCheckRangeWraps(t *testing.T) {
	for _, x := range [][2]int{{-5, -5}, {-5, -3}, {math.MinInt, math.MinInt}, {math.MinInt, 0}, {math.MinInt, math.MaxInt}, {math.MaxInt, math.MinInt}, {math.MaxInt, math.MaxInt}, {-1, 0}, {1<<40 + 1, 1<<40 + 1}, {1<<40 + 1, 0}} {
		judged(t, turned(func(s *api.Span) { s.Start, s.End = x[0], x[1] }), api.ErrRange)
	}
}

// P9.1: of several faults that is told which is named first.
func TestCheckOrder(t *testing.T) {
	zeros := []func(s *api.Span){func(s *api.Span) { s.Trace = api.Trace{} }, func(s *api.Span) { s.ID = 0 }}
	names := []func(s *api.Span){func(s *api.Span) { s.Name = "" }, func(s *api.Span) { s.Name = "A" }}
	ranges := []func(s *api.Span){func(s *api.Span) { s.Status = 600 }, func(s *api.Span) { s.Seq = -1 }, func(s *api.Span) { s.Kids = 65 }, func(s *api.Span) { s.Start = -1 }, func(s *api.Span) { s.End = 299 }}
	for _, inRange := range ranges {
		for _, inName := range names {
			judged(t, turned(func(s *api.Span) { inRange(s); inName(s) }), api.ErrName)
			for _, inZero := range zeros {
				judged(t, turned(func(s *api.Span) { inRange(s); inName(s); inZero(s) }), api.ErrZero)
				judged(t, turned(func(s *api.Span) { inRange(s); inZero(s) }), api.ErrZero)
				judged(t, turned(func(s *api.Span) { inName(s); inZero(s) }), api.ErrZero)
			}
		}
	}
}

// P9.1: bytes that are written out here.
func TestWrite(t *testing.T) {
	for _, x := range []struct {
		s    api.Span
		want string
	}{
		{good(), "\x00\x00\x00\x00\x00\x00\x00\x01\x00\x00\x00\x00\x00\x00\x00\x02\x00\x00\x00\x00\x00\x00\x00\x03\x00\x00\x00\x00\x00\x00\x00\x04\x04shop\xc8\x01\x05\x06\x01\xac\x02\x07"},
		{api.Span{Trace: api.Trace{Lo: 1}, ID: 1, Name: "a"}, "\x00\x00\x00\x00\x00\x00\x00\x00\x00\x00\x00\x00\x00\x00\x00\x01\x00\x00\x00\x00\x00\x00\x00\x01\x00\x00\x00\x00\x00\x00\x00\x00\x01a\x00\x00\x00\x00\x00\x00"},
		{api.Span{Trace: api.Trace{Hi: 0x0102030405060708, Lo: 0x1112131415161718}, ID: 0x2122232425262728, Up: math.MaxUint64, Name: "x-9", Status: 599, Seq: 63, Kids: 64, End: 1 << 40}, "\x01\x02\x03\x04\x05\x06\x07\x08\x11\x12\x13\x14\x15\x16\x17\x18\x21\x22\x23\x24\x25\x26\x27\x28\xff\xff\xff\xff\xff\xff\xff\xff\x03x-9\xd7\x04\x3f\x40\x00\x00\x80\x80\x80\x80\x80\x20"},
	} {
		if b, e := spanrec.Write(x.s); b != x.want || e != api.OK {
			t.Errorf("Write(%v) = %q, %v; want %q", x.s, b, e, x.want)
		}
		read(t, x.want, 0, x.s, len(x.want))
	}
	if b, _ := spanrec.Write(api.Span{Trace: api.Trace{Lo: 1}, ID: 1, Name: "a", Status: 100, Seq: 1, Kids: 2, Start: 3, End: 9}); len(b) != 40 {
		t.Errorf("a span of a name of one byte, with small numbers, has %d bytes; want 40", len(b))
	}
}

// P9.2: a place below 0 is told ahead of all else.
func TestReadBelow(t *testing.T) {
	for _, s := range []string{"", "x", bytesOf(good()), bytesOf(good()) + bytesOf(good()), strings.Repeat("\xff", 99)} {
		for _, at := range []int{-1, -2, -8, -40, -1 << 32, math.MinInt, math.MinInt + 1} {
			refused(t, s, at, api.ErrArg)
		}
	}
}

// P9.2: bytes that end too soon, and places at the end and behind it.
func TestReadShort(t *testing.T) {
	for _, s := range []string{bytesOf(good()), bytesOf(api.Span{Trace: api.Trace{Hi: 1}, ID: 1, Name: strings.Repeat("a", 32), Status: 599, Start: 1 << 39, End: 1 << 40})} {
		for size := range len(s) {
			refused(t, s[:size], 0, api.ErrShort)
			refused(t, "ahead"+s[:size], 5, api.ErrShort)
		}
		for _, at := range []int{len(s), len(s) + 1, len(s) + 8, 1 << 31, 1 << 32, math.MaxInt - 8, math.MaxInt - 7, math.MaxInt} {
			refused(t, s, at, api.ErrShort)
		}
	}
	refused(t, "", 0, api.ErrShort)
	refused(t, "", math.MaxInt, api.ErrShort)
}

// P9.2: the faults of each part are told ahead of those of all parts behind it, and of Check's.
func TestReadParts(t *testing.T) {
	above := varint.Put(1<<40 + 1)
	numberFaults := map[string]api.Errno{
		"\x80\x00": api.ErrForm, strings.Repeat("\xff", 10): api.ErrForm, strings.Repeat("\x80", 9) + "\x02": api.ErrForm,
		above: api.ErrRange, varint.Put(1 << 41): api.ErrRange, varint.Put(1 << 63): api.ErrRange, varint.Put(math.MaxUint64): api.ErrRange,
	}
	faults := map[int]map[string]api.Errno{
		name:   {"\x80\x00": api.ErrForm, strings.Repeat("\x80", 10): api.ErrForm, "\x21": api.ErrLong, above: api.ErrLong, "\x21" + strings.Repeat("a", 33): api.ErrLong, varint.Put(math.MaxUint64): api.ErrLong},
		status: numberFaults, seq: numberFaults, kids: numberFaults, start: numberFaults, took: numberFaults,
		shade: {"\x02": api.ErrForm, "\x7f": api.ErrForm, "\x80": api.ErrForm, "\xff": api.ErrForm},
	}
	grounds := []api.Span{good(), {}, {Trace: api.Trace{Hi: 1}, Name: "A", Status: 600, Seq: 1 << 40, Kids: 70}}
	for _, ground := range grounds {
		for part, list := range faults {
			for fault, want := range list {
				p := parts(ground)
				p[part] = fault
				refused(t, strings.Join(p, ""), 0, want)
				ahead := strings.Join(p[:part+1], "")
				for _, behind := range []string{"\x02", "\x80\x00", strings.Repeat("\xff", 99), above, "\x21"} {
					refused(t, ahead+behind, 0, want)
				}
				refused(t, "\xff\xff\xff"+ahead, 3, want)
			}
		}
	}
}

// P9.2: a part that lacks is told ahead of what Check has of the parts that are there.
func TestReadShortAheadOfCheck(t *testing.T) {
	for _, s := range []api.Span{{}, {Trace: api.Trace{Hi: 1}, ID: 1, Name: "A", Status: 600, Seq: 64, Kids: 65, Start: 1 << 40, End: 1 << 41}} {
		p := parts(s)
		for size := range len(p) {
			refused(t, strings.Join(p[:size], ""), 0, api.ErrShort)
		}
	}
}

// P9.2: the byte of the shadow is 0 or 1.
func TestReadShade(t *testing.T) {
	for b := range 256 {
		p := parts(good())
		p[shade] = string([]byte{byte(b)})
		s := strings.Join(p, "")
		if b > 1 {
			refused(t, s, 0, api.ErrForm)
			continue
		}
		read(t, s, 0, turned(func(x *api.Span) { x.Shadow = b == 1 }), len(s))
	}
}

// P9.2: MaxTime may be read as each number; of the trace and the spans each number may be, of the name at most 32 bytes.
func TestReadMost(t *testing.T) {
	for _, part := range []int{status, seq, kids} {
		p := parts(good())
		p[part] = varint.Put(1 << 40)
		refused(t, strings.Join(p, ""), 0, api.ErrRange)
		// The number itself is no fault, so the one behind it is told.
		refused(t, strings.Join(p[:part+1], ""), 0, api.ErrShort)
		refused(t, strings.Join(p[:part+1], "")+"\x80\x00", 0, api.ErrForm)
	}
	for _, s := range []api.Span{
		turned(func(x *api.Span) { x.Start, x.End = 1<<40, 1<<40 }),
		turned(func(x *api.Span) { x.Start, x.End = 0, 1<<40 }),
		turned(func(x *api.Span) { x.Name = strings.Repeat("-", 32) }),
		turned(func(x *api.Span) {
			x.Trace, x.ID, x.Up = api.Trace{Hi: math.MaxUint64, Lo: math.MaxUint64}, math.MaxUint64, math.MaxUint64
		}),
	} {
		read(t, bytesOf(s), 0, s, len(bytesOf(s)))
	}
}

// P9.2: what was read may not be.
func TestReadChecks(t *testing.T) {
	for _, x := range []struct {
		turn func(s *api.Span)
		want api.Errno
	}{
		{func(s *api.Span) { s.Trace = api.Trace{} }, api.ErrZero},
		{func(s *api.Span) { s.ID = 0 }, api.ErrZero},
		{func(s *api.Span) { s.ID, s.Name, s.Status = 0, "A", 600 }, api.ErrZero},
		{func(s *api.Span) { s.Name = "" }, api.ErrName},
		{func(s *api.Span) { s.Name = "A" }, api.ErrName},
		{func(s *api.Span) { s.Name = strings.Repeat("\xff", 32) }, api.ErrName},
		{func(s *api.Span) { s.Name, s.Kids = "a b", 65 }, api.ErrName},
		{func(s *api.Span) { s.Status = 600 }, api.ErrRange},
		{func(s *api.Span) { s.Seq = 64 }, api.ErrRange},
		{func(s *api.Span) { s.Kids = 65 }, api.ErrRange},
		{func(s *api.Span) { s.End = 1<<40 + 1 }, api.ErrRange},
		{func(s *api.Span) { s.Start, s.End = 1<<40, 1<<40+1 }, api.ErrRange},
		{func(s *api.Span) { s.Start, s.End = 1<<40, 1<<41 }, api.ErrRange},
	} {
		s := bytesOf(turned(x.turn))
		refused(t, s, 0, x.want)
		refused(t, "ahead"+s+"behind", 5, x.want)
	}
}

// spans has spans that may be, with all edges of their numbers.
func spans() []api.Span {
	var l []api.Span
	add := func(turn func(s *api.Span)) { l = append(l, turned(turn)) }
	for bits := 0; bits < 64; bits += 7 {
		for _, n := range []uint64{1 << bits, 1<<bits + 1, math.MaxUint64 >> bits} {
			add(func(s *api.Span) { s.Trace, s.ID, s.Up = api.Trace{Hi: n}, n, 0 })
			add(func(s *api.Span) { s.Trace, s.ID, s.Up = api.Trace{Lo: n}, 1, n })
			add(func(s *api.Span) { s.Trace.Hi, s.Trace.Lo, s.ID, s.Up = n, n<<1|1, ^n|1, n })
		}
	}
	for size := 1; size <= 32; size++ {
		add(func(s *api.Span) { s.Name = strings.Repeat("a0-z", 8)[:size] })
	}
	for _, n := range []int{0, 1, 99, 100, 127, 128, 255, 256, 404, 598, 599} {
		add(func(s *api.Span) { s.Status, s.Shadow = n, n%2 == 0 })
	}
	for n := range 64 {
		add(func(s *api.Span) { s.Seq, s.Kids, s.Shadow = n, 64-n, n%3 == 0 })
	}
	for bits := 0; bits <= 40; bits++ {
		n := 1 << bits
		add(func(s *api.Span) { s.Start, s.End = n, n })
		add(func(s *api.Span) { s.Start, s.End = n-1, n })
		add(func(s *api.Span) { s.Start, s.End = n-1, 1<<40 })
		add(func(s *api.Span) { s.Start, s.End = 0, n })
	}
	return l
}

// P9.3: what was written is read as it was, whatever stands ahead and behind.
func TestReadOfWrite(t *testing.T) {
	around := []string{"", "\x00", "\x01", "\x80", "\xff\xff\xff\xff\xff\xff\xff\xff\xff\xff\xff", bytesOf(good())}
	for _, s := range spans() {
		judged(t, s, api.OK)
		b, _ := spanrec.Write(s)
		for _, ahead := range around {
			for _, behind := range around {
				read(t, ahead+b+behind, len(ahead), s, len(ahead+b))
			}
		}
	}
}

// onlyOwn: what is read may be, and its bytes are just those; what is not read answers zeros.
func onlyOwn(t *testing.T, s string, at int) {
	t.Helper()
	x, next, e := spanrec.Read(s, at)
	if e != api.OK {
		if x != (api.Span{}) || next != 0 {
			t.Errorf("Read(%q, %d) = %v, %d, %v; want zeros beside the error", s, at, x, next, e)
		}
		return
	}
	if e := spanrec.Check(x); e != api.OK {
		t.Errorf("Read(%q, %d) = %v, which may not be: %v", s, at, x, e)
	}
	if b, e := spanrec.Write(x); e != api.OK || next > len(s) || b != s[at:next] {
		t.Errorf("Read(%q, %d) = %v, %d; but its bytes are %q, %v", s, at, x, next, b, e)
	}
}

// P9.3: of all bytes at each place, with one more and one less.
func TestWriteOfRead(t *testing.T) {
	for _, ground := range []api.Span{good(), {Trace: api.Trace{Lo: 1}, ID: 1, Name: "a"}, {Trace: api.Trace{Hi: math.MaxUint64}, ID: 1, Name: strings.Repeat("b", 32), Status: 599, Seq: 63, Kids: 64, Start: 1<<40 - 1, End: 1 << 40}} {
		s := bytesOf(ground)
		for at := range len(s) {
			onlyOwn(t, s[:at]+s[at+1:], 0)
			onlyOwn(t, s+s, at)
			for b := range 256 {
				c := string([]byte{byte(b)})
				onlyOwn(t, s[:at]+c+s[at+1:], 0)
				onlyOwn(t, c+s[:at]+c+s[at+1:]+c, 1)
				onlyOwn(t, s[:at]+c+s[at:], 0)
			}
		}
	}
}

// P9.3: a number in more bytes than it needs is none.
func TestReadLongerForm(t *testing.T) {
	for _, part := range []int{status, seq, kids, start, took} {
		p := parts(good())
		last := len(p[part]) - 1
		p[part] = p[part][:last] + string([]byte{p[part][last] | 0x80, 0})
		refused(t, strings.Join(p, ""), 0, api.ErrForm)
	}
	p := parts(good())
	p[name] = "\x84\x00shop"
	refused(t, strings.Join(p, ""), 0, api.ErrForm)
}
