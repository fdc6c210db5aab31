package batch_test

import (
	"hash/crc32"
	"math"
	"slices"
	"strings"
	"testing"

	"periscope/api"
	"periscope/batch"
	"periscope/spanrec"
	"periscope/varint"
)

// span is a span that may be, one of many.
func span(n int) api.Span {
	return api.Span{Trace: api.Trace{Hi: uint64(n), Lo: 2}, ID: uint64(n) + 1, Up: uint64(n), Name: "shop", Status: 200 + n, Seq: n, Kids: n, Shadow: n%2 == 1, Start: n, End: 1 << n}
}

func spans(count int) []api.Span {
	var l []api.Span
	for n := range count {
		l = append(l, span(n))
	}
	return l
}

// sealed is a body and its sum, as another program works it out.
func sealed(body string) string {
	sum := crc32.ChecksumIEEE([]byte(body))
	return body + string([]byte{byte(sum >> 24), byte(sum >> 16), byte(sum >> 8), byte(sum)})
}

func spanBytes(t *testing.T, l ...api.Span) string {
	t.Helper()
	s := ""
	for _, x := range l {
		b, e := spanrec.Write(x)
		if e != api.OK {
			t.Fatalf("spanrec.Write(%v): %v", x, e)
		}
		s += b
	}
	return s
}

func same(a, b api.Batch) bool {
	return a.Node == b.Node && a.Seq == b.Seq && slices.Equal(a.Spans, b.Spans)
}

func isZero(b api.Batch) bool {
	return b.Node == 0 && b.Seq == 0 && len(b.Spans) == 0
}

func refused(t *testing.T, s string, want api.Errno) {
	t.Helper()
	if b, e := batch.Read(s); !isZero(b) || e != want {
		t.Errorf("Read(%q) = %v, %v; want %v", s, b, e, want)
	}
}

func ackRefused(t *testing.T, s string, want api.Errno) {
	t.Helper()
	if node, seq, e := batch.ReadAck(s); node != 0 || seq != 0 || e != want {
		t.Errorf("ReadAck(%q) = %d, %d, %v; want %v", s, node, seq, e, want)
	}
}

func faulty(t *testing.T, b api.Batch, want api.Errno) {
	t.Helper()
	if e := batch.Check(b); e != want {
		t.Errorf("Check(%v) = %v; want %v", b, e, want)
	}
	if s, e := batch.Write(b); s != "" || e != want {
		t.Errorf("Write(%v) = %q, %v; want %v", b, s, e, want)
	}
}

// wrongs has nodes, and numbers of batches, beyond their limits.
func wrongs() (nodes, seqs []int) {
	nodes = []int{-1, 8, 9, 256, 1 << 32, 1<<32 + 1, math.MinInt, math.MaxInt}
	seqs = []int{-1, 1<<40 + 1, 1 << 41, 1 << 62, math.MinInt, math.MaxInt}
	return nodes, seqs
}

// P10.1: node, number, and how many spans there are, at their limits and beyond.
func TestCheck(t *testing.T) {
	for node := range 8 {
		for _, seq := range []int{0, 1, 127, 128, 1<<40 - 1, 1 << 40} {
			for _, count := range []int{1, 2, 15, 16} {
				b := api.Batch{Node: node, Seq: seq, Spans: spans(count)}
				if e := batch.Check(b); e != api.OK {
					t.Errorf("Check(%v) = %v", b, e)
				}
			}
		}
	}
	nodes, seqs := wrongs()
	for _, n := range nodes {
		faulty(t, api.Batch{Node: n, Spans: spans(1)}, api.ErrRange)
	}
	for _, n := range seqs {
		faulty(t, api.Batch{Seq: n, Spans: spans(1)}, api.ErrRange)
	}
	faulty(t, api.Batch{}, api.ErrNone)
	faulty(t, api.Batch{Node: 7, Seq: 1 << 40, Spans: []api.Span{}}, api.ErrNone)
	for _, count := range []int{17, 18, 32, 1000} {
		faulty(t, api.Batch{Spans: slices.Repeat(spans(1), count)}, api.ErrFull)
	}
}

// P10.1: of several faults that is told which is named first.
func TestCheckOrder(t *testing.T) {
	for _, l := range [][]api.Span{nil, {}, {{}}, slices.Repeat(spans(1), 17), make([]api.Span, 17)} {
		faulty(t, api.Batch{Node: 8, Spans: l}, api.ErrRange)
		faulty(t, api.Batch{Seq: -1, Spans: l}, api.ErrRange)
		faulty(t, api.Batch{Node: -1, Seq: 1<<40 + 1, Spans: l}, api.ErrRange)
	}
	faulty(t, api.Batch{Spans: make([]api.Span, 17)}, api.ErrFull)
}

// faults has spans that may not be.
func faults() map[api.Errno]api.Span {
	zero, named, ranged := span(1), span(2), span(3)
	zero.ID, named.Name, ranged.Status = 0, "A", 600
	return map[api.Errno]api.Span{api.ErrZero: zero, api.ErrName: named, api.ErrRange: ranged}
}

// P10.1: the first span that may not be is told, wherever it stands.
func TestCheckSpans(t *testing.T) {
	for first, x := range faults() {
		for _, count := range []int{1, 2, 16} {
			for at := range count {
				l := spans(count)
				l[at] = x
				faulty(t, api.Batch{Spans: l}, first)
			}
		}
		for _, y := range faults() {
			faulty(t, api.Batch{Spans: []api.Span{span(0), x, y}}, first)
			faulty(t, api.Batch{Spans: []api.Span{x, span(0), y}}, first)
		}
	}
}

// P10.1: the bytes of a batch; what is handed in stays as it is.
func TestWrite(t *testing.T) {
	for _, x := range []struct {
		b    api.Batch
		want string
	}{
		{api.Batch{Spans: spans(1)}, "PB\x01\x00\x00\x01"},
		{api.Batch{Node: 3, Seq: 5, Spans: spans(2)}, "PB\x01\x03\x05\x02"},
		{api.Batch{Node: 7, Seq: 300, Spans: spans(16)}, "PB\x01\x07\xac\x02\x10"},
		{api.Batch{Node: 1, Seq: 1 << 40, Spans: []api.Span{span(4), span(4), span(3)}}, "PB\x01\x01\x80\x80\x80\x80\x80\x20\x03"},
	} {
		before := slices.Clone(x.b.Spans)
		want := sealed(x.want + spanBytes(t, before...))
		if s, e := batch.Write(x.b); s != want || e != api.OK {
			t.Errorf("Write(%v) = %q, %v; want %q", x.b, s, e, want)
		}
		if !slices.Equal(x.b.Spans, before) {
			t.Errorf("Write turned %v into %v", before, x.b.Spans)
		}
		if b, e := batch.Read(want); !same(b, x.b) || e != api.OK {
			t.Errorf("Read(%q) = %v, %v; want %v", want, b, e, x.b)
		}
	}
}

// unsealed has bytes whose sum does not stand behind them, of a batch and of an answer, and what is told of them.
func unsealed(t *testing.T) map[string]api.Errno {
	whole, ack := sealed("PB\x01\x03\x05\x01"+spanBytes(t, span(0))), sealed("PA\x01\x03\x05")
	return map[string]api.Errno{
		"": api.ErrShort, "P": api.ErrShort, "PB\x01": api.ErrShort, "PA\x01": api.ErrShort, "\x00\x00\x00": api.ErrShort,
		"PB\x01\x00": api.ErrSum, "PA\x01\x00": api.ErrSum, "\x00\x00\x00\x01": api.ErrSum,
		whole[:len(whole)-1]: api.ErrSum, whole[:len(whole)-4]: api.ErrSum, whole + "\x00": api.ErrSum, "x" + whole: api.ErrSum, "PB\x02" + whole[3:]: api.ErrSum,
		ack[:len(ack)-1]: api.ErrSum, ack[:len(ack)-4]: api.ErrSum, ack + "\x00": api.ErrSum, "x" + ack: api.ErrSum, "PA\x01\x08" + ack[4:]: api.ErrSum,
	}
}

// P10.2, P10.3: what is not sealed is told ahead of all else.
func TestReadSealed(t *testing.T) {
	for s, want := range unsealed(t) {
		refused(t, s, want)
		ackRefused(t, s, want)
	}
}

// otherMarks has what begins neither as a batch nor as an answer.
func otherMarks() []string {
	return []string{"", "P", "B", "A", "PB", "PA", "PB\x00", "PB\x02", "PA\x00", "PA\x02", "PB1", "PA1", "pb\x01", "pa\x01", "BP\x01", "AP\x01", "PC\x01", "\x01BP", " PB\x01", "\x00PA\x01", "XB\x01", "XA\x01", "\xd0\x01\x00"}
}

// P10.2, P10.3: what does not begin so is none, whatever stands behind; a batch is no answer, nor the other way.
func TestReadMark(t *testing.T) {
	behinds := []string{"", "\x00", "\x80", "\x00\x00", "\x03\x05", "\x03\x05\x01" + spanBytes(t, span(0)), "\x08\x00\x01", "\x00\x00\x00", strings.Repeat("\xff", 20)}
	for _, behind := range behinds {
		for _, mark := range otherMarks() {
			refused(t, sealed(mark+behind), api.ErrForm)
			ackRefused(t, sealed(mark+behind), api.ErrForm)
		}
		refused(t, sealed("PA\x01"+behind), api.ErrForm)
		ackRefused(t, sealed("PB\x01"+behind), api.ErrForm)
	}
}

// numberFaults has forms that are refused wherever a number of at most so many is read, and what is told of them.
func numberFaults(most int) map[string]api.Errno {
	l := map[string]api.Errno{"\x80\x00": api.ErrForm, "\x81\x80\x00": api.ErrForm, strings.Repeat("\x80", 10): api.ErrForm, strings.Repeat("\xff", 9) + "\x02": api.ErrForm}
	for _, n := range []uint64{uint64(most) + 1, uint64(most) + 2, 1<<40 + 1, 1<<40 + 128, 1 << 62, 1 << 63, math.MaxInt, math.MaxUint64} {
		l[varint.Put(n)] = api.ErrRange
	}
	return l
}

// P10.2: the faults of the three numbers, each ahead of those of all that stands behind.
func TestReadNumbers(t *testing.T) {
	l := spanBytes(t, span(1), span(2))
	behinds := []string{"", "\x80", "\x80\x00", "\x00", "\x08", "\x11", "\x05\x02" + l, "\x02" + l, l, strings.Repeat("\xff", 30)}
	for _, x := range []struct {
		ahead string
		most  int
	}{
		{"", 7}, {"\x00", 1 << 40}, {"\x07", 1 << 40}, {"\x00\x00", 16}, {"\x07\x80\x80\x80\x80\x80\x20", 16},
	} {
		for size := range 9 {
			refused(t, sealed("PB\x01"+x.ahead+strings.Repeat("\x80", size)), api.ErrShort)
		}
		for fault, want := range numberFaults(x.most) {
			for _, behind := range behinds {
				refused(t, sealed("PB\x01"+x.ahead+fault+behind), want)
			}
		}
	}
}

// P10.2: the fault of each span, ahead of those of all that stands behind.
func TestReadSpans(t *testing.T) {
	good := spanBytes(t, span(1))
	bad := map[string]api.Errno{"": api.ErrShort, good[:8]: api.ErrShort, good[:len(good)-1]: api.ErrShort, good[:32] + "\x21": api.ErrLong, good[:33] + "S" + good[34:]: api.ErrName, good[:16] + strings.Repeat("\x00", 8) + good[24:]: api.ErrZero, good[:len(good)-1] + "\x80\x00": api.ErrForm, good[:len(good)-1] + varint.Put(1<<40+1): api.ErrRange}
	for count := 1; count <= 16; count++ {
		for at := range count {
			ahead := "PB\x01\x00\x00" + varint.Put(uint64(count)) + strings.Repeat(good, at)
			for fault, want := range bad {
				refused(t, sealed(ahead+fault), want)
				if want != api.ErrShort {
					refused(t, sealed(ahead+fault+strings.Repeat(good, 16)), want)
					refused(t, sealed(ahead+fault+strings.Repeat("\xff", 99)), want)
				}
			}
		}
	}
}

// P10.2: bytes behind are told ahead of that there are no spans.
func TestReadBehind(t *testing.T) {
	for count := range 17 {
		body := "PB\x01\x02\x09" + varint.Put(uint64(count)) + spanBytes(t, spans(count)...)
		for _, behind := range []string{"\x00", "x", "\x80", "\xff\xff\xff\xff", spanBytes(t, span(0)), sealed(body)} {
			refused(t, sealed(body+behind), api.ErrForm)
		}
		b, e := batch.Read(sealed(body))
		if count == 0 {
			refused(t, sealed(body), api.ErrNone)
		} else if !same(b, api.Batch{Node: 2, Seq: 9, Spans: spans(count)}) || e != api.OK {
			t.Errorf("Read of %d spans: %v, %v", count, b, e)
		}
	}
}

// P10.3: an answer's bytes, at the limits and beyond.
func TestAck(t *testing.T) {
	for _, x := range []struct {
		node, seq int
		want      string
	}{
		{0, 0, "PA\x01\x00\x00"}, {3, 5, "PA\x01\x03\x05"}, {7, 300, "PA\x01\x07\xac\x02"}, {7, 1 << 40, "PA\x01\x07\x80\x80\x80\x80\x80\x20"},
	} {
		want := sealed(x.want)
		if s, e := batch.Ack(x.node, x.seq); s != want || e != api.OK {
			t.Errorf("Ack(%d, %d) = %q, %v; want %q", x.node, x.seq, s, e, want)
		}
		if node, seq, e := batch.ReadAck(want); node != x.node || seq != x.seq || e != api.OK {
			t.Errorf("ReadAck(%q) = %d, %d, %v; want %d, %d", want, node, seq, e, x.node, x.seq)
		}
	}
	ackFaulty := func(node, seq int) {
		if s, e := batch.Ack(node, seq); s != "" || e != api.ErrRange {
			t.Errorf("Ack(%d, %d) = %q, %v; want ErrRange", node, seq, s, e)
		}
	}
	nodes, seqs := wrongs()
	for _, node := range nodes {
		ackFaulty(node, 0)
		for _, seq := range seqs {
			ackFaulty(0, seq)
			ackFaulty(7, seq)
			ackFaulty(node, seq)
		}
	}
}

// P10.3: the faults of the two numbers, each ahead of those of all that stands behind; and bytes behind.
func TestReadAckNumbers(t *testing.T) {
	for _, x := range []struct {
		ahead string
		most  int
	}{
		{"", 7}, {"\x00", 1 << 40}, {"\x07", 1 << 40},
	} {
		for size := range 9 {
			ackRefused(t, sealed("PA\x01"+x.ahead+strings.Repeat("\x80", size)), api.ErrShort)
		}
		for fault, want := range numberFaults(x.most) {
			for _, behind := range []string{"", "\x80", "\x80\x00", "\x00", "\x05", varint.Put(1<<40 + 1), strings.Repeat("\xff", 30)} {
				ackRefused(t, sealed("PA\x01"+x.ahead+fault+behind), want)
			}
		}
	}
	for _, body := range []string{"PA\x01\x00\x00", "PA\x01\x03\x05", "PA\x01\x07\x80\x80\x80\x80\x80\x20"} {
		for _, behind := range []string{"\x00", "x", "\x80", "\x01" + spanBytes(t, span(0)), sealed(body)} {
			ackRefused(t, sealed(body+behind), api.ErrForm)
		}
	}
}

// P10.3: only the first three bytes are looked at.
func TestKind(t *testing.T) {
	for _, behind := range []string{"", "\x00", "x", "\xff\xff\xff\xff\xff", "\x08\x00\x00", sealed(""), sealed("PA\x01\x00\x00"), sealed("PB\x01\x00\x00\x00")} {
		for mark, want := range map[string]int{"PB\x01": 1, "PA\x01": 2} {
			for _, s := range []string{mark + behind, sealed(mark + behind)} {
				if k := batch.Kind(s); k != want {
					t.Errorf("Kind(%q) = %d; want %d", s, k, want)
				}
			}
		}
	}
	for _, mark := range otherMarks() {
		for _, s := range []string{mark, mark + "\x03", sealed(mark + "\xff\xff\xff")} {
			if k := batch.Kind(s); k != 0 {
				t.Errorf("Kind(%q) = %d; want 0", s, k)
			}
		}
	}
}

// P10.4: what was written is read as it was, and is no answer.
func TestReadOfWrite(t *testing.T) {
	for node := range 8 {
		for bits := 0; bits <= 40; bits++ {
			for _, seq := range []int{1<<bits - 1, 1 << bits} {
				want := api.Batch{Node: node, Seq: seq, Spans: spans(1 + (node+bits)%16)}
				s, e := batch.Write(want)
				if e != api.OK || batch.Kind(s) != 1 {
					t.Fatalf("Write(%v) = %q, %v; its kind is %d", want, s, e, batch.Kind(s))
				}
				if b, e := batch.Read(s); !same(b, want) || e != api.OK {
					t.Fatalf("Read(%q) = %v, %v; want %v", s, b, e, want)
				}
				ackRefused(t, s, api.ErrForm)
			}
		}
	}
}

// P10.4: likewise answers, which are no batches.
func TestReadAckOfAck(t *testing.T) {
	for node := range 8 {
		for bits := 0; bits <= 40; bits++ {
			for _, want := range []int{1<<bits - 1, 1 << bits} {
				s, e := batch.Ack(node, want)
				if e != api.OK || batch.Kind(s) != 2 {
					t.Fatalf("Ack(%d, %d) = %q, %v; its kind is %d", node, want, s, e, batch.Kind(s))
				}
				if n, seq, e := batch.ReadAck(s); n != node || seq != want || e != api.OK {
					t.Fatalf("ReadAck(%q) = %d, %d, %v; want %d, %d", s, n, seq, e, node, want)
				}
				refused(t, s, api.ErrForm)
			}
		}
	}
}

// onlyOwn: what is read of s may be, its bytes are just s, and it is not read as both.
func onlyOwn(t *testing.T, s string) {
	t.Helper()
	b, e := batch.Read(s)
	if e != api.OK {
		if !isZero(b) {
			t.Errorf("Read(%q) = %v, %v; want nothing beside the error", s, b, e)
		}
	} else if again, e := batch.Write(b); batch.Check(b) != api.OK || again != s || e != api.OK {
		t.Errorf("Read(%q) = %v; but its bytes are %q, %v", s, b, again, e)
	}
	node, seq, ackErrno := batch.ReadAck(s)
	if ackErrno != api.OK {
		if node != 0 || seq != 0 {
			t.Errorf("ReadAck(%q) = %d, %d, %v; want nothing beside the error", s, node, seq, ackErrno)
		}
	} else if again, ackErrno := batch.Ack(node, seq); again != s || ackErrno != api.OK {
		t.Errorf("ReadAck(%q) = %d, %d; but its bytes are %q, %v", s, node, seq, again, ackErrno)
	}
	if e == api.OK && ackErrno == api.OK {
		t.Errorf("%q is a batch, and an answer, too", s)
	}
}

// P10.4: of all bytes at each place, with one more and one less, whether sealed anew or not.
func TestWriteOfRead(t *testing.T) {
	for _, body := range []string{
		"PB\x01\x03\x05\x01" + spanBytes(t, span(1)),
		"PB\x01\x07\xac\x02\x02" + spanBytes(t, span(0), span(9)),
		"PB\x01\x00\x00\x00",
		"PA\x01\x03\x05",
		"PA\x01\x07\x80\x80\x80\x80\x80\x20",
	} {
		for at := range len(body) {
			onlyOwn(t, sealed(body[:at]))
			onlyOwn(t, sealed(body[:at]+body[at+1:]))
			for c := range 256 {
				other := body[:at] + string([]byte{byte(c)})
				onlyOwn(t, sealed(other+body[at+1:]))
				onlyOwn(t, sealed(other+body[at:]))
				onlyOwn(t, other+sealed(body)[at+1:])
			}
		}
	}
}

// The rules for lists: what is answered is new each time, and what is handed in is not kept.
func TestShared(t *testing.T) {
	given := api.Batch{Node: 1, Seq: 2, Spans: spans(3)}
	s, _ := batch.Write(given)
	clear(given.Spans)
	first, _ := batch.Read(s)
	clear(first.Spans)
	_ = append(first.Spans, span(8))
	second, e := batch.Read(s)
	if !same(second, api.Batch{Node: 1, Seq: 2, Spans: spans(3)}) || e != api.OK {
		t.Errorf("Read(%q) = %v, %v", s, second, e)
	}
}
