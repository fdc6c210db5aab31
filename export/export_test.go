package export_test

import (
	"math"
	"slices"
	"strconv"
	"testing"

	"periscope/api"
	"periscope/batch"
	"periscope/export"
	"periscope/spanrec"
)

// limits is limits that may be.
func limits() api.Limits {
	return api.Limits{Buffer: 5, Batch: 2, Every: 4, Flight: 2, Retry: 3, Tries: 2}
}

// wide is the greatest limits that may be.
func wide() api.Limits {
	return api.Limits{Buffer: 64, Batch: 16, Every: 16, Flight: 8, Retry: 8, Tries: 8}
}

// span is one that may be, and says its number in many fields.
func span(n int) api.Span {
	return api.Span{
		Trace: api.Trace{Hi: uint64(n), Lo: 2}, ID: uint64(n) + 10, Up: uint64(n), Name: "s" + strconv.Itoa(n),
		Status: n % 600, Seq: n % 64, Kids: n % 65, Shadow: n%2 == 1, Start: n, End: n + 3,
	}
}

// spans has so many, with numbers from first on.
func spans(first, size int) []api.Span {
	var l []api.Span
	for i := range size {
		l = append(l, span(first+i))
	}
	return l
}

// made is an exporter of limits that may be.
func made(t *testing.T, node int, c api.Limits) *export.Exporter {
	t.Helper()
	x, errno := export.New(node, c)
	if x == nil || errno != api.OK {
		t.Fatalf("New(%d, %v) = %v, %v", node, c, x, errno)
	}
	return x
}

// put puts spans, for each of which there must be room.
func put(t *testing.T, x *export.Exporter, l []api.Span) {
	t.Helper()
	for _, s := range l {
		if errno := x.Put(s); errno != api.OK {
			t.Fatalf("Put(%v) = %v", s, errno)
		}
	}
}

func sameBatch(a, b api.Batch) bool {
	return a.Node == b.Node && a.Seq == b.Seq && slices.Equal(a.Spans, b.Spans)
}

func sameSent(a, b api.Sent) bool {
	return sameBatch(a.Batch, b.Batch) && a.Tries == b.Tries && a.Due == b.Due
}

// stepped steps, which must send the bytes of just these batches.
func stepped(t *testing.T, x *export.Exporter, now int, want ...api.Batch) {
	t.Helper()
	texts := x.Step(now)
	if len(texts) != len(want) {
		t.Fatalf("Step(%d) = %q; want %v", now, texts, want)
	}
	for i, b := range want {
		if text, errno := batch.Write(b); errno != api.OK || texts[i] != text {
			t.Fatalf("Step(%d)[%d] = %q; want %q, %v", now, i, texts[i], text, errno)
		}
	}
}

// underWay holds what is under way against what it must be.
func underWay(t *testing.T, x *export.Exporter, want ...api.Sent) {
	t.Helper()
	if l := x.Sent(); !slices.EqualFunc(l, want, sameSent) {
		t.Fatalf("Sent() = %v; want %v", l, want)
	}
}

// tallied holds the tally against what it must be.
func tallied(t *testing.T, x *export.Exporter, want api.Tally) {
	t.Helper()
	if got := x.Tally(); got != want {
		t.Fatalf("Tally() = %+v; want %+v", got, want)
	}
}

// outside has what is no number from 1 to most.
func outside(most int) []int {
	return []int{0, -1, -most, math.MinInt, math.MinInt32, -1 << 32, most + 1, most + 2, most + 256, 256 + 1, 1<<32 + 1, math.MaxInt32, math.MaxInt}
}

// P27.1: each limit from 1 to its greatest one may be, and nothing else.
func TestCheck(t *testing.T) {
	for i, most := range []int{64, 16, 16, 8, 8, 8} {
		c := limits()
		field := []*int{&c.Buffer, &c.Batch, &c.Every, &c.Flight, &c.Retry, &c.Tries}[i]
		for n := 1; n <= most; n++ {
			*field = n
			if errno := export.Check(c); errno != api.OK {
				t.Errorf("Check(%v) = %v", c, errno)
			}
			made(t, 3, c)
		}
		for _, n := range outside(most) {
			*field = n
			if errno := export.Check(c); errno != api.ErrRange {
				t.Errorf("Check(%v) = %v", c, errno)
			}
			if x, errno := export.New(3, c); x != nil || errno != api.ErrRange {
				t.Errorf("New(3, %v) = %v, %v", c, x, errno)
			}
		}
	}
	if export.Check(wide()) != api.OK || export.Check(api.Limits{}) != api.ErrRange {
		t.Error("Check of the greatest, and of none")
	}
}

// P27.1: what else limits have is nothing to an exporter.
func TestCheckOthers(t *testing.T) {
	for _, n := range []int{math.MinInt, -1, 0, 5, math.MaxInt} {
		c := limits()
		c.Work, c.Side, c.Aux, c.Traces, c.Lines = n, n, n, n, n
		c.Ids = make([]uint64, 2000)
		if errno := export.Check(c); errno != api.OK {
			t.Errorf("Check = %v", errno)
		}
		made(t, 0, c)
	}
}

// P27.1: a node is one of 0 to 7.
func TestNode(t *testing.T) {
	for node := range 8 {
		x := made(t, node, limits())
		put(t, x, spans(1, 2))
		stepped(t, x, 0, api.Batch{Node: node, Spans: spans(1, 2)})
	}
	for _, node := range []int{-1, -8, 8, 9, 256, 1 << 32, math.MinInt, math.MaxInt} {
		for _, c := range []api.Limits{limits(), {}} {
			if x, errno := export.New(node, c); x != nil || errno != api.ErrRange {
				t.Errorf("New(%d, %v) = %v, %v", node, c, x, errno)
			}
		}
	}
}

// P27.1, P27.3: of a new exporter.
func TestNew(t *testing.T) {
	x := made(t, 0, wide())
	tallied(t, x, api.Tally{})
	underWay(t, x)
	for _, now := range []int{0, 16, 1 << 40, math.MinInt, math.MaxInt} {
		stepped(t, x, now)
	}
	for _, seq := range []int{0, 1, -1, math.MinInt, math.MaxInt} {
		if n := x.Ack(seq); n != 0 {
			t.Errorf("Ack(%d) = %d", seq, n)
		}
	}
	tallied(t, x, api.Tally{})
}

// P27.2: the example.
func TestExample(t *testing.T) {
	x := made(t, 5, limits())
	put(t, x, spans(1, 2))
	stepped(t, x, 1, api.Batch{Node: 5, Seq: 0, Spans: spans(1, 2)})
}

// P27.1: a span that may not be is refused with spanrec's error, and is nowhere, also where there is no room.
func TestPutWrong(t *testing.T) {
	turns := []func(s *api.Span){
		func(s *api.Span) { s.Trace = api.Trace{} },
		func(s *api.Span) { s.ID = 0 },
		func(s *api.Span) { s.Name = "" },
		func(s *api.Span) { s.Name = "A" },
		func(s *api.Span) { s.Status = 600 },
		func(s *api.Span) { s.Seq = 64 },
		func(s *api.Span) { s.Kids = 65 },
		func(s *api.Span) { s.Start = -1 },
		func(s *api.Span) { s.End = s.Start - 1 },
		func(s *api.Span) { s.End = 1<<40 + 1 },
		func(s *api.Span) { *s = api.Span{} },
	}
	x := made(t, 0, limits())
	for waiting := range 6 {
		for i, turn := range turns {
			s := span(3)
			turn(&s)
			want := spanrec.Check(s)
			if want == api.OK {
				t.Fatalf("the span of turn %d may be", i)
			}
			if errno := x.Put(s); errno != want {
				t.Errorf("Put(%v) = %v; want %v", s, errno, want)
			}
		}
		tallied(t, x, api.Tally{Begun: waiting, Waiting: waiting})
		if waiting < 5 {
			put(t, x, spans(waiting, 1))
		}
	}
	if errno := x.Put(span(9)); errno != api.ErrFull {
		t.Errorf("Put = %v; want ErrFull", errno)
	}
	tallied(t, x, api.Tally{Begun: 6, Waiting: 5, Dropped: 1})
}

// P27.1: the edges of what a span may be are put and sent as they are.
func TestPutEdges(t *testing.T) {
	all := []api.Span{
		{Trace: api.Trace{Lo: 1}, ID: 1, Name: "a"},
		{Trace: api.Trace{Hi: math.MaxUint64, Lo: math.MaxUint64}, ID: math.MaxUint64, Up: math.MaxUint64, Name: "abcdefghijklmnopqrstuvwxyz-01234", Status: 599, Seq: 63, Kids: 64, Shadow: true, Start: 1 << 40, End: 1 << 40},
	}
	x := made(t, 7, limits())
	put(t, x, all)
	stepped(t, x, 1, api.Batch{Node: 7, Spans: all})
	// Spans that are alike are spans each.
	put(t, x, []api.Span{all[0], all[0]})
	stepped(t, x, 1, api.Batch{Node: 7, Seq: 1, Spans: []api.Span{all[0], all[0]}})
}

// P27.1, P27.4: of each room, the first spans wait, and all others are lost.
func TestRooms(t *testing.T) {
	for room := 1; room <= 64; room++ {
		c := wide()
		c.Buffer = room
		x := made(t, 0, c)
		for n := range 70 {
			want := api.OK
			if n >= room {
				want = api.ErrFull
			}
			if errno := x.Put(span(n)); errno != want {
				t.Fatalf("Put into %d of %d = %v", n, room, errno)
			}
			wait := min(n+1, room)
			tallied(t, x, api.Tally{Begun: n + 1, Waiting: wait, Dropped: n + 1 - wait})
		}
		// What was lost is never sent; a step makes one batch at most.
		sent := 0
		for seq := 0; sent < room && seq < 8; seq++ {
			size := min(16, room-sent)
			stepped(t, x, (seq+1)*16, append(again(x, (seq+1)*16), api.Batch{Seq: seq, Spans: spans(sent, size)})...)
			sent += size
		}
	}
}

// again is what is under way and due, and not given up at a time, of the widest limits.
func again(x *export.Exporter, now int) []api.Batch {
	var l []api.Batch
	for _, s := range x.Sent() {
		if s.Due <= now && s.Tries < 8 {
			l = append(l, s.Batch)
		}
	}
	return l
}

// P27.2: as many as Batch says are sent at once, whatever the time; fewer wait, till Every ticks are over.
func TestBatchSize(t *testing.T) {
	for size := 1; size <= 16; size++ {
		for waiting := 1; waiting <= 40; waiting++ {
			c := wide()
			c.Batch = size
			x := made(t, 2, c)
			put(t, x, spans(0, waiting))
			now, first := 5, 0
			for seq := 0; seq < 8 && waiting-first >= size; seq++ {
				stepped(t, x, now, api.Batch{Node: 2, Seq: seq, Spans: spans(first, size)})
				first += size
				tallied(t, x, api.Tally{Begun: waiting, Waiting: waiting - first, Sent: first})
			}
			if len(x.Sent()) < 8 {
				stepped(t, x, now)
			}
			tallied(t, x, api.Tally{Begun: waiting, Waiting: waiting - first, Sent: first})
		}
	}
}

// P27.2: what is too little for a batch is sent Every ticks behind the last batch, at first behind 0.
func TestEvery(t *testing.T) {
	for every := 1; every <= 16; every++ {
		c := wide()
		c.Every, c.Batch, c.Retry, c.Tries = every, 3, 8, 1
		x := made(t, 1, c)
		put(t, x, spans(0, 1))
		for now := range every {
			stepped(t, x, now)
		}
		stepped(t, x, every, api.Batch{Node: 1, Spans: spans(0, 1)})
		x.Ack(0)
		put(t, x, spans(1, 2))
		for now := every; now < 2*every; now++ {
			stepped(t, x, now)
		}
		// Later is well, too, and the time of the next one hangs on when this one was sent.
		stepped(t, x, 2*every+5, api.Batch{Node: 1, Seq: 1, Spans: spans(1, 2)})
		x.Ack(1)
		put(t, x, spans(3, 1))
		stepped(t, x, 3*every+4)
		stepped(t, x, 3*every+5, api.Batch{Node: 1, Seq: 2, Spans: spans(3, 1)})
	}
}

// P27.2: what is sent again is no new batch, so that Every is counted from the last new one on; so it is from one that was full.
func TestEveryFrom(t *testing.T) {
	c := wide()
	c.Batch, c.Every, c.Retry, c.Tries = 2, 7, 2, 8
	x := made(t, 0, c)
	put(t, x, spans(0, 3))
	one := api.Batch{Spans: spans(0, 2)}
	stepped(t, x, 10, one)
	stepped(t, x, 12, one)
	stepped(t, x, 14, one)
	stepped(t, x, 16, one)
	stepped(t, x, 17, api.Batch{Seq: 1, Spans: spans(2, 1)})
}

// P27.2: a time that was before does not send what is too little.
func TestBack(t *testing.T) {
	x := made(t, 0, limits())
	put(t, x, spans(0, 1))
	stepped(t, x, 50, api.Batch{Spans: spans(0, 1)})
	x.Ack(0)
	put(t, x, spans(1, 1))
	for _, now := range []int{0, 10, 45, 46, 49, 50, 53, math.MinInt, -1} {
		stepped(t, x, now)
	}
	stepped(t, x, 54, api.Batch{Seq: 1, Spans: spans(1, 1)})
	put(t, x, spans(2, 2))
	stepped(t, x, 7, api.Batch{Seq: 2, Spans: spans(2, 2)})
	underWay(t, x, api.Sent{Batch: api.Batch{Seq: 1, Spans: spans(1, 1)}, Tries: 1, Due: 57}, api.Sent{Batch: api.Batch{Seq: 2, Spans: spans(2, 2)}, Tries: 1, Due: 10})
}

// P27.2: a time below 0 counts as 0, one above 2^40 as that.
func TestTimes(t *testing.T) {
	for now, want := range map[int]int{
		math.MinInt: 0, -1 << 40: 0, -1: 0, 0: 0, 1: 1, 1<<40 - 1: 1<<40 - 1, 1 << 40: 1 << 40, 1<<40 + 1: 1 << 40, math.MaxInt - 1: 1 << 40, math.MaxInt: 1 << 40,
	} {
		x := made(t, 0, limits())
		put(t, x, spans(0, 2))
		stepped(t, x, now, api.Batch{Spans: spans(0, 2)})
		underWay(t, x, api.Sent{Batch: api.Batch{Spans: spans(0, 2)}, Tries: 1, Due: want + 3})
		put(t, x, spans(2, 1))
		switch {
		case want+4 <= 1<<40:
			stepped(t, x, want+2)
			stepped(t, x, want+3, api.Batch{Spans: spans(0, 2)})
			stepped(t, x, want+4, api.Batch{Seq: 1, Spans: spans(2, 1)})
		default:
			// The time goes no further, so that neither this batch nor what waits is ever due again.
			stepped(t, x, math.MaxInt)
			tallied(t, x, api.Tally{Begun: 3, Waiting: 1, Sent: 2})
		}
	}
	x := made(t, 0, limits())
	put(t, x, spans(0, 1))
	stepped(t, x, math.MinInt)
	stepped(t, x, math.MaxInt, api.Batch{Spans: spans(0, 1)})
}

// P27.2, P27.4: no more batches are under way than there may be; the place of one that is acknowledged, or given up just now, is free.
func TestFlight(t *testing.T) {
	for room := 1; room <= 8; room++ {
		c := wide()
		c.Batch, c.Flight, c.Tries, c.Retry = 1, room, 1, 8
		x := made(t, 0, c)
		put(t, x, spans(0, 20))
		for seq := range room {
			stepped(t, x, 1, api.Batch{Seq: seq, Spans: spans(seq, 1)})
		}
		for range 3 {
			stepped(t, x, 1)
		}
		tallied(t, x, api.Tally{Begun: 20, Waiting: 20 - room, Sent: room})
		if n := x.Ack(room - 1); n != 1 {
			t.Fatalf("Ack = %d", n)
		}
		stepped(t, x, 2, api.Batch{Seq: room, Spans: spans(room, 1)})
		stepped(t, x, 2)
		stepped(t, x, 8)
		tallied(t, x, api.Tally{Begun: 20, Waiting: 19 - room, Sent: room, Acked: 1})
		if room == 1 {
			// Nothing that was sent at 1 is left.
			stepped(t, x, 9)
			continue
		}
		// At 9 those that were sent at 1 are given up.
		stepped(t, x, 9, api.Batch{Seq: room + 1, Spans: spans(room+1, 1)})
		tallied(t, x, api.Tally{Begun: 20, Waiting: 18 - room, Sent: 2, Acked: 1, GivenUp: room - 1})
	}
}

// P27.2, P27.4: a batch that nobody acknowledges is sent Tries times, Retry ticks apart, and then given up.
func TestTries(t *testing.T) {
	for retry := 1; retry <= 8; retry++ {
		for tries := 1; tries <= 8; tries++ {
			c := wide()
			c.Retry, c.Tries, c.Batch = retry, tries, 3
			x := made(t, 4, c)
			put(t, x, spans(0, 3))
			b := api.Batch{Node: 4, Spans: spans(0, 3)}
			stepped(t, x, 100, b)
			for now := 101; now < 100+retry*tries; now++ {
				if (now-100)%retry == 0 {
					stepped(t, x, now, b)
				} else {
					stepped(t, x, now)
				}
				times := 1 + (now-100)/retry
				underWay(t, x, api.Sent{Batch: b, Tries: times, Due: 100 + times*retry})
				tallied(t, x, api.Tally{Begun: 3, Sent: 3})
			}
			stepped(t, x, 100+retry*tries)
			underWay(t, x)
			tallied(t, x, api.Tally{Begun: 3, GivenUp: 3})
			if n := x.Ack(0); n != 0 {
				t.Fatalf("Ack of what is given up = %d", n)
			}
			tallied(t, x, api.Tally{Begun: 3, GivenUp: 3})
		}
	}
}

// P27.2: what is sent again stands ahead of the new one, in order.
func TestOrder(t *testing.T) {
	c := wide()
	c.Batch, c.Retry = 1, 5
	x := made(t, 6, c)
	put(t, x, spans(0, 4))
	l := []api.Batch{{Node: 6, Seq: 0, Spans: spans(0, 1)}, {Node: 6, Seq: 1, Spans: spans(1, 1)}, {Node: 6, Seq: 2, Spans: spans(2, 1)}, {Node: 6, Seq: 3, Spans: spans(3, 1)}}
	stepped(t, x, 3, l[0])
	stepped(t, x, 4, l[1])
	stepped(t, x, 5, l[2])
	stepped(t, x, 10, l[0], l[1], l[2], l[3])
	underWay(t, x, api.Sent{Batch: l[0], Tries: 2, Due: 15}, api.Sent{Batch: l[1], Tries: 2, Due: 15}, api.Sent{Batch: l[2], Tries: 2, Due: 15}, api.Sent{Batch: l[3], Tries: 1, Due: 15})
	x.Ack(1)
	stepped(t, x, 14)
	stepped(t, x, 15, l[0], l[2], l[3])
}

// P27.3: how many spans are acknowledged; those of another number stay, and none is acknowledged twice.
func TestAck(t *testing.T) {
	x := made(t, 0, limits())
	put(t, x, spans(0, 3))
	stepped(t, x, 1, api.Batch{Spans: spans(0, 2)})
	stepped(t, x, 5, api.Batch{Spans: spans(0, 2)}, api.Batch{Seq: 1, Spans: spans(2, 1)})
	for _, seq := range []int{2, 3, -1, 1 << 32, math.MinInt, math.MaxInt} {
		if n := x.Ack(seq); n != 0 {
			t.Errorf("Ack(%d) = %d", seq, n)
		}
	}
	tallied(t, x, api.Tally{Begun: 3, Sent: 3})
	if n := x.Ack(0); n != 2 {
		t.Errorf("Ack(0) = %d", n)
	}
	tallied(t, x, api.Tally{Begun: 3, Sent: 1, Acked: 2})
	underWay(t, x, api.Sent{Batch: api.Batch{Seq: 1, Spans: spans(2, 1)}, Tries: 1, Due: 8})
	if n := x.Ack(0); n != 0 {
		t.Errorf("Ack(0) = %d", n)
	}
	if n := x.Ack(1); n != 1 {
		t.Errorf("Ack(1) = %d", n)
	}
	tallied(t, x, api.Tally{Begun: 3, Acked: 3})
	underWay(t, x)
}

// P27.3: of a nil exporter.
func TestNil(t *testing.T) {
	var x *export.Exporter
	for _, s := range []api.Span{span(1), {}} {
		if errno := x.Put(s); errno != api.ErrNil {
			t.Errorf("Put = %v", errno)
		}
	}
	for _, n := range []int{0, 1, -1, math.MinInt, math.MaxInt} {
		stepped(t, x, n)
		if x.Ack(n) != 0 {
			t.Errorf("Ack(%d) of nil", n)
		}
	}
	underWay(t, x)
	tallied(t, x, api.Tally{})
}

// P27.1 to P27.3: an exporter hangs on its own calls alone, and asking changes nothing.
func TestTwo(t *testing.T) {
	one, other := made(t, 1, limits()), made(t, 1, limits())
	put(t, one, spans(0, 5))
	stepped(t, one, 1, api.Batch{Node: 1, Spans: spans(0, 2)})
	tallied(t, other, api.Tally{})
	put(t, other, spans(7, 2))
	stepped(t, other, 2, api.Batch{Node: 1, Spans: spans(7, 2)})
	one.Ack(0)
	for range 3 {
		tallied(t, one, api.Tally{Begun: 5, Waiting: 3, Acked: 2})
		tallied(t, other, api.Tally{Begun: 2, Sent: 2})
		underWay(t, other, api.Sent{Batch: api.Batch{Node: 1, Spans: spans(7, 2)}, Tries: 1, Due: 5})
	}
}

// P27.2, P27.3 under the rules 4 and 5: answers share nothing with what is under way, nor with one another, and the limits' list is not kept.
func TestAnswers(t *testing.T) {
	c := limits()
	c.Ids = []uint64{1, 2, 3}
	x := made(t, 0, c)
	if !slices.Equal(c.Ids, []uint64{1, 2, 3}) {
		t.Error("the limits' numbers were changed")
	}
	put(t, x, spans(0, 4))
	l := []api.Batch{{Spans: spans(0, 2)}, {Seq: 1, Spans: spans(2, 2)}}
	stepped(t, x, 1, l[0])
	stepped(t, x, 1, l[1])
	want := []api.Sent{{Batch: l[0], Tries: 1, Due: 4}, {Batch: l[1], Tries: 1, Due: 4}}
	one, other := x.Sent(), x.Sent()
	spoil(one)
	if !slices.EqualFunc(other, want, sameSent) {
		t.Fatalf("answers share memory: %v", other)
	}
	underWay(t, x, want...)
	texts := x.Step(4)
	kept := slices.Clone(texts)
	more := x.Step(7)
	for i := range more {
		more[i] = ""
	}
	if !slices.Equal(texts, kept) || !slices.EqualFunc(other, want, sameSent) {
		t.Fatalf("an answer changed: %q, %v", texts, other)
	}
	x.Ack(0)
	if !slices.EqualFunc(other, want, sameSent) {
		t.Fatalf("an answer changed: %v", other)
	}
}

// spoil writes into all lists, also behind their ends.
func spoil(l []api.Sent) {
	for i := range l {
		all := l[i].Batch.Spans[:cap(l[i].Batch.Spans)]
		for k := range all {
			all[k] = span(500)
		}
	}
	l = l[:cap(l)]
	for i := range l {
		l[i] = api.Sent{Tries: 99}
	}
}

// plain is an exporter as plain lists tell it.
type plain struct {
	c                       api.Limits
	node, next, last        int
	wait                    []api.Span
	sent                    []api.Sent
	acked, dropped, givenUp int
}

func (p *plain) put(s api.Span) api.Errno {
	if len(p.wait) == p.c.Buffer {
		p.dropped++
		return api.ErrFull
	}
	p.wait = append(slices.Clone(p.wait), s)
	return api.OK
}

func (p *plain) step(now int) []api.Batch {
	var rest []api.Sent
	var out []api.Batch
	for _, s := range p.sent {
		if now >= s.Due {
			if s.Tries == p.c.Tries {
				p.givenUp += len(s.Batch.Spans)
				continue
			}
			s.Tries++
			s.Due = now + p.c.Retry
			out = append(out, s.Batch)
		}
		rest = append(rest, s)
	}
	p.sent = rest
	size := min(len(p.wait), p.c.Batch)
	if size > 0 && len(p.sent) < p.c.Flight && (size == p.c.Batch || now-p.last >= p.c.Every) {
		b := api.Batch{Node: p.node, Seq: p.next, Spans: slices.Clone(p.wait[:size])}
		p.wait = slices.Clone(p.wait[size:])
		p.sent = append(p.sent, api.Sent{Batch: b, Tries: 1, Due: now + p.c.Retry})
		p.next++
		p.last = now
		out = append(out, b)
	}
	return out
}

func (p *plain) ack(seq int) int {
	for i, s := range p.sent {
		if s.Batch.Seq == seq {
			p.sent = slices.Concat(p.sent[:i], p.sent[i+1:])
			p.acked += len(s.Batch.Spans)
			return len(s.Batch.Spans)
		}
	}
	return 0
}

func (p *plain) tally() api.Tally {
	t := api.Tally{Waiting: len(p.wait), Acked: p.acked, Dropped: p.dropped, GivenUp: p.givenUp}
	for _, s := range p.sent {
		t.Sent += len(s.Batch.Spans)
	}
	t.Begun = t.Waiting + t.Sent + t.Acked + t.Dropped + t.GivenUp
	return t
}

// P27.1 to P27.4: behind many calls, in a row that a short rule makes, all is as plain lists tell it; each span that was put is in one place.
func TestLong(t *testing.T) {
	var all api.Tally
	for seed := range uint32(60) {
		state := seed
		draw := func(most int) int {
			state = state*1664525 + 1013904223
			return int(state >> 10 % uint32(most))
		}
		c := api.Limits{Buffer: 1 + draw(20), Batch: 1 + draw(16), Every: 1 + draw(16), Flight: 1 + draw(8), Retry: 1 + draw(8), Tries: 1 + draw(8)}
		node := draw(8)
		x := made(t, node, c)
		p := plain{c: c, node: node}
		now, puts := 0, 0
		for step := range 1500 {
			switch kind := draw(10); {
			case kind < 5:
				want := p.put(span(step))
				if errno := x.Put(span(step)); errno != want {
					t.Fatalf("Put = %v; want %v", errno, want)
				}
				puts++
			case kind < 6:
				seq := p.next - draw(10)
				want := p.ack(seq)
				if n := x.Ack(seq); n != want {
					t.Fatalf("Ack(%d) = %d; want %d", seq, n, want)
				}
			default:
				now += draw(3)
				stepped(t, x, now, p.step(now)...)
			}
			underWay(t, x, p.sent...)
			tallied(t, x, p.tally())
			if x.Tally().Begun != puts || len(x.Sent()) > c.Flight || x.Tally().Waiting > c.Buffer {
				t.Fatalf("%d were put; %+v", puts, x.Tally())
			}
		}
		all.Acked += x.Tally().Acked
		all.Dropped += x.Tally().Dropped
		all.GivenUp += x.Tally().GivenUp
	}
	if all.Acked == 0 || all.Dropped == 0 || all.GivenUp == 0 {
		t.Errorf("too little happened: %+v", all)
	}
}
