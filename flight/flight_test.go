package flight_test

import (
	"math"
	"slices"
	"strconv"
	"testing"

	"periscope/api"
	"periscope/flight"
)

// ofSize has a number and so many spans, each of which says whose it is.
func ofSize(seq, size int) api.Batch {
	b := api.Batch{Node: seq * 3, Seq: seq}
	for i := range size {
		b.Spans = append(b.Spans, api.Span{Trace: api.Trace{Hi: 1, Lo: 2}, ID: uint64(100*seq + i), Name: "s" + strconv.Itoa(i), Kids: 2, Shadow: true, Start: 3, End: 4})
	}
	return b
}

// sent is a batch that is under way.
func sent(seq, size, tries, due int) api.Sent {
	return api.Sent{Batch: ofSize(seq, size), Tries: tries, Due: due}
}

// mixed has batches of all kinds, some of them alike.
func mixed() []api.Sent {
	return []api.Sent{
		sent(5, 2, 1, 10), sent(3, 0, 2, 12), sent(5, 1, 3, 8), sent(0, 16, 1, 0), sent(-1, 3, 0, -4),
		sent(3, 0, 2, 12), sent(math.MaxInt, 1, math.MaxInt, math.MaxInt), sent(math.MinInt, 0, math.MinInt, math.MinInt), sent(7, 40, 8, 9),
	}
}

// deep is a list of which nothing is shared.
func deep(l []api.Sent) []api.Sent {
	var out []api.Sent
	for _, s := range l {
		s.Batch = deepBatch(s.Batch)
		out = append(out, s)
	}
	return out
}

func deepBatch(b api.Batch) api.Batch {
	b.Spans = slices.Clone(b.Spans)
	return b
}

func sameBatch(a, b api.Batch) bool {
	return a.Node == b.Node && a.Seq == b.Seq && slices.Equal(a.Spans, b.Spans)
}

func sameSent(a, b api.Sent) bool {
	return sameBatch(a.Batch, b.Batch) && a.Tries == b.Tries && a.Due == b.Due
}

// held holds a list of what is under way against what it must be.
func held(t *testing.T, name string, got []api.Sent, want ...api.Sent) {
	t.Helper()
	if !slices.EqualFunc(got, want, sameSent) {
		t.Fatalf("%s = %v; want %v", name, got, want)
	}
}

// heldBatches holds a list of batches against what it must be.
func heldBatches(t *testing.T, name string, got []api.Batch, want ...api.Batch) {
	t.Helper()
	if !slices.EqualFunc(got, want, sameBatch) {
		t.Fatalf("%s = %v; want %v", name, got, want)
	}
}

// times has what is asked for, with what it counts as.
func times() map[int]int {
	return map[int]int{
		math.MinInt: 0, math.MinInt + 1: 0, math.MinInt32: 0, -1<<40 - 1: 0, -8: 0, -1: 0, 0: 0, 1: 1, 2: 2, 7: 7, 50: 50,
		math.MaxInt32: math.MaxInt32, 1 << 32: 1 << 32, 1<<40 - 9: 1<<40 - 9, 1<<40 - 1: 1<<40 - 1, 1 << 40: 1 << 40,
		1<<40 + 1: 1 << 40, 1<<40 + 8: 1 << 40, 1 << 41: 1 << 40, math.MaxInt - 8: 1 << 40, math.MaxInt - 1: 1 << 40, math.MaxInt: 1 << 40,
	}
}

// retries has what is asked for, with what it counts as.
func retries() map[int]int {
	return map[int]int{
		math.MinInt: 1, -1 << 32: 1, -8: 1, -1: 1, 0: 1, 1: 1, 2: 2, 3: 3, 4: 4, 5: 5, 6: 6, 7: 7, 8: 8,
		9: 8, 10: 8, 16: 8, 256: 8, 1<<32 + 1: 8, 1 << 40: 8, math.MaxInt - 1: 8, math.MaxInt: 8,
	}
}

// P26.1, P26.2: the example.
func TestExample(t *testing.T) {
	l := flight.Send(nil, ofSize(1, 2), 5, 2)
	held(t, "Send", l, sent(1, 2, 1, 7))
	rest, again, given := flight.Step(l, 6, 2, 8)
	held(t, "rest", rest, l...)
	heldBatches(t, "again", again)
	heldBatches(t, "given", given)
	rest, again, given = flight.Step(l, 7, 2, 8)
	held(t, "rest", rest, sent(1, 2, 2, 9))
	heldBatches(t, "again", again, ofSize(1, 2))
	heldBatches(t, "given", given)
}

// P26.1: the new one stands behind all others, which stay, and was sent once.
func TestSend(t *testing.T) {
	for size := range len(mixed()) + 1 {
		for _, b := range []api.Batch{{}, ofSize(5, 1), ofSize(2, 16), ofSize(-7, 100), {Node: math.MinInt, Seq: math.MaxInt}} {
			l := mixed()[:size]
			got := flight.Send(l, b, 40, 3)
			held(t, "Send", got, append(mixed()[:size], api.Sent{Batch: b, Tries: 1, Due: 43})...)
		}
	}
	held(t, "Send", flight.Send([]api.Sent{}, ofSize(1, 1), 1, 1), sent(1, 1, 1, 2))
}

// P26.1: now and retry together, as they count.
func TestSendDue(t *testing.T) {
	for now, time := range times() {
		for retry, wait := range retries() {
			held(t, "Send", flight.Send(nil, ofSize(1, 1), now, retry), sent(1, 1, 1, time+wait))
		}
	}
}

// P26.1: all batches of that number are gone, and their spans are counted; all others stay, in their order.
func TestAck(t *testing.T) {
	for size := range len(mixed()) + 1 {
		for _, seq := range []int{5, 3, 0, -1, 7, 1, -5, 15, 5 + 1<<32, math.MaxInt, math.MinInt} {
			var want []api.Sent
			spans := 0
			for _, s := range mixed()[:size] {
				if s.Batch.Seq == seq {
					spans += len(s.Batch.Spans)
				} else {
					want = append(want, s)
				}
			}
			rest, n := flight.Ack(mixed()[:size], seq)
			held(t, "Ack", rest, want...)
			if n != spans {
				t.Errorf("Ack(%d) of %d = %d; want %d", seq, size, n, spans)
			}
		}
	}
	rest, n := flight.Ack(mixed(), 5)
	if len(rest) != len(mixed())-2 || n != 3 {
		t.Errorf("Ack of two = %v, %d", rest, n)
	}
	if rest, n := flight.Ack(nil, 0); len(rest) != 0 || n != 0 {
		t.Errorf("Ack of nothing = %v, %d", rest, n)
	}
}

// P26.1: what is acknowledged hangs on no node, no try and no time.
func TestAckOthers(t *testing.T) {
	a, b := sent(4, 2, 1, 7), sent(4, 3, 5, 900)
	a.Batch.Node, b.Batch.Node = 0, 7
	rest, n := flight.Ack([]api.Sent{a, sent(6, 1, 1, 7), b}, 4)
	held(t, "Ack", rest, sent(6, 1, 1, 7))
	if n != 5 {
		t.Errorf("Ack = %d; want 5", n)
	}
}

// P26.1: how many spans there are together.
func TestSpans(t *testing.T) {
	want := 0
	for size, s := range mixed() {
		if n := flight.Spans(mixed()[:size]); n != want {
			t.Errorf("Spans of %d = %d; want %d", size, n, want)
		}
		want += len(s.Batch.Spans)
	}
	if n := flight.Spans(mixed()); n != 63 {
		t.Errorf("Spans = %d; want 63", n)
	}
	if flight.Spans(nil) != 0 || flight.Spans([]api.Sent{}) != 0 || flight.Spans([]api.Sent{{}, {}}) != 0 {
		t.Error("Spans of nothing")
	}
}

// P26.2, P26.3: what is not due is as it was, whatever its tries.
func TestStepDue(t *testing.T) {
	for now, time := range times() {
		for _, ahead := range []int{-3, -2, -1, 0, 1, 2, 8} {
			for _, tries := range []int{math.MinInt, -1, 0, 1, 4, 7, 8, math.MaxInt} {
				s := sent(2, 3, tries, time+ahead)
				rest, again, given := flight.Step([]api.Sent{s}, now, 3, 5)
				switch {
				case ahead > 0:
					held(t, "rest", rest, s)
					heldBatches(t, "again", again)
					heldBatches(t, "given", given)
				case tries >= 5:
					held(t, "rest", rest)
					heldBatches(t, "again", again)
					heldBatches(t, "given", given, s.Batch)
				default:
					held(t, "rest", rest, sent(2, 3, tries+1, time+3))
					heldBatches(t, "again", again, s.Batch)
					heldBatches(t, "given", given)
				}
			}
		}
	}
}

// P26.2: when it is sent next is now and retry together, as they count, and hangs on nothing that was.
func TestStepRetry(t *testing.T) {
	for now, time := range times() {
		for retry, wait := range retries() {
			for _, due := range []int{math.MinInt, -5, 0} {
				rest, again, given := flight.Step([]api.Sent{sent(2, 1, 3, due)}, now, retry, 4)
				held(t, "rest", rest, sent(2, 1, 4, time+wait))
				heldBatches(t, "again", again, ofSize(2, 1))
				heldBatches(t, "given", given)
			}
		}
	}
}

// P26.2: what was sent tries times, or more often, is given up; tries may be any number.
func TestStepTries(t *testing.T) {
	edges := []int{math.MinInt, math.MinInt + 1, -9, -1, 0, 1, 2, 7, 8, 9, 1 << 32, math.MaxInt - 1, math.MaxInt}
	for _, tries := range edges {
		for _, was := range edges {
			rest, again, given := flight.Step([]api.Sent{sent(2, 1, was, 5)}, 5, 2, tries)
			if was >= tries {
				held(t, "rest", rest)
				heldBatches(t, "again", again)
				heldBatches(t, "given", given, ofSize(2, 1))
			} else {
				held(t, "rest", rest, sent(2, 1, was+1, 7))
				heldBatches(t, "again", again, ofSize(2, 1))
				heldBatches(t, "given", given)
			}
		}
	}
}

// P26.2, P26.3: of lists of all kinds of batches the three lists are in order; each batch rests or is given up.
func TestStepOrder(t *testing.T) {
	const kinds, size = 4, 6
	rows := 1
	for range size {
		rows *= kinds
	}
	for row := range rows {
		var l, rest []api.Sent
		var again, given []api.Batch
		for n, i := row, 0; i < size; n, i = n/kinds, i+1 {
			// Two numbers are alike, and one batch has no spans.
			seq, spans := i%5, (i+1)%4
			switch n % kinds {
			case 0:
				l = append(l, sent(seq, spans, 9, 21))
				rest = append(rest, sent(seq, spans, 9, 21))
			case 1:
				l = append(l, sent(seq, spans, 3, 20))
				given = append(given, ofSize(seq, spans))
			case 2:
				l = append(l, sent(seq, spans, 2, 20))
				rest = append(rest, sent(seq, spans, 3, 24))
				again = append(again, ofSize(seq, spans))
			case 3:
				l = append(l, sent(seq, spans, 1, -7))
				rest = append(rest, sent(seq, spans, 2, 24))
				again = append(again, ofSize(seq, spans))
			}
		}
		gotRest, gotAgain, gotGiven := flight.Step(l, 20, 4, 3)
		held(t, "rest", gotRest, rest...)
		heldBatches(t, "again", gotAgain, again...)
		heldBatches(t, "given", gotGiven, given...)
	}
	if rest, again, given := flight.Step(nil, 5, 1, 1); len(rest) != 0 || len(again) != 0 || len(given) != 0 {
		t.Errorf("Step of nothing = %v, %v, %v", rest, again, given)
	}
}

// P26.3: a batch that nobody acknowledges is sent tries times, each retry ticks behind the last time, and then given up.
func TestLife(t *testing.T) {
	for retry := 1; retry <= 8; retry++ {
		for tries := 1; tries <= 8; tries++ {
			const begin = 100
			l := flight.Send(nil, ofSize(1, 2), begin, retry)
			for now := begin; now <= begin+retry*tries+20; now++ {
				var again, given []api.Batch
				l, again, given = flight.Step(l, now, retry, tries)
				times := (now - begin) / retry
				onTime := now > begin && (now-begin)%retry == 0
				if sends := onTime && times < tries; sends != (len(again) == 1) {
					t.Fatalf("retry %d, tries %d: sent again at %d: %v", retry, tries, now-begin, again)
				}
				if ends := onTime && times == tries; ends != (len(given) == 1) {
					t.Fatalf("retry %d, tries %d: given up at %d: %v", retry, tries, now-begin, given)
				}
				if left := times < tries; left != (len(l) == 1) {
					t.Fatalf("retry %d, tries %d: at %d %v", retry, tries, now-begin, l)
				}
			}
		}
	}
}

// calls has each call that answers lists: all that it answers of a list and of a batch.
func calls() map[string]func(l []api.Sent, b api.Batch) ([]api.Sent, []api.Batch, []api.Batch) {
	return map[string]func(l []api.Sent, b api.Batch) ([]api.Sent, []api.Batch, []api.Batch){
		"Send": func(l []api.Sent, b api.Batch) ([]api.Sent, []api.Batch, []api.Batch) {
			return flight.Send(l, b, 9, 2), nil, nil
		},
		"Ack": func(l []api.Sent, b api.Batch) ([]api.Sent, []api.Batch, []api.Batch) {
			rest, _ := flight.Ack(l, 5)
			return rest, nil, nil
		},
		"Ack of none": func(l []api.Sent, b api.Batch) ([]api.Sent, []api.Batch, []api.Batch) {
			rest, _ := flight.Ack(l, 99)
			return rest, nil, nil
		},
		"Step": func(l []api.Sent, b api.Batch) ([]api.Sent, []api.Batch, []api.Batch) {
			return flight.Step(l, 10, 2, 3)
		},
		"Step of none": func(l []api.Sent, b api.Batch) ([]api.Sent, []api.Batch, []api.Batch) {
			return flight.Step(l, 0, 2, 3)
		},
		"Step of all": func(l []api.Sent, b api.Batch) ([]api.Sent, []api.Batch, []api.Batch) {
			return flight.Step(l, math.MaxInt, 2, math.MaxInt)
		},
		"Step to the end": func(l []api.Sent, b api.Batch) ([]api.Sent, []api.Batch, []api.Batch) {
			return flight.Step(l, math.MaxInt, 2, math.MinInt)
		},
	}
}

// spoil writes into all lists, also behind their ends.
func spoil(l []api.Sent, lists ...[]api.Batch) {
	for i := range l {
		spoilSpans(l[i].Batch.Spans)
	}
	l = l[:cap(l)]
	for i := range l {
		l[i] = sent(-99, 1, -99, -99)
	}
	for _, batches := range lists {
		for i := range batches {
			spoilSpans(batches[i].Spans)
		}
		batches = batches[:cap(batches)]
		for i := range batches {
			batches[i] = ofSize(-99, 1)
		}
	}
}

func spoilSpans(l []api.Span) {
	l = l[:cap(l)]
	for i := range l {
		l[i] = api.Span{ID: 99999}
	}
}

// P26.1, P26.2 under the rules 4 and 5: what is handed in stays as it is, also behind its end, and answers share nothing with it, nor with one another, nor do two lists of one answer.
func TestApart(t *testing.T) {
	for name, call := range calls() {
		for size := range len(mixed()) + 1 {
			whole := mixed()
			// Behind the batch's last span stands one that is not of it.
			b := ofSize(6, 3)
			b.Spans = b.Spans[:2]
			before, beforeB := deep(whole), deepBatch(b)
			l := whole[:size]
			rest, again, given := call(l, b)
			otherRest, otherAgain, otherGiven := call(l, b)
			want, wantAgain, wantGiven := call(deep(l), deepBatch(b))
			spoil(otherRest)
			heldBatches(t, name, otherAgain, wantAgain...)
			heldBatches(t, name, otherGiven, wantGiven...)
			spoil(nil, otherAgain)
			heldBatches(t, name, otherGiven, wantGiven...)
			spoil(nil, otherGiven)
			held(t, name+": what was handed in", whole, before...)
			heldBatches(t, name+": what was handed in", []api.Batch{b, {Spans: b.Spans[:3]}}, beforeB, api.Batch{Spans: ofSize(6, 3).Spans})
			spoil(whole)
			spoilSpans(b.Spans)
			held(t, name, rest, want...)
			heldBatches(t, name, again, wantAgain...)
			heldBatches(t, name, given, wantGiven...)
		}
	}
}

// P26.2: what is answered beside nothing is nothing.
func TestZero(t *testing.T) {
	for name, call := range calls() {
		rest, again, given := call(nil, api.Batch{})
		if name == "Send" {
			held(t, name, rest, api.Sent{Tries: 1, Due: 11})
			continue
		}
		if len(rest)+len(again)+len(given) != 0 {
			t.Errorf("%s of nothing = %v, %v, %v", name, rest, again, given)
		}
	}
}

// P26.1 to P26.3: behind many calls, in a row that a short rule makes, each span is under way, or was acknowledged or given up, once.
func TestLong(t *testing.T) {
	for seed := range uint32(30) {
		var l []api.Sent
		put, acked, lost, now := 0, 0, 0, 0
		state := seed
		for step := range 1000 {
			state = state*1664525 + 1013904223
			switch state >> 9 % 4 {
			case 0, 1:
				size := int(state >> 16 % 17)
				l = flight.Send(l, ofSize(step, size), now, 3)
				put += size
			case 2:
				rest, n := flight.Ack(l, step-int(state>>16%8))
				l = rest
				acked += n
			case 3:
				now++
				rest, _, given := flight.Step(l, now, 3, 4)
				l = rest
				for _, b := range given {
					lost += len(b.Spans)
				}
			}
			if put != flight.Spans(l)+acked+lost {
				t.Fatalf("step %d: %d were put; %d are under way, %d acknowledged, %d given up", step, put, flight.Spans(l), acked, lost)
			}
		}
		if acked == 0 || lost == 0 {
			t.Errorf("%d: %d acknowledged, %d given up", seed, acked, lost)
		}
	}
}
