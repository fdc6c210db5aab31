package buffer_test

import (
	"math"
	"slices"
	"strconv"
	"testing"

	"periscope/api"
	"periscope/buffer"
)

// span is one in which each field says something.
func span(n int) api.Span {
	return api.Span{
		Trace: api.Trace{Hi: uint64(n), Lo: 2}, ID: uint64(n) + 10, Up: uint64(n), Name: "s" + strconv.Itoa(n),
		Status: n, Seq: 5, Kids: 9, Shadow: n%2 == 1, Start: 100, End: 3,
	}
}

// spans has so many, no two of which are alike.
func spans(first, size int) []api.Span {
	var l []api.Span
	for i := range size {
		l = append(l, span(first+i))
	}
	return l
}

// put puts each span, the first ones of which must find room.
func put(t *testing.T, b *buffer.Buffer, l []api.Span, fit int) {
	t.Helper()
	for i, s := range l {
		if ok := b.Put(s); ok != (i < fit) {
			t.Fatalf("Put(%v), the one at %d = %v; want %v", s, i, ok, i < fit)
		}
	}
}

// held holds all that a buffer tells against what it must be.
func held(t *testing.T, b *buffer.Buffer, lost int, want ...api.Span) {
	t.Helper()
	if l := b.All(); !slices.Equal(l, want) {
		t.Fatalf("All() = %v; want %v", l, want)
	}
	if b.Len() != len(want) || b.Lost() != lost {
		t.Fatalf("Len, Lost = %d, %d; want %d, %d", b.Len(), b.Lost(), len(want), lost)
	}
}

// taken takes n, which must be answered so.
func taken(t *testing.T, b *buffer.Buffer, n int, want ...api.Span) {
	t.Helper()
	if l := b.Take(n); !slices.Equal(l, want) {
		t.Fatalf("Take(%d) = %v; want %v", n, l, want)
	}
}

// rooms has what is asked for, with what there is.
func rooms() map[int]int {
	l := map[int]int{
		math.MinInt: 1, math.MinInt32: 1, -1 << 40: 1, -64: 1, -2: 1, -1: 1, 0: 1,
		65: 64, 66: 64, 128: 64, 256: 64, 257: 64, 1 << 16: 64, 1 << 32: 64, 1<<32 + 1: 64, 1 << 40: 64, math.MaxInt32: 64, math.MaxInt: 64,
	}
	for room := 1; room <= 64; room++ {
		l[room] = room
	}
	return l
}

// P25.1, P25.2: nothing waits at first, and none is lost, whatever the room.
func TestNew(t *testing.T) {
	for room := range rooms() {
		b := buffer.New(room)
		held(t, b, 0)
		taken(t, b, 1)
		taken(t, b, math.MaxInt)
		held(t, b, 0)
	}
}

// P25.1: the example.
func TestExample(t *testing.T) {
	b := buffer.New(1)
	put(t, b, spans(0, 2), 1)
	held(t, b, 1, span(0))
}

// P25.1, P25.2, P25.3: of each room, span by span, the first ones wait, and all others are lost.
func TestRooms(t *testing.T) {
	all := spans(1, 150)
	for asked, room := range rooms() {
		b := buffer.New(asked)
		for i := range all {
			put(t, b, all[i:i+1], room-i)
			fit := min(i+1, room)
			held(t, b, i+1-fit, all[:fit]...)
		}
	}
}

// P25.1: the first n are taken, the others wait as they did.
func TestTake(t *testing.T) {
	for size := range 65 {
		all := spans(1, size)
		for n := range 70 {
			b := buffer.New(64)
			put(t, b, all, size)
			gone := min(n, size)
			taken(t, b, n, all[:gone]...)
			held(t, b, 0, all[gone:]...)
			taken(t, b, math.MaxInt, all[gone:]...)
			held(t, b, 0)
		}
	}
}

// P25.1: none is taken below 1, all of more than there are.
func TestTakeEdges(t *testing.T) {
	for size := range 5 {
		all := spans(1, size)
		for _, n := range []int{0, -1, -2, -64, math.MinInt32, -1<<32 + 1, math.MinInt, math.MinInt + 1} {
			b := buffer.New(4)
			put(t, b, all, size)
			taken(t, b, n)
			held(t, b, 0, all...)
		}
		for _, n := range []int{size, size + 1, 64, 65, 1 << 32, 1<<32 - 1, 1 << 40, math.MaxInt32, math.MaxInt} {
			b := buffer.New(4)
			put(t, b, all, size)
			taken(t, b, n, all...)
			held(t, b, 0)
			taken(t, b, n)
			held(t, b, 0)
		}
	}
}

// P25.1, P25.3: there is room again for as many as were taken, and what is lost is never there.
func TestFreed(t *testing.T) {
	for _, room := range []int{1, 2, 3, 7, 63, 64} {
		for n := range room + 1 {
			b := buffer.New(room)
			put(t, b, spans(0, room+3), room)
			taken(t, b, n, spans(0, n)...)
			put(t, b, spans(100, n+2), n)
			held(t, b, 5, append(spans(n, room-n), spans(100, n)...)...)
			taken(t, b, room-n, spans(n, room-n)...)
			taken(t, b, room, spans(100, n)...)
			held(t, b, 5)
		}
	}
}

// P25.1: a span is any one, and spans that are alike are spans each.
func TestSpans(t *testing.T) {
	all := []api.Span{{}, {}, span(1), span(1), {ID: math.MaxUint64, Status: math.MinInt, Seq: -1, Kids: math.MaxInt, Name: "\xff\x00\n", Start: math.MaxInt, End: math.MinInt}, {}, span(1)}
	for room := 1; room < len(all)+2; room++ {
		b := buffer.New(room)
		fit := min(room, len(all))
		put(t, b, all, fit)
		held(t, b, len(all)-fit, all[:fit]...)
		taken(t, b, len(all), all[:fit]...)
	}
}

// P25.1 to P25.3: behind many calls, in a row that a short rule makes, all is as a plain list tells it.
func TestLong(t *testing.T) {
	for seed := range uint32(40) {
		room := 1 + int(seed*7%64)
		b := buffer.New(room)
		var want []api.Span
		lost := 0
		state := seed
		for step := range 2000 {
			state = state*1664525 + 1013904223
			if state>>9%uint32(room+3) == 0 {
				n := int(state>>16%70) - 2
				gone := min(max(n, 0), len(want))
				taken(t, b, n, want[:gone]...)
				want = want[gone:]
			} else {
				fits := len(want) < room
				if ok := b.Put(span(step)); ok != fits {
					t.Fatalf("Put into %d of %d = %v", len(want), room, ok)
				}
				if fits {
					want = append(want, span(step))
				} else {
					lost++
				}
			}
			held(t, b, lost, want...)
		}
	}
}

// P25.2: each span that found no room is counted, also where these are many.
func TestLost(t *testing.T) {
	b := buffer.New(1)
	put(t, b, spans(0, 1), 1)
	const many = 1 << 20
	for range many {
		b.Put(span(1))
	}
	held(t, b, many, span(0))
	taken(t, b, 1, span(0))
	held(t, b, many)
}

// P25.2: of a nil buffer.
func TestNil(t *testing.T) {
	var b *buffer.Buffer
	for n := range 100 {
		put(t, b, spans(n, 1), 0)
		taken(t, b, n)
		held(t, b, 0)
	}
	for _, n := range []int{-1, math.MinInt, math.MaxInt} {
		taken(t, b, n)
	}
}

// P25.1, P25.2: a buffer hangs on its own calls alone, and asking changes nothing.
func TestTwo(t *testing.T) {
	one, other := buffer.New(2), buffer.New(3)
	put(t, one, spans(0, 4), 2)
	held(t, other, 0)
	put(t, other, spans(7, 1), 1)
	for range 3 {
		held(t, one, 2, spans(0, 2)...)
		held(t, other, 0, span(7))
	}
	taken(t, other, 1, span(7))
	held(t, one, 2, spans(0, 2)...)
}

// spoil writes into a list, also behind its end.
func spoil(l []api.Span) {
	l = l[:cap(l)]
	for i := range l {
		l[i] = span(-9)
	}
}

// P25.1, P25.2 under rule 4: answers share nothing with what waits, nor with one another.
func TestAnswers(t *testing.T) {
	for size := range 9 {
		for n := range size + 2 {
			b := buffer.New(8)
			all := spans(1, size)
			put(t, b, all, size)
			one, other := b.All(), b.All()
			spoil(one)
			if !slices.Equal(other, all) {
				t.Fatalf("answers share memory: %v", other)
			}
			held(t, b, 0, all...)
			gone := min(n, size)
			first := b.Take(n)
			rest := b.Take(size)
			if !slices.Equal(other, all) || !slices.Equal(first, all[:gone]) || !slices.Equal(rest, all[gone:]) {
				t.Fatalf("an answer changed: %v, %v, %v", other, first, rest)
			}
			// What is put later is not seen in an answer that was given, nor the other way round.
			more := spans(50, 8)
			put(t, b, more, 8)
			if !slices.Equal(first, all[:gone]) || !slices.Equal(rest, all[gone:]) {
				t.Fatalf("an answer changed: %v, %v", first, rest)
			}
			spoil(first)
			held(t, b, 0, more...)
			if !slices.Equal(rest, all[gone:]) {
				t.Fatalf("answers share memory: %v", rest)
			}
			spoil(rest)
			held(t, b, 0, more...)
		}
	}
}
