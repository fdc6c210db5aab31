package store_test

import (
	"math"
	"slices"
	"strconv"
	"testing"

	"periscope/api"
	"periscope/store"
)

// number is a trace's.
func number(trace int) api.Trace {
	return api.Trace{Hi: 7, Lo: uint64(trace)}
}

// span is one of a trace, in which each field says something.
func span(trace, id int) api.Span {
	return api.Span{
		Trace: number(trace), ID: uint64(id), Up: uint64(id) / 2, Name: "s" + strconv.Itoa(id),
		Status: 200 + id, Seq: id % 64, Kids: id % 65, Shadow: id%2 == 1, Start: id, End: id + 3,
	}
}

// kept is a trace with spans of these numbers.
func kept(trace int, ids ...int) api.Kept {
	k := api.Kept{Trace: number(trace)}
	for _, id := range ids {
		k.Spans = append(k.Spans, span(trace, id))
	}
	return k
}

// traces has so many, from first on, each of which has two spans.
func traces(first, size int) []api.Kept {
	var l []api.Kept
	for i := range size {
		l = append(l, kept(first+i, 1, 2))
	}
	return l
}

// upTo is the numbers from 1 on, so many.
func upTo(size int) []int {
	var l []int
	for i := range size {
		l = append(l, i+1)
	}
	return l
}

// deep is a list of which nothing is shared.
func deep(l []api.Kept) []api.Kept {
	var out []api.Kept
	for _, k := range l {
		k.Spans = slices.Clone(k.Spans)
		out = append(out, k)
	}
	return out
}

func same(a, b api.Kept) bool {
	return a.Trace == b.Trace && slices.Equal(a.Spans, b.Spans) && a.Spilled == b.Spilled && a.Clash == b.Clash
}

// held holds traces against what they must be.
func held(t *testing.T, name string, got []api.Kept, want ...api.Kept) {
	t.Helper()
	if !slices.EqualFunc(got, want, same) {
		t.Fatalf("%s: %v; want %v", name, got, want)
	}
}

// added adds a span: so many traces must be gone, just these be left, and what was handed in be as it was.
func added(t *testing.T, l []api.Kept, room int, s api.Span, gone int, want ...api.Kept) []api.Kept {
	t.Helper()
	before := deep(l)
	got, n := store.Add(l, room, s)
	if n != gone {
		t.Fatalf("Add(%v, %d, %v): %d are gone; want %d", l, room, s, n, gone)
	}
	held(t, "what is answered", got, want...)
	held(t, "what was handed in", l, before...)
	return got
}

// rooms has what is asked for, with what it counts as.
func rooms() map[int]int {
	return map[int]int{
		math.MinInt: 1, math.MinInt32: 1, -1 << 32: 1, -32: 1, -1: 1, 0: 1, 1: 1, 2: 2, 3: 3, 16: 16, 30: 30, 31: 31, 32: 32,
		33: 32, 34: 32, 64: 32, 255: 32, 1 << 32: 32, 1<<32 + 1: 32, math.MaxInt32: 32, math.MaxInt - 1: 32, math.MaxInt: 32,
	}
}

// P30.1: the example.
func TestExample(t *testing.T) {
	l := added(t, nil, 1, span(1, 1), 0, kept(1, 1))
	added(t, l, 1, span(2, 1), 1, kept(2, 1))
}

// P30.1: a new trace stands behind all others with that span alone, whatever the span is.
func TestNew(t *testing.T) {
	odd := []api.Span{
		{},
		{ID: 1},
		{Trace: api.Trace{Hi: 1}},
		{Trace: api.Trace{Lo: 1}},
		{Trace: api.Trace{Hi: 7}, Kids: -1, Status: math.MinInt, Start: math.MaxInt, End: math.MinInt, Name: "\xff\n"},
		{Trace: api.Trace{Hi: math.MaxUint64, Lo: math.MaxUint64}, ID: math.MaxUint64, Up: math.MaxUint64, Shadow: true},
	}
	for _, none := range [][]api.Kept{nil, {}} {
		for _, s := range odd {
			added(t, none, 5, s, 0, api.Kept{Trace: s.Trace, Spans: []api.Span{s}})
		}
	}
	var l, want []api.Kept
	for _, s := range odd {
		if i := slices.IndexFunc(want, func(k api.Kept) bool { return k.Trace == s.Trace }); i < 0 {
			want = append(want, api.Kept{Trace: s.Trace, Spans: []api.Span{s}})
			l = added(t, l, 32, s, 0, want...)
		}
	}
}

// P30.1: of each room as many are gone from the front as are more than it.
func TestRoom(t *testing.T) {
	for room, counts := range rooms() {
		for size := range 45 {
			l := traces(1, size)
			gone := max(size+1-counts, 0)
			added(t, l, room, span(99, 3), gone, append(traces(1+gone, size-gone), kept(99, 3))...)
		}
	}
}

// P30.1, P30.3: one by one, there are never more than room, the oldest ones gone.
func TestRoomOneByOne(t *testing.T) {
	for room, counts := range rooms() {
		var l, want []api.Kept
		for trace := range 80 {
			want = append(want, kept(trace, 4))
			gone := 0
			if len(want) > counts {
				want, gone = want[1:], 1
			}
			l = added(t, l, room, span(trace, 4), gone, want...)
		}
		if len(l) != counts {
			t.Errorf("room %d: %d traces", room, len(l))
		}
	}
}

// P30.1: with a span of a trace that is there none is gone, also where there are more than room.
func TestRoomThere(t *testing.T) {
	for room := range rooms() {
		for _, size := range []int{1, 2, 31, 32, 33, 40} {
			for trace := range size {
				want := traces(0, size)
				want[trace] = kept(trace, 1, 2, 3)
				l := added(t, traces(0, size), room, span(trace, 3), 0, want...)
				added(t, l, room, span(trace, 3), 0, want...)
				want[trace].Clash = true
				added(t, l, room, turned(span(trace, 3)), 0, want...)
			}
		}
	}
}

// turned is another span of the same trace and number.
func turned(s api.Span) api.Span {
	s.Status++
	return s
}

// P30.1: a trace that is gone begins anew, behind all others, with what comes from then on.
func TestAnew(t *testing.T) {
	l := added(t, traces(1, 3), 3, span(4, 1), 1, kept(2, 1, 2), kept(3, 1, 2), kept(4, 1))
	l = added(t, l, 3, span(1, 2), 1, kept(3, 1, 2), kept(4, 1), kept(1, 2))
	added(t, l, 3, span(1, 1), 0, kept(3, 1, 2), kept(4, 1), kept(1, 2, 1))
}

// P30.1: which trace it is hangs on both of its numbers.
func TestTraceNumbers(t *testing.T) {
	var l, want []api.Kept
	for _, x := range []api.Trace{{Hi: 1, Lo: 2}, {Hi: 2, Lo: 1}, {Hi: 1, Lo: 1}, {Hi: 2, Lo: 2}, {}, {Lo: 1 << 63}, {Hi: 1 << 63}, {Hi: 1 << 32, Lo: 1 << 32}} {
		s := api.Span{Trace: x, ID: 1}
		want = append(want, api.Kept{Trace: x, Spans: []api.Span{s}})
		l = added(t, l, 32, s, 0, want...)
	}
}

// P30.1: spans stand as they came, whatever their numbers and places are.
func TestOrder(t *testing.T) {
	var l []api.Kept
	var ids []int
	for _, id := range []int{5, 3, 9, 1, 0, 1000, 2, 999} {
		ids = append(ids, id)
		l = added(t, l, 2, span(1, id), 0, kept(1, ids...))
	}
	added(t, l, 2, span(2, 5), 0, kept(1, ids...), kept(2, 5))
}

// P30.1, P30.3: a span that comes twice changes nothing, wherever it stands, also where the trace is full, spilled, or clashes.
func TestTwice(t *testing.T) {
	for _, size := range []int{1, 2, 5, 63, 64} {
		for flags := range 4 {
			k := kept(3, upTo(size)...)
			k.Spilled, k.Clash = flags&1 != 0, flags&2 != 0
			l := []api.Kept{kept(1, 1), k, kept(2, 1)}
			for _, s := range k.Spans {
				added(t, l, 3, s, 0, l...)
			}
		}
	}
}

// P30.1: a span is another one, if any of its fields is.
func TestClash(t *testing.T) {
	turns := []func(s *api.Span){
		func(s *api.Span) { s.Up++ },
		func(s *api.Span) { s.Up = math.MaxUint64 },
		func(s *api.Span) { s.Name += "x" },
		func(s *api.Span) { s.Name = "" },
		func(s *api.Span) { s.Status++ },
		func(s *api.Span) { s.Seq = -1 - s.Seq },
		func(s *api.Span) { s.Kids++ },
		func(s *api.Span) { s.Shadow = !s.Shadow },
		func(s *api.Span) { s.Start-- },
		func(s *api.Span) { s.End++ },
		func(s *api.Span) { *s = api.Span{Trace: s.Trace, ID: s.ID} },
	}
	for _, size := range []int{1, 2, 5, 63, 64} {
		for at := range size {
			for _, turn := range turns {
				for flags := range 4 {
					k := kept(3, upTo(size)...)
					k.Spilled, k.Clash = flags&1 != 0, flags&2 != 0
					s := k.Spans[at]
					turn(&s)
					want := k
					want.Clash = true
					l := added(t, []api.Kept{kept(1, 1), k, kept(2, 1)}, 3, s, 0, kept(1, 1), want, kept(2, 1))
					// The first one that came is what is kept.
					added(t, l, 3, k.Spans[at], 0, l...)
					added(t, l, 3, s, 0, l...)
				}
			}
		}
	}
}

// P30.1: a clash is no end: other spans of the trace are added, and the same number in another trace does not clash.
func TestClashOn(t *testing.T) {
	clash := kept(1, 1)
	clash.Clash = true
	l := added(t, []api.Kept{kept(1, 1)}, 5, turned(span(1, 1)), 0, clash)
	more := kept(1, 1, 2)
	more.Clash = true
	l = added(t, l, 5, span(1, 2), 0, more)
	other := api.Kept{Trace: number(2), Spans: []api.Span{turned(span(2, 1))}}
	added(t, l, 5, turned(span(2, 1)), 0, more, other)
}

// P30.1, P30.3: a trace has room for 64 spans; what is more is not there, and is told of.
func TestSpilled(t *testing.T) {
	var l []api.Kept
	for size := range 64 {
		l = added(t, l, 1, span(1, size+1), 0, kept(1, upTo(size+1)...))
	}
	full := kept(1, upTo(64)...)
	full.Spilled = true
	for id := 65; id < 80; id++ {
		l = added(t, l, 1, span(1, id), 0, full)
	}
	added(t, l, 1, span(1, 0), 0, full)
	// Another trace has room of its own.
	added(t, l, 2, span(2, 65), 0, full, kept(2, 65))
	clash := full
	clash.Clash = true
	l = added(t, l, 1, turned(span(1, 64)), 0, clash)
	added(t, l, 1, span(1, 66), 0, clash)
}

// P30.1: of a full trace a clash is a clash alone, and nothing is spilled by it.
func TestFullClash(t *testing.T) {
	full := kept(1, upTo(64)...)
	want := full
	want.Clash = true
	l := added(t, []api.Kept{full}, 1, turned(span(1, 1)), 0, want)
	want.Spilled = true
	added(t, l, 1, span(1, 65), 0, want)
}

// P30.1: of lists that never came of Add, the first trace and its first span count, and too many spans stay as they are.
func TestForeign(t *testing.T) {
	twin := kept(1, 5, 6)
	twin.Spans[1] = turned(twin.Spans[0])
	l := []api.Kept{kept(2, 1), twin, kept(1, 7), kept(3)}
	added(t, l, 9, span(1, 5), 0, l...)
	clash := twin
	clash.Clash = true
	added(t, l, 9, turned(span(1, 5)), 0, kept(2, 1), clash, kept(1, 7), kept(3))
	more := twin
	more.Spans = append(slices.Clone(twin.Spans), span(1, 7))
	added(t, l, 9, span(1, 7), 0, kept(2, 1), more, kept(1, 7), kept(3))
	added(t, l, 9, span(3, 8), 0, kept(2, 1), twin, kept(1, 7), kept(3, 8))
	much := kept(4, upTo(70)...)
	spilled := much
	spilled.Spilled = true
	added(t, []api.Kept{much}, 9, span(4, 70), 0, much)
	added(t, []api.Kept{much}, 9, span(4, 71), 0, spilled)
	// A span of another trace has the number: it is not just that one.
	strange := api.Kept{Trace: number(5), Spans: []api.Span{span(6, 1)}}
	clash = strange
	clash.Clash = true
	added(t, []api.Kept{strange}, 9, span(5, 1), 0, clash)
	added(t, []api.Kept{strange}, 9, span(6, 1), 0, strange, kept(6, 1))
}

// P30.2: the first one of a trace, as it stands.
func TestGet(t *testing.T) {
	spilled, clash := kept(4, upTo(64)...), kept(6, 1)
	spilled.Spilled, clash.Clash = true, true
	l := []api.Kept{kept(5, 1, 2), kept(3), spilled, kept(5, 3), clash, {}}
	before := deep(l)
	for trace, at := range map[int]int{5: 0, 3: 1, 4: 2, 6: 4} {
		if k, ok := store.Get(l, number(trace)); !ok || !same(k, before[at]) {
			t.Errorf("Get(%d) = %v, %v; want %v", trace, k, ok, before[at])
		}
	}
	if k, ok := store.Get(l, api.Trace{}); !ok || !same(k, api.Kept{}) {
		t.Errorf("Get of the zero trace = %v, %v", k, ok)
	}
	for _, x := range []api.Trace{{Hi: 7}, {Lo: 5}, {Hi: 5, Lo: 7}, {Hi: 7, Lo: 7}, {Hi: 8, Lo: 5}, {Hi: math.MaxUint64, Lo: math.MaxUint64}, {Hi: 7, Lo: 5 + 1<<32}} {
		if k, ok := store.Get(l, x); ok || !same(k, api.Kept{}) {
			t.Errorf("Get(%v) = %v, %v", x, k, ok)
		}
	}
	for _, none := range [][]api.Kept{nil, {}} {
		if k, ok := store.Get(none, api.Trace{}); ok || !same(k, api.Kept{}) {
			t.Errorf("Get of none = %v, %v", k, ok)
		}
	}
	held(t, "what was handed in", l, before...)
}

// P30.2: all traces, in their order, whatever they are.
func TestTraces(t *testing.T) {
	for _, order := range [][]int{nil, {1}, {5, 3, 9, 1, 0}, {2, 2, 2}, upTo(40)} {
		var l []api.Kept
		var want []api.Trace
		for _, trace := range order {
			l = append(l, kept(trace, 1))
			want = append(want, number(trace))
		}
		before := deep(l)
		one, other := store.Traces(l), store.Traces(l)
		if !slices.Equal(one, want) {
			t.Errorf("Traces of %v = %v", order, one)
		}
		clear(one[:cap(one)])
		held(t, "what was handed in", l, before...)
		if !slices.Equal(other, want) {
			t.Errorf("answers share memory: %v", other)
		}
	}
	if got := store.Traces([]api.Kept{}); len(got) != 0 {
		t.Errorf("Traces of none = %v", got)
	}
}

// spoil writes into all lists, also behind their ends.
func spoil(l []api.Kept) {
	for _, k := range l {
		spans := k.Spans[:cap(k.Spans)]
		for i := range spans {
			spans[i] = span(-77, -77)
		}
	}
	l = l[:cap(l)]
	for i := range l {
		l[i] = kept(-77, -77)
	}
}

// roomy is three traces, with room behind each list, and something in it that is not of the list.
func roomy() []api.Kept {
	l := make([]api.Kept, 0, 8)
	for trace := range 3 {
		k := kept(trace, 1, 2, 3, 4)
		k.Spans = slices.Grow(k.Spans, 100)[:3]
		l = append(l, k)
	}
	return append(l, kept(7, 5))[:3]
}

// P30.1, P30.2 under the rules 4 and 5: what is handed in stays as it is, also behind its ends; answers share nothing with it, nor with one another.
func TestApart(t *testing.T) {
	for _, room := range []int{0, 1, 2, 3, 4, 32} {
		for _, s := range []api.Span{span(0, 1), span(0, 4), span(0, 9), span(1, 8), turned(span(1, 1)), span(2, 1), span(2, 7), span(3, 1), span(-77, -77), {}} {
			calls := []func(l []api.Kept) []api.Kept{
				func(l []api.Kept) []api.Kept {
					got, _ := store.Add(l, room, s)
					return got
				},
				func(l []api.Kept) []api.Kept {
					k, _ := store.Get(l, s.Trace)
					return []api.Kept{k}
				},
			}
			for _, call := range calls {
				l := roomy()
				one := call(l)
				want := deep(one)
				spoil(call(l))
				held(t, "one answer beside another", one, want...)
				held(t, "what was handed in", l[:4], roomy()[:4]...)
				for i, k := range l {
					if spans := k.Spans[:4]; spans[3] != span(i, 4) {
						t.Fatalf("behind a trace's spans stands %v", spans[3])
					}
				}
				spoil(l)
				held(t, "an answer behind what was handed in", one, want...)
				held(t, "the same call", call(roomy()), want...)
			}
		}
	}
}

// P30.1 under rule 4: no two lists of one answer share memory, nor can one grow into another.
func TestWithin(t *testing.T) {
	for trace := range 6 {
		for id := range 5 {
			got, _ := store.Add(traces(0, 4), 9, span(trace, id))
			want := deep(got)
			for i := range got {
				spans := append(got[i].Spans, span(-77, -77), span(-77, -77))
				clear(spans)
				clear(got[i].Spans)
				got[i].Spans, want[i].Spans = nil, nil
				held(t, "the other traces", got, want...)
			}
		}
	}
}

// P30.1: lists that go on from one and the same do not reach into one another.
func TestTwo(t *testing.T) {
	l := traces(0, 2)
	var want []int
	for id := 3; id < 60; id++ {
		want = append(want, id)
		one, _ := store.Add(l, 2, span(1, id))
		other, _ := store.Add(l, 2, span(1, id+1000))
		third, _ := store.Add(l, 2, span(5, id))
		held(t, "the one", one, kept(0, 1, 2), kept(1, append([]int{1, 2}, want...)...))
		held(t, "the other", other[1:], kept(1, append(append([]int{1, 2}, want[:len(want)-1]...), id+1000)...))
		held(t, "the third", third, l[1], kept(5, id))
		l = one
	}
}

// plain is what came, as a plain list of all that is left tells it: a line a trace, the oldest first.
type plain struct {
	order []api.Trace
	spans map[api.Trace][]api.Span
	gone  int
}

// add has a span come, if its trace has none of its number; the trace's spans beyond 64 stand there, too.
func (p *plain) add(room int, s api.Span) {
	if !slices.Contains(p.order, s.Trace) {
		p.order = append(p.order, s.Trace)
		p.spans[s.Trace] = nil
	}
	p.spans[s.Trace] = append(p.spans[s.Trace], s)
	if len(p.order) > room {
		p.order = p.order[1:]
		p.gone++
	}
}

// kept is what must be kept of a trace of which all that came is told.
func (p *plain) kept(x api.Trace) api.Kept {
	k := api.Kept{Trace: x}
	for _, s := range p.spans[x] {
		at := slices.IndexFunc(k.Spans, func(o api.Span) bool { return o.ID == s.ID })
		if at >= 0 && k.Spans[at] != s {
			k.Clash = true
		}
		if at < 0 && len(k.Spans) == 64 {
			k.Spilled = true
		}
		if at < 0 && len(k.Spans) < 64 {
			k.Spans = append(k.Spans, s)
		}
	}
	return k
}

// P30.1 to P30.3: behind many calls, in a row that a short rule makes, all is as a plain list tells it.
func TestLong(t *testing.T) {
	spilled, clashes := 0, 0
	for seed := range uint32(12) {
		var l []api.Kept
		room := []int{1, 2, 5, 6, 7, 32}[seed%6]
		p := plain{spans: map[api.Trace][]api.Span{}}
		state, gone := seed, 0
		for step := range 1200 {
			state = state*1664525 + 1013904223
			s := span(int(state>>29)+step/400*3, int(state>>9%90))
			if state>>18%64 == 0 {
				s = turned(s)
			}
			got, n := store.Add(l, room, s)
			l = got
			gone += n
			p.add(room, s)
			if gone != p.gone || !slices.Equal(store.Traces(l), p.order) || len(l) > room {
				t.Fatalf("step %d: %d gone, %v; want %d, %v", step, gone, store.Traces(l), p.gone, p.order)
			}
			k, ok := store.Get(l, s.Trace)
			if !ok || !same(k, p.kept(s.Trace)) || len(k.Spans) > 64 {
				t.Fatalf("step %d: Get = %v, %v; want %v", step, k, ok, p.kept(s.Trace))
			}
		}
		for i, x := range p.order {
			want := p.kept(x)
			held(t, "in the end", l[i:i+1], want)
			if want.Spilled {
				spilled++
			}
			if want.Clash {
				clashes++
			}
		}
	}
	if spilled == 0 || clashes == 0 {
		t.Errorf("%d spilled, %d clash", spilled, clashes)
	}
}
