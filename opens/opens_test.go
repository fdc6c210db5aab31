package opens_test

import (
	"math"
	"slices"
	"strconv"
	"testing"

	"periscope/api"
	"periscope/opens"
)

// span is one in which each field says something.
func span(n int) api.Span {
	return api.Span{
		Trace: api.Trace{Hi: uint64(n), Lo: 2}, ID: uint64(n) + 10, Up: 4, Name: "s" + strconv.Itoa(n),
		Status: 7, Seq: 5, Kids: 9, Shadow: true, Start: 100, End: 3,
	}
}

// list has an open span for each number; each span is its own.
func list(numbers ...int) []api.Open {
	var l []api.Open
	for i, no := range numbers {
		l = append(l, api.Open{No: no, Span: span(i)})
	}
	return l
}

// upTo has so many, from number 0 on.
func upTo(n int) []api.Open {
	var numbers []int
	for no := range n {
		numbers = append(numbers, no)
	}
	return list(numbers...)
}

// numbers has some of all kinds.
func numbers() []int {
	return []int{0, 1, -1, 7, math.MaxInt, math.MinInt, 1 << 32, -1 << 32}
}

// P24.1: the new one stands behind all others, which stay; whatever its number and its span are.
func TestStart(t *testing.T) {
	for size := range len(numbers()) {
		l := list(numbers()[:size]...)
		before := slices.Clone(l)
		for _, no := range append(numbers()[size:], 99) {
			for _, s := range []api.Span{{}, span(50), {Start: math.MinInt, End: math.MaxInt, Kids: -1, Status: -5, Name: "\xff"}} {
				want := append(slices.Clone(before), api.Open{No: no, Span: s})
				if got, e := opens.Start(l, no, s); !slices.Equal(got, want) || e != api.OK {
					t.Errorf("Start(%v, %d) = %v, %v; want %v", l, no, got, e, want)
				}
			}
		}
		if !slices.Equal(l, before) {
			t.Errorf("what was handed in is %v", l)
		}
	}
	if got, e := opens.Start([]api.Open{}, 0, api.Span{}); !slices.Equal(got, []api.Open{{}}) || e != api.OK {
		t.Errorf("Start of the empty list = %v, %v", got, e)
	}
}

// P24.1: a number is open once at most; that comes first, also where there is no room.
func TestStartTwice(t *testing.T) {
	for _, l := range [][]api.Open{list(0), list(7), list(numbers()...), list(7, 7, 8), upTo(255), upTo(256), upTo(300)} {
		before := slices.Clone(l)
		for _, x := range l {
			for _, s := range []api.Span{{}, x.Span, span(50)} {
				if got, e := opens.Start(l, x.No, s); len(got) != 0 || e != api.ErrTwice {
					t.Fatalf("Start of %d again, of %d = %v, %v; want ErrTwice", x.No, len(l), got, e)
				}
			}
		}
		if !slices.Equal(l, before) {
			t.Errorf("what was handed in is %v", l)
		}
	}
	if got, e := opens.Start(list(1), 2, span(0)); len(got) != 2 || e != api.OK {
		t.Errorf("Start of the same span under another number = %v, %v", got, e)
	}
}

// P24.1: 256 may be open, and no more.
func TestStartFull(t *testing.T) {
	for size := range 300 {
		l := upTo(size)
		for _, no := range []int{300, -1, math.MaxInt} {
			got, e := opens.Start(l, no, span(1))
			if size < 256 && (e != api.OK || len(got) != size+1 || got[size] != api.Open{No: no, Span: span(1)} || !slices.Equal(got[:size], l)) {
				t.Fatalf("Start into %d = %v, %v", size, got, e)
			}
			if size >= 256 && (e != api.ErrFull || len(got) != 0) {
				t.Fatalf("Start into %d = %v, %v; want ErrFull", size, got, e)
			}
		}
	}
}

// P24.1: the first span of a number, as it stands.
func TestFind(t *testing.T) {
	l := list(5, 3, 5, 0, -1, 3, math.MinInt, math.MaxInt)
	before := slices.Clone(l)
	for no, at := range map[int]int{5: 0, 3: 1, 0: 3, -1: 4, math.MinInt: 6, math.MaxInt: 7} {
		if s, ok := opens.Find(l, no); s != span(at) || !ok {
			t.Errorf("Find(%d) = %v, %v; want %v", no, s, ok, span(at))
		}
	}
	for _, no := range []int{1, 2, 4, 6, 13, -2, -5, 1 << 32, 5 + 1<<32, math.MaxInt - 1, math.MinInt + 1} {
		if s, ok := opens.Find(l, no); s != (api.Span{}) || ok {
			t.Errorf("Find(%d) = %v, %v; want none", no, s, ok)
		}
	}
	for _, none := range [][]api.Open{nil, {}} {
		if s, ok := opens.Find(none, 0); s != (api.Span{}) || ok {
			t.Errorf("Find in no list = %v, %v", s, ok)
		}
	}
	if s, ok := opens.Find(upTo(1000), 999); s != span(999) || !ok {
		t.Errorf("Find of the last one = %v, %v", s, ok)
	}
	if s, ok := opens.Find([]api.Open{{No: 4}}, 4); s != (api.Span{}) || !ok {
		t.Errorf("Find of a zero span = %v, %v", s, ok)
	}
	if !slices.Equal(l, before) {
		t.Errorf("what was handed in is %v", l)
	}
}

// P24.2: the first one of the number is gone; it is answered as it ended, and what is not named stays.
func TestFinish(t *testing.T) {
	for _, l := range [][]api.Open{list(5), list(5, 3), list(numbers()...), list(5, 3, 5, 5, 0, 3), upTo(256), upTo(300)} {
		before := slices.Clone(l)
		for _, x := range l {
			at := slices.IndexFunc(l, func(o api.Open) bool { return o.No == x.No })
			wantLeft := slices.Delete(slices.Clone(l), at, at+1)
			want := l[at].Span
			want.Status, want.Kids, want.End = 503, 2, 140
			left, s, e := opens.Finish(l, x.No, 503, 2, 140)
			if !slices.Equal(left, wantLeft) || s != want || e != api.OK {
				t.Fatalf("Finish(%d) of %d = %v, %v, %v; want %v, %v", x.No, len(l), left, s, e, wantLeft, want)
			}
			if !slices.Equal(l, before) {
				t.Fatalf("what was handed in is %v", l)
			}
		}
	}
}

// P24.2: what was not started is not finished.
func TestFinishNone(t *testing.T) {
	for _, l := range [][]api.Open{nil, {}, list(5), list(5, 3, 5), upTo(256)} {
		for _, no := range []int{-1, 300, 5 + 1<<32, math.MinInt, math.MaxInt} {
			if left, s, e := opens.Finish(l, no, 200, 1, 5); len(left) != 0 || s != (api.Span{}) || e != api.ErrNone {
				t.Errorf("Finish(%d) = %v, %v, %v; want ErrNone", no, left, s, e)
			}
		}
	}
}

// P24.2: status and kids are as they are told; a span does not end ahead of its start.
func TestFinishFields(t *testing.T) {
	edges := []int{math.MinInt, math.MinInt + 1, -100, -1, 0, 1, 99, 100, 101, 600, math.MaxInt - 1, math.MaxInt}
	for _, start := range edges {
		for _, now := range edges {
			x := span(1)
			x.Start = start
			want := x
			want.End = now
			if now < start {
				want.End = start
			}
			for _, other := range edges {
				want.Status, want.Kids = other, now
				if left, s, e := opens.Finish([]api.Open{{No: 1, Span: x}}, 1, other, now, now); len(left) != 0 || s != want || e != api.OK {
					t.Fatalf("Finish of a span from %d with %d, %d at %d = %v, %v, %v; want %v", start, other, now, now, left, s, e, want)
				}
			}
		}
	}
}

// P24.3: what was started is found, and finished once; all others stay as they were, in their order.
func TestOnce(t *testing.T) {
	for size := 1; size <= 12; size++ {
		for gone := range size {
			l := upTo(0)
			for no := range size {
				l = started(t, l, no)
			}
			left, s, e := opens.Finish(l, gone, 200, 0, 200)
			want := span(gone)
			want.Status, want.Kids, want.End = 200, 0, 200
			if s != want || e != api.OK || len(left) != size-1 {
				t.Fatalf("Finish(%d) of %d = %v, %v, %v", gone, size, left, s, e)
			}
			if _, _, e := opens.Finish(left, gone, 200, 0, 200); e != api.ErrNone {
				t.Fatalf("Finish(%d) again: %v", gone, e)
			}
			if s, ok := opens.Find(left, gone); ok || s != (api.Span{}) {
				t.Fatalf("Find(%d) behind Finish = %v, %v", gone, s, ok)
			}
			left = started(t, left, gone)
			if left[size-1].No != gone {
				t.Fatalf("what was started again stands at another place: %v", left)
			}
		}
	}
}

// started starts number no, and finds it and all others.
func started(t *testing.T, l []api.Open, no int) []api.Open {
	t.Helper()
	got, e := opens.Start(l, no, span(no))
	if e != api.OK || len(got) != len(l)+1 || !slices.Equal(got[:len(l)], l) {
		t.Fatalf("Start(%v, %d) = %v, %v", l, no, got, e)
	}
	for _, x := range got {
		if s, ok := opens.Find(got, x.No); s != x.Span || s != span(x.No) || !ok {
			t.Fatalf("Find(%v, %d) = %v, %v", got, x.No, s, ok)
		}
	}
	return got
}

// P24.1 to P24.3: behind many calls, in a row that a short rule makes, all is as a plain list tells it.
func TestLong(t *testing.T) {
	for seed := range uint32(20) {
		var l, want []api.Open
		state := seed
		for step := range 3000 {
			state = state*1664525 + 1013904223
			no := int(state >> 16 % 400)
			at := slices.IndexFunc(want, func(x api.Open) bool { return x.No == no })
			if state>>9%3 == 0 {
				got, s, e := opens.Finish(l, no, step, 1, 100+step)
				if at < 0 {
					if len(got) != 0 || s != (api.Span{}) || e != api.ErrNone {
						t.Fatalf("Finish(%d) = %v, %v, %v", no, got, s, e)
					}
					continue
				}
				ended := want[at].Span
				ended.Status, ended.Kids, ended.End = step, 1, 100+step
				want = slices.Delete(want, at, at+1)
				if s != ended || e != api.OK {
					t.Fatalf("Finish(%d) = %v, %v; want %v", no, s, e, ended)
				}
				l = got
			} else {
				got, e := opens.Start(l, no, span(step))
				told := api.OK
				if at >= 0 {
					told = api.ErrTwice
				} else if len(want) == 256 {
					told = api.ErrFull
				}
				if e != told {
					t.Fatalf("Start(%d) into %d = %v; want %v", no, len(want), e, told)
				}
				if e != api.OK {
					continue
				}
				want = append(want, api.Open{No: no, Span: span(step)})
				l = got
			}
			if !slices.Equal(l, want) {
				t.Fatalf("step %d: %v; want %v", step, l, want)
			}
		}
	}
}

// P24.1, P24.2 under the rules 4 and 5: lists that are handed in stay as they are, also behind their ends, and answers share nothing.
func TestApart(t *testing.T) {
	for size := range 6 {
		calls := map[string]func(l []api.Open) []api.Open{
			"Start": func(l []api.Open) []api.Open {
				got, _ := opens.Start(l, 99, span(99))
				return got
			},
		}
		for no := range size {
			calls["Finish "+strconv.Itoa(no)] = func(l []api.Open) []api.Open {
				got, _, _ := opens.Finish(l, no, 1, 1, 1)
				return got
			}
		}
		for name, call := range calls {
			whole := upTo(size + 3)
			before := slices.Clone(whole)
			l := whole[:size]
			one, other := call(l), call(l)
			want := slices.Clone(other)
			for i := range one {
				one[i] = api.Open{No: -9}
			}
			_ = append(one, list(-9, -9)...)
			if !slices.Equal(whole, before) {
				t.Errorf("%s of %d: what was handed in is %v", name, size, whole)
			}
			if !slices.Equal(other, want) || !slices.Equal(call(l), want) {
				t.Errorf("%s of %d: answers share memory: %v", name, size, other)
			}
			clear(whole)
			if !slices.Equal(other, want) {
				t.Errorf("%s of %d: an answer hangs on what was handed in: %v", name, size, other)
			}
		}
	}
}

// P24.1: two lists that go on from one and the same do not reach into one another.
func TestTwo(t *testing.T) {
	l := list(1, 2)
	one, _ := opens.Start(l, 3, span(3))
	for no := 10; no < 30; no++ {
		a, _ := opens.Start(one, no, span(no))
		b, _ := opens.Start(one, -no, span(0))
		if a[len(one)] != (api.Open{No: no, Span: span(no)}) || b[len(one)] != (api.Open{No: -no, Span: span(0)}) {
			t.Fatalf("%v, %v", a, b)
		}
		one, _, _ = opens.Finish(a, a[0].No, 1, 1, 1)
		c, _ := opens.Start(one, 99, span(1))
		d, _ := opens.Start(one, 98, span(2))
		if c[len(one)].No != 99 || d[len(one)].No != 98 {
			t.Fatalf("%v, %v", c, d)
		}
	}
}
