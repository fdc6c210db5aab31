package dedup_test

import (
	"math"
	"slices"
	"testing"

	"periscope/api"
	"periscope/dedup"
)

// window is a node's window, of which the greatest number is the last one seen.
func window(node int, seen ...int) api.Window {
	return api.Window{Node: node, High: seen[len(seen)-1], Seen: seen}
}

// count has so many numbers, from first on.
func count(first, size int) []int {
	var l []int
	for i := range size {
		l = append(l, first+i)
	}
	return l
}

// deep is a list of which nothing is shared.
func deep(l []api.Window) []api.Window {
	var out []api.Window
	for _, w := range l {
		w.Seen = slices.Clone(w.Seen)
		out = append(out, w)
	}
	return out
}

func same(a, b api.Window) bool {
	return a.Node == b.Node && a.High == b.High && slices.Equal(a.Seen, b.Seen)
}

// held holds windows against what they must be.
func held(t *testing.T, name string, got []api.Window, want ...api.Window) {
	t.Helper()
	if !slices.EqualFunc(got, want, same) {
		t.Fatalf("%s: windows %v; want %v", name, got, want)
	}
}

// takes has numbers of a node come, each of which must be fresh.
func takes(t *testing.T, l []api.Window, node int, numbers ...int) []api.Window {
	t.Helper()
	for _, seq := range numbers {
		more, fresh := dedup.Fresh(l, node, seq)
		if !fresh || !dedup.Has(more, node, seq) {
			t.Fatalf("Fresh(%v, %d, %d) = %v, %v", l, node, seq, more, fresh)
		}
		l = more
	}
	return l
}

// stale has numbers of a node come, none of which may be fresh, nor change anything.
func stale(t *testing.T, l []api.Window, node int, numbers ...int) {
	t.Helper()
	for _, seq := range numbers {
		before := deep(l)
		got, fresh := dedup.Fresh(l, node, seq)
		if fresh {
			t.Fatalf("Fresh(%v, %d, %d) is true", l, node, seq)
		}
		held(t, "what is answered", got, before...)
		held(t, "what was handed in", l, before...)
	}
}

// nodes has numbers that are no nodes'.
func nodes() []int {
	return []int{-1, -2, -8, 8, 9, 255, 256, 1 << 32, 1<<32 + 1, -1 << 32, math.MinInt32, math.MaxInt32, math.MinInt, math.MaxInt}
}

// outside has numbers that no batch has.
func outside() []int {
	return []int{-1, -2, -127, -128, -129, -1 << 32, -1 << 40, math.MinInt32, math.MinInt, math.MinInt + 1, 1<<40 + 1, 1<<40 + 2, 1<<40 + 128, 1 << 41, math.MaxInt - 1, math.MaxInt}
}

// P29.1: the example.
func TestExample(t *testing.T) {
	var l []api.Window
	for i, seq := range []int{5, 3, 5} {
		more, fresh := dedup.Fresh(l, 1, seq)
		if fresh != (i < 2) {
			t.Errorf("Fresh(%d) = %v", seq, fresh)
		}
		l = more
	}
	held(t, "of 5, 3, 5", l, window(1, 3, 5))
}

// P29.1: each node from 0 to 7 has a window, and each number from 0 to 2^40 may be its first one.
func TestFirst(t *testing.T) {
	for node := range 8 {
		for _, seq := range []int{0, 1, 2, 127, 128, 129, 255, 256, 1<<32 - 1, 1 << 32, 1<<40 - 129, 1<<40 - 128, 1<<40 - 1, 1 << 40} {
			for _, none := range [][]api.Window{nil, {}} {
				l := takes(t, none, node, seq)
				held(t, "of one number", l, window(node, seq))
				stale(t, l, node, seq)
			}
		}
	}
}

// P29.1: of what is no node, and no number, nothing is fresh, and nothing changes.
func TestRefused(t *testing.T) {
	var full []api.Window
	for node := range 8 {
		full = takes(t, full, node, 5, 300, 200, 299)
	}
	for _, l := range [][]api.Window{nil, {}, full[:1], full} {
		for _, node := range nodes() {
			stale(t, l, node, 0, 1, 5, 301, 1<<40, -1, 1<<40+1)
		}
		for node := range 8 {
			stale(t, l, node, outside()...)
		}
		for _, node := range nodes() {
			stale(t, l, node, outside()...)
		}
	}
}

// P29.1: what is above all others leaves out what is not above it less 128, and nothing else.
func TestAbove(t *testing.T) {
	for _, first := range []int{0, 1, 7, 127, 128, 1000, 1<<40 - 400} {
		for size := 1; size <= 130; size += 3 {
			for _, ahead := range []int{1, 2, 3, 63, 64, 126, 127, 128, 129, 130, 200} {
				before := takes(t, nil, 2, count(first, size)...)
				high := first + size - 1 + ahead
				var want []int
				for _, n := range count(first, size) {
					if n > high-128 {
						want = append(want, n)
					}
				}
				l := takes(t, before, 2, high)
				held(t, "behind what is above", l, window(2, append(want, high)...))
				stale(t, l, 2, count(first, size)...)
			}
		}
	}
	l := takes(t, takes(t, nil, 0, 0), 0, 1<<40)
	held(t, "of the greatest", l, window(0, 1<<40))
	stale(t, l, 0, 1<<40-128, 1<<40-129, 0, 1)
	held(t, "below the greatest", takes(t, l, 0, 1<<40-127), window(0, 1<<40-127, 1<<40))
}

// P29.1: below the greatest number 127 may come, and the next one is not fresh, though it never came.
func TestBelow(t *testing.T) {
	for _, high := range []int{0, 1, 5, 126, 127, 128, 129, 1000, 1 << 32, 1 << 40} {
		for below := 1; below <= 300; below++ {
			seq := high - below
			l := takes(t, nil, 3, high)
			if below < 128 && seq >= 0 {
				held(t, "of two", takes(t, l, 3, seq), window(3, seq, high))
			} else {
				stale(t, l, 3, seq)
			}
		}
	}
	held(t, "of 127 and 0", takes(t, nil, 0, 127, 0), window(0, 0, 127))
	stale(t, takes(t, nil, 0, 128), 0, 0)
}

// P29.1: each number stands in its place, in whatever order they come.
func TestPlaces(t *testing.T) {
	numbers := []int{40, 41, 43, 50, 100, 167}
	orders := 720
	for order := range orders {
		left := slices.Clone(numbers)
		var l []api.Window
		var came []int
		for n, size := order, len(left); size > 0; size-- {
			at := n % size
			n /= size
			l = takes(t, l, 4, left[at])
			came = append(came, left[at])
			left = slices.Delete(left, at, at+1)
			held(t, "so far", l, window(4, slices.Sorted(slices.Values(came))...))
			stale(t, l, 4, came...)
		}
		held(t, "of all", l, window(4, numbers...))
	}
}

// P29.1, P29.3: a window has room for 128 numbers, in whatever order they come, and no more.
func TestFull(t *testing.T) {
	for _, first := range []int{0, 1, 77, 1<<40 - 129} {
		want := window(6, count(first, 128)...)
		rising := takes(t, nil, 6, count(first, 128)...)
		held(t, "rising", rising, want)
		falling := takes(t, nil, 6, want.High)
		for seq := want.High - 1; seq >= first; seq-- {
			falling = takes(t, falling, 6, seq)
		}
		held(t, "falling", falling, want)
		mixed := takes(t, nil, 6, want.High)
		for i := range 127 {
			mixed = takes(t, mixed, 6, first+i*50%127)
		}
		held(t, "mixed", mixed, want)
		stale(t, mixed, 6, append(count(first, 128), first-1, first-2)...)
		held(t, "one more", takes(t, mixed, 6, want.High+1), window(6, count(first+1, 128)...))
	}
}

// P29.1, P29.3: nodes know nothing of one another; their windows stand in the order in which their first numbers came.
func TestNodes(t *testing.T) {
	order := []int{5, 0, 7, 1, 6, 2, 4, 3}
	var l, want []api.Window
	for i, node := range order {
		l = takes(t, l, node, 200+i, 199)
		if i == 0 {
			want = append(want, window(node, 199, 200))
		} else {
			want = append(want, window(node, 199, 200+i))
		}
		held(t, "so far", l, want...)
	}
	for i, node := range order {
		l = takes(t, l, node, 1000*(i+1))
		want[i] = window(node, 1000*(i+1))
		held(t, "each goes on alone", l, want...)
		stale(t, l, node, 199, 200+i, 1000*(i+1))
	}
}

// P29.2: a number is asked for in the first window of that node, whatever the windows are.
func TestHas(t *testing.T) {
	l := []api.Window{
		{Node: 3, High: 9, Seen: []int{9, 2, 5, 2}},
		{Node: 1, High: 4},
		{Node: 3, High: 7, Seen: []int{7, 8}},
		{Node: -1, High: math.MinInt, Seen: []int{-5, math.MaxInt, 1 << 41}},
		{Node: math.MaxInt, High: 0, Seen: []int{0, 1000}},
		{Node: 1, High: 4, Seen: []int{4}},
	}
	before := deep(l)
	for node, has := range map[int][]int{3: {9, 2, 5}, 1: nil, -1: {-5, math.MaxInt, 1 << 41}, math.MaxInt: {0, 1000}, 0: nil, 8: nil, math.MinInt: nil} {
		for _, seq := range []int{0, 1, 2, 3, 4, 5, 6, 7, 8, 9, 10, -1, -5, 1000, 1 << 40, 1 << 41, math.MinInt, math.MaxInt} {
			if got := dedup.Has(l, node, seq); got != slices.Contains(has, seq) {
				t.Errorf("Has(%d, %d) = %v", node, seq, got)
			}
		}
	}
	held(t, "what was handed in", l, before...)
	for _, none := range [][]api.Window{nil, {}} {
		for _, n := range append(append(nodes(), outside()...), 0, 1, 7) {
			if dedup.Has(none, n, n) {
				t.Errorf("Has(%d, %d) of none", n, n)
			}
		}
	}
}

// P29.2: what fell out of a window, or was too low for it, is not there.
func TestHasWindow(t *testing.T) {
	l := takes(t, nil, 2, 10, 12, 100, 138)
	for seq := range 300 {
		if dedup.Has(l, 2, seq) != (seq == 12 || seq == 100 || seq == 138) || dedup.Has(l, 1, seq) {
			t.Errorf("Has(%d)", seq)
		}
	}
}

// foreign has windows that never came of Fresh.
func foreign() [][]api.Window {
	return [][]api.Window{
		{{}},
		{{Node: 1, High: math.MinInt, Seen: []int{math.MaxInt, 3, math.MinInt}}},
		{{Node: 1, High: math.MaxInt, Seen: []int{5, 5, 5}}},
		{{Node: 1, High: math.MinInt + 5}, {Node: 1, High: 5, Seen: []int{5}}},
		{{Node: 1, High: 5, Seen: []int{900, 7, 5, -4}}, {Node: -1, High: -1}, {Node: 99, High: 1, Seen: count(-500, 1000)}},
		{{Node: 1, High: 500, Seen: count(0, 1000)}},
	}
}

// P29.1, P8: of windows of all kinds Fresh ends, and changes nothing that is handed in.
func TestForeign(t *testing.T) {
	for _, l := range foreign() {
		before := deep(l)
		for _, node := range append(nodes(), 0, 1, 7) {
			for _, seq := range append(outside(), 0, 1, 4, 5, 6, 127, 128, 500, 628, 1<<40) {
				dedup.Fresh(l, node, seq)
				held(t, "what was handed in", l, before...)
			}
		}
	}
}

// spoil writes into all lists, also behind their ends.
func spoil(l []api.Window) {
	for _, w := range l {
		seen := w.Seen[:cap(w.Seen)]
		for i := range seen {
			seen[i] = -77
		}
	}
	l = l[:cap(l)]
	for i := range l {
		l[i] = window(-77, -77)
	}
}

// roomy is windows of three nodes, with room behind each list, and something in it that is not of the list.
func roomy() []api.Window {
	l := make([]api.Window, 0, 8)
	for node := range 3 {
		seen := append(make([]int, 0, 200), 100, 110, 120, 130, 140)
		l = append(l, api.Window{Node: node, High: 130, Seen: seen[:4]})
	}
	return append(l, window(7, 5))[:3]
}

// P29.1 under the rules 4 and 5: what is handed in stays as it is, also behind its ends; answers share nothing with it, nor with one another.
func TestApart(t *testing.T) {
	for _, node := range []int{-1, 0, 1, 2, 3, 7, 8} {
		for _, seq := range []int{-1, 0, 2, 3, 99, 100, 105, 115, 129, 130, 131, 140, 228, 230, 257, 258, 259, 1 << 40, 1<<40 + 1} {
			l := roomy()
			one, fresh := dedup.Fresh(l, node, seq)
			want := deep(one)
			other, _ := dedup.Fresh(l, node, seq)
			spoil(other)
			held(t, "one answer beside another", one, want...)
			held(t, "what was handed in", l[:4], roomy()[:4]...)
			for _, w := range l {
				if seen := w.Seen[:5]; seen[4] != 140 {
					t.Fatalf("behind a window's end stands %v", seen)
				}
			}
			spoil(l)
			held(t, "an answer behind what was handed in", one, want...)
			if again, ok := dedup.Fresh(roomy(), node, seq); ok != fresh || !slices.EqualFunc(again, want, same) {
				t.Fatalf("Fresh(%d, %d) = %v, %v", node, seq, again, ok)
			}
		}
	}
}

// P29.1 under rule 4: no two lists of one answer share memory, nor can one grow into another.
func TestWithin(t *testing.T) {
	var l []api.Window
	for node := range 4 {
		l = takes(t, l, node, 50, 40, 60)
	}
	for node := range 8 {
		for _, seq := range []int{40, 45, 61, 400} {
			got, _ := dedup.Fresh(l, node, seq)
			want := deep(got)
			for i := range got {
				_ = append(got[i].Seen, -77, -77, -77)
				seen := got[i].Seen
				got[i].Seen = nil
				for k := range seen {
					seen[k] = -77
				}
				want[i].Seen = nil
				held(t, "the other windows", got, want...)
			}
		}
	}
}

// P29.1: lists that go on from one and the same do not reach into one another.
func TestTwo(t *testing.T) {
	l := takes(t, nil, 1, 100, 50)
	for seq := 51; seq < 100; seq++ {
		one, other := takes(t, l, 1, seq), takes(t, l, 1, seq+100)
		held(t, "the one", one, window(1, 50, seq, 100))
		held(t, "where they come from", l, window(1, 50, 100))
		if seq+100-128 >= 50 {
			held(t, "the other", other, window(1, 100, seq+100))
		} else {
			held(t, "the other", other, window(1, 50, 100, seq+100))
		}
	}
}

// plain is a node's window as a plain list of all that came tells it.
type plain struct {
	came []int
	high int
}

func (p *plain) fresh(seq int) bool {
	if slices.Contains(p.came, seq) || len(p.came) > 0 && seq <= p.high-128 {
		return false
	}
	if len(p.came) == 0 || seq > p.high {
		p.high = seq
	}
	p.came = append(p.came, seq)
	return true
}

// window is what the list tells of the node.
func (p *plain) window(node int) api.Window {
	w := api.Window{Node: node, High: p.high}
	for _, n := range slices.Sorted(slices.Values(p.came)) {
		if n > p.high-128 {
			w.Seen = append(w.Seen, n)
		}
	}
	return w
}

// P29.1 to P29.3: behind many calls, in a row that a short rule makes, all is as plain lists tell it; no number is fresh twice, and no window has more than 128.
func TestLong(t *testing.T) {
	for seed := range uint32(16) {
		var l []api.Window
		var order []int
		var plains [8]plain
		state := seed
		stales := 0
		for step := range 1500 {
			state = state*1664525 + 1013904223
			node := int(state >> 29)
			seq := step/8 + int(state>>9%200)
			if len(plains[node].came) == 0 {
				order = append(order, node)
			}
			want := plains[node].fresh(seq)
			got, fresh := dedup.Fresh(l, node, seq)
			if fresh != want {
				t.Fatalf("Fresh(%v, %d, %d) = %v", l, node, seq, fresh)
			}
			if !fresh {
				stales++
			}
			l = got
			var windows []api.Window
			for _, n := range order {
				windows = append(windows, plains[n].window(n))
			}
			held(t, "behind many", l, windows...)
			for _, w := range l {
				if len(w.Seen) > 128 {
					t.Fatalf("%d numbers", len(w.Seen))
				}
			}
		}
		if stales == 0 {
			t.Errorf("%d: all were fresh", seed)
		}
	}
}
