package tree_test

import (
	"math"
	"slices"
	"strconv"
	"testing"

	"periscope/api"
	"periscope/tree"
)

// span is one below another one.
func span(id, up uint64, seq int) api.Span {
	return api.Span{ID: id, Up: up, Seq: seq}
}

// told gives each span a name, a status, and whether it is a shadow, by which it is known again, and what says nothing of a tree.
func told(l []api.Span) []api.Span {
	var out []api.Span
	for i, s := range l {
		s.Name, s.Status, s.Shadow = "s"+strconv.Itoa(i), 200+i, i%2 == 1
		s.Trace, s.Kids, s.Start, s.End = api.Trace{Hi: uint64(i), Lo: 7}, i*5%3-1, -i, 9*i
		out = append(out, s)
	}
	return out
}

// held holds places against what they must be.
func held(t *testing.T, name string, got []int, want ...int) {
	t.Helper()
	if !slices.Equal(got, want) {
		t.Fatalf("%s = %v; want %v", name, got, want)
	}
}

func heldNodes(t *testing.T, name string, got []api.Node, want ...api.Node) {
	t.Helper()
	if !slices.Equal(got, want) {
		t.Fatalf("%s = %v; want %v", name, got, want)
	}
}

// upTo is the numbers from 0 on, so many.
func upTo(size int) []int {
	var l []int
	for i := range size {
		l = append(l, i)
	}
	return l
}

// notPlaces has numbers that are no places of a list of that size.
func notPlaces(size int) []int {
	return []int{-1, -2, -size, -size - 1, size, size + 1, 1 << 32, 1<<32 + size, -1 << 32, math.MinInt, math.MinInt + 1, math.MaxInt32, math.MaxInt}
}

// plainKids is the children's places as the words say: for each one that is left, the lowest one is looked for.
func plainKids(l []api.Span, at int) []int {
	var all []int
	if at < 0 || at >= len(l) || l[at].ID == 0 {
		return nil
	}
	for {
		next := -1
		for i, s := range l {
			if s.Up == l[at].ID && !slices.Contains(all, i) && (next < 0 || s.Seq < l[next].Seq) {
				next = i
			}
		}
		if next < 0 {
			return all
		}
		all = append(all, next)
	}
}

// plainWalk is a walk as the words say, by calls of itself: the places, and how deep they are.
func plainWalk(l []api.Span, at, depth int, places, depths []int) ([]int, []int) {
	if at < 0 || at >= len(l) || slices.Contains(places, at) {
		return places, depths
	}
	places, depths = append(places, at), append(depths, depth)
	for _, kid := range plainKids(l, at) {
		places, depths = plainWalk(l, kid, depth+1, places, depths)
	}
	return places, depths
}

// plainEnds is the roots, the orphans, and those that are lost, as the words say.
func plainEnds(l []api.Span) (roots, orphans, lost []int) {
	found := make([]bool, len(l))
	for i, s := range l {
		switch {
		case s.Up == 0:
			roots = append(roots, i)
		case !slices.ContainsFunc(l, func(x api.Span) bool { return x.ID == s.Up }):
			orphans = append(orphans, i)
		default:
			continue
		}
		found[i] = true
	}
	for range l {
		for i, s := range l {
			for j, x := range l {
				found[j] = found[j] || found[i] && s.ID != 0 && x.Up == s.ID
			}
		}
	}
	for i := range l {
		if !found[i] {
			lost = append(lost, i)
		}
	}
	return roots, orphans, lost
}

// whole holds all that is said of a list against the words, and what was handed in against what it was.
func whole(t *testing.T, l []api.Span) {
	t.Helper()
	before := slices.Clone(l)
	defer func() {
		if t.Failed() {
			t.Logf("of %v", before)
		}
	}()
	roots, orphans, lost := plainEnds(l)
	held(t, "Roots", tree.Roots(l), roots...)
	held(t, "Orphans", tree.Orphans(l), orphans...)
	held(t, "Lost", tree.Lost(l), lost...)
	for at := -1; at <= len(l); at++ {
		places, depths := plainWalk(l, at, 0, nil, nil)
		var nodes []api.Node
		for i, p := range places {
			nodes = append(nodes, api.Node{Depth: depths[i], Name: l[p].Name, Status: l[p].Status, Shadow: l[p].Shadow})
		}
		held(t, "Kids", tree.Kids(l, at), plainKids(l, at)...)
		held(t, "Walk", tree.Walk(l, at), places...)
		heldNodes(t, "Nodes", tree.Nodes(l, at), nodes...)
	}
	if !slices.Equal(l, before) {
		t.Fatalf("what was handed in is %v", l)
	}
}

// lists has a function called with each list of that size that is made of these spans.
func lists(kinds []api.Span, size int, call func(l []api.Span)) {
	rows := 1
	for range size {
		rows *= len(kinds)
	}
	for row := range rows {
		var l []api.Span
		for n, i := row, 0; i < size; n, i = n/len(kinds), i+1 {
			l = append(l, kinds[n%len(kinds)])
		}
		call(l)
	}
}

// kinds has spans of all numbers below ids, below all of those below ups, at all places below seqs.
func kinds(ids, ups, seqs int) []api.Span {
	var l []api.Span
	for id := range ids {
		for up := range ups {
			for seq := range seqs {
				l = append(l, span(uint64(id), uint64(up), seq))
			}
		}
	}
	return l
}

// P31.1: the example.
func TestExample(t *testing.T) {
	l := []api.Span{span(1, 0, 0), span(2, 1, 1), span(3, 1, 0)}
	held(t, "Kids", tree.Kids(l, 0), 2, 1)
	held(t, "Walk", tree.Walk(l, 0), 0, 2, 1)
}

// Rule 1: of nothing there is nothing, and of no place.
func TestNothing(t *testing.T) {
	for _, none := range [][]api.Span{nil, {}} {
		held(t, "Roots", tree.Roots(none))
		held(t, "Orphans", tree.Orphans(none))
		held(t, "Lost", tree.Lost(none))
	}
	full := told([]api.Span{span(1, 0, 0), span(2, 1, 0), span(3, 3, 0), span(4, 9, 0)})
	for size := range len(full) + 1 {
		for _, at := range append(notPlaces(size), size) {
			if at >= 0 && at < size {
				continue
			}
			l := full[:size]
			held(t, "Kids", tree.Kids(l, at))
			held(t, "Walk", tree.Walk(l, at))
			heldNodes(t, "Nodes", tree.Nodes(l, at))
		}
	}
}

// P31.1: a root is below 0, an orphan below a number that is not there, whatever else they say.
func TestEnds(t *testing.T) {
	l := told([]api.Span{
		span(5, 6, 0), span(0, 0, 9), span(7, 8, -1), span(6, 0, 0), span(9, math.MaxUint64, 0), span(9, 5, 3),
		span(0, 1<<32, 0), span(1<<32+5, 1<<32+6, 0), span(11, 11, 0), span(math.MaxUint64-1, 1, 0), span(0, 0, 0),
	})
	held(t, "Roots", tree.Roots(l), 1, 3, 10)
	held(t, "Orphans", tree.Orphans(l), 2, 4, 6, 7, 9)
	held(t, "Lost", tree.Lost(l), 8)
	whole(t, l)
	// With the greatest number there, what is below it is no orphan any more.
	l = append(l, span(math.MaxUint64, 0, 0))
	held(t, "Orphans", tree.Orphans(l), 2, 6, 7, 9)
	held(t, "Kids", tree.Kids(l, 11), 4)
	whole(t, l)
}

// P31.1: a span of the number 0 has no children, though roots are below 0.
func TestZero(t *testing.T) {
	l := told([]api.Span{span(0, 0, 0), span(1, 0, 0), span(0, 1, 0), span(0, 9, 0)})
	for _, at := range []int{0, 2, 3} {
		held(t, "Kids", tree.Kids(l, at))
		held(t, "Walk", tree.Walk(l, at), at)
	}
	held(t, "Walk", tree.Walk(l, 1), 1, 2)
	held(t, "Lost", tree.Lost(l))
}

// P31.1: children stand by their Seq, whatever numbers these are, and those of one Seq by their places.
func TestKidsOrder(t *testing.T) {
	seqs := []int{3, math.MaxInt, -1, 0, math.MinInt, 3, 1 << 32, -1, math.MaxInt, math.MinInt, 0, 3, -1 << 40, math.MinInt + 1, math.MaxInt - 1}
	l := []api.Span{span(1, 0, 0)}
	for i, seq := range seqs {
		l = append(l, span(uint64(i+2), 1, seq), span(uint64(i+50), 2, seq))
	}
	l = told(l)
	want := []int{9, 19, 27, 25, 5, 15, 7, 21, 1, 11, 23, 13, 29, 3, 17}
	held(t, "Kids", tree.Kids(l, 0), want...)
	whole(t, l)
	for turn := range 7 {
		var same []api.Span
		for i := range 40 {
			same = append(same, span(1, 1, (39-i)/(turn+1)))
		}
		whole(t, told(same))
	}
}

// P31.2, P31.3: one comes from each child to all below it, ahead of the next child.
func TestWalk(t *testing.T) {
	l := []api.Span{
		{ID: 7, Up: 3, Name: "g"},
		{ID: 1, Name: "a", Status: 200, Kids: 2, Start: 1, End: 9},
		{ID: 3, Up: 1, Seq: 1, Name: "c", Status: 502},
		{ID: 6, Up: 2, Seq: 1, Name: "f", Shadow: true, Status: -4},
		{ID: 2, Up: 1, Name: "b", Status: math.MaxInt},
		{ID: 5, Up: 2, Name: "\xff\n", Status: math.MinInt},
		{ID: 8, Up: 5},
	}
	held(t, "Walk", tree.Walk(l, 1), 1, 4, 5, 6, 3, 2, 0)
	heldNodes(t, "Nodes", tree.Nodes(l, 1),
		api.Node{Name: "a", Status: 200}, api.Node{Depth: 1, Name: "b", Status: math.MaxInt},
		api.Node{Depth: 2, Name: "\xff\n", Status: math.MinInt}, api.Node{Depth: 3},
		api.Node{Depth: 2, Name: "f", Shadow: true, Status: -4},
		api.Node{Depth: 1, Name: "c", Status: 502}, api.Node{Depth: 2, Name: "g"})
	// The first one has the depth 0, also where there is one above.
	held(t, "Walk", tree.Walk(l, 4), 4, 5, 6, 3)
	heldNodes(t, "Nodes", tree.Nodes(l, 2), api.Node{Name: "c", Status: 502}, api.Node{Depth: 1, Name: "g"})
}

// P31.2, P31.3: spans of one number have the same children, to which one comes by the first of them that is gone on from.
func TestTwins(t *testing.T) {
	// The twin of the first one stands below its first child: the second child is come to by that twin.
	l := told([]api.Span{span(1, 0, 0), span(2, 1, 0), span(1, 2, 0), span(3, 1, 1), span(4, 2, 1)})
	held(t, "Walk", tree.Walk(l, 0), 0, 1, 2, 3, 4)
	var depths []int
	for _, n := range tree.Nodes(l, 0) {
		depths = append(depths, n.Depth)
	}
	held(t, "depths", depths, 0, 1, 2, 3, 2)
	held(t, "Walk", tree.Walk(l, 2), 2, 1, 4, 3)
	whole(t, l)
	// The child of both is come to by the first one, and is lost by none.
	l = told([]api.Span{span(3, 2, 0), span(2, 0, 0), span(2, 7, 0), span(2, 2, 0)})
	held(t, "Lost", tree.Lost(l))
	held(t, "Walk", tree.Walk(l, 2), 2, 0, 3)
	whole(t, l)
}

// P31.2, P31.4: spans in a circle are lost, with all that is below them, unless one comes there from elsewhere.
func TestCircles(t *testing.T) {
	for size := 1; size <= 9; size++ {
		var l []api.Span
		for i := range size {
			l = append(l, span(uint64(i+1), uint64((i+1)%size+1), 0))
		}
		l = told(append(l, span(90, 1, 1), span(91, 90, 0), span(80, 0, 0), span(81, 99, 0), span(82, 81, 0)))
		held(t, "Lost", tree.Lost(l), upTo(size+2)...)
		for at := range size {
			if n := len(tree.Walk(l, at)); n != size+2 {
				t.Fatalf("Walk(%d) of a circle of %d has %d places", at, size, n)
			}
		}
		whole(t, l)
		// A root of the same number leads there.
		l = append(l, span(1, 0, 0))
		held(t, "Lost", tree.Lost(l))
		whole(t, l)
		// And so does an orphan.
		l[len(l)-1].Up = 1000
		held(t, "Lost", tree.Lost(l))
		whole(t, l)
	}
}

// P31.1 to P31.4: of each small list all is as the words say.
func TestSmall(t *testing.T) {
	call := func(l []api.Span) { whole(t, told(l)) }
	for size := range 4 {
		lists(kinds(3, 4, 2), size, call)
	}
	lists(kinds(3, 3, 1), 4, call)
}

// P31.1 to P31.4: of lists that a short rule makes all is as the words say.
func TestRow(t *testing.T) {
	state := uint32(5)
	draw := func(below uint32) int {
		state = state*1664525 + 1013904223
		return int(state >> 8 % below)
	}
	for step := range 4000 {
		var l []api.Span
		ids := uint32(step%11 + 2)
		for range draw(14) {
			l = append(l, span(uint64(draw(ids)), uint64(draw(ids+1)), draw(4)-1))
		}
		whole(t, told(l))
	}
}

// parts holds places against one another: each is lost, or come to from a root or an orphan, and of one kind alone.
func parts(t *testing.T, l []api.Span) {
	t.Helper()
	kinds := make([]int, len(l))
	lost := tree.Lost(l)
	ends := append(tree.Roots(l), tree.Orphans(l)...)
	for _, at := range append(slices.Clone(lost), ends...) {
		kinds[at]++
	}
	for at, n := range kinds {
		if n > 1 {
			t.Fatalf("place %d is of %d kinds", at, n)
		}
	}
	reached := make([]bool, len(l))
	for _, end := range ends {
		walk := tree.Walk(l, end)
		if slices.Sort(walk); len(slices.Compact(walk)) != len(tree.Walk(l, end)) {
			t.Fatalf("Walk(%d) has a place twice", end)
		}
		for _, at := range walk {
			reached[at] = true
		}
	}
	for at := range l {
		if reached[at] == slices.Contains(lost, at) {
			t.Fatalf("place %d of %v", at, l)
		}
	}
}

// P31.4: each place is lost, or come to from a root or an orphan, and no walk has one twice.
func TestParts(t *testing.T) {
	lists(kinds(3, 4, 1), 4, func(l []api.Span) { parts(t, l) })
}

// P31.4: a walk ends, however many spans there are, however deep, and however many have the same number.
func TestMany(t *testing.T) {
	const size = 100000
	below := map[string]func(i int) api.Span{
		"one below the other": func(i int) api.Span { return span(uint64(i+1), uint64(i), 0) },
		"all below the first": func(i int) api.Span { return span(uint64(i+1), uint64(min(i, 1)), i) },
		"all twins":           func(i int) api.Span { return span(1, uint64(min(i, 1)), i) },
		"two sorts of twins":  func(i int) api.Span { return span(uint64(i%2+1), uint64(min(i, 1)*((i+1)%2+1)), i/2) },
		"a circle":            func(i int) api.Span { return span(uint64(i+1), uint64(i+size-1)%size+1, 0) },
		"a circle of twins":   func(i int) api.Span { return span(uint64(i%3+1), uint64(i+1)%3+1, i) },
	}
	for name, at := range below {
		var l []api.Span
		for i := range size {
			l = append(l, at(i))
		}
		walk, nodes := tree.Walk(l, 0), tree.Nodes(l, 0)
		places := slices.Sorted(slices.Values(walk))
		if !slices.Equal(places, upTo(size)) || len(nodes) != size || walk[0] != 0 || nodes[0].Depth != 0 {
			t.Errorf("%s: a walk of %d places, %d nodes", name, len(walk), len(nodes))
		}
		for i := 1; i < len(nodes); i++ {
			if d := nodes[i].Depth; d < 1 || d > nodes[i-1].Depth+1 {
				t.Fatalf("%s: the depth %d behind %d", name, d, nodes[i-1].Depth)
			}
		}
		if lost := tree.Lost(l); len(lost) != 0 && len(lost) != size || (len(lost) == 0) != (len(tree.Roots(l)) == 1) {
			t.Errorf("%s: %d are lost", name, len(lost))
		}
	}
}

// Rules 3 to 5: what is handed in stays as it is, also behind its end, and answers share nothing.
func TestApart(t *testing.T) {
	whole := told([]api.Span{span(1, 0, 0), span(2, 1, 1), span(3, 1, 0), span(4, 9, 0), span(5, 5, 0), span(6, 0, 0), span(7, 8, 0), span(8, 7, 0)})
	calls := []func(l []api.Span) []int{
		tree.Roots,
		tree.Orphans,
		tree.Lost,
		func(l []api.Span) []int { return tree.Kids(l, 0) },
		func(l []api.Span) []int { return tree.Walk(l, 0) },
		func(l []api.Span) []int { return tree.Walk(l, 7) },
	}
	for i, call := range calls {
		l := slices.Clone(whole)
		one, other := call(l), call(l)
		want := slices.Clone(one)
		one = append(one, -7, -7)
		clear(one[:cap(one)])
		clear(other[:cap(other)])
		if !slices.Equal(l, whole) || !slices.Equal(call(l), want) || len(want) == 0 {
			t.Errorf("call %d: %v; want %v", i, call(l), want)
		}
		call(l[:4])
		if !slices.Equal(l, whole) {
			t.Errorf("call %d: behind the end stands %v", i, l)
		}
	}
	l := slices.Clone(whole)
	one := tree.Nodes(l, 0)
	want := slices.Clone(one)
	clear(tree.Nodes(l, 0))
	clear(l)
	heldNodes(t, "Nodes", one, want...)
}
