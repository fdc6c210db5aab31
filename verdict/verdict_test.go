package verdict_test

import (
	"math"
	"slices"
	"strconv"
	"testing"

	"periscope/api"
	"periscope/tree"
	"periscope/verdict"
)

// span is one below another one, at a place, that has so many children.
func span(id, up uint64, seq, kids int) api.Span {
	return api.Span{ID: id, Up: up, Seq: seq, Kids: kids, Name: "s" + strconv.Itoa(int(id)) + "." + strconv.Itoa(seq), Status: 200 + seq, Shadow: id%2 == 1}
}

func kept(l ...api.Span) api.Kept {
	return api.Kept{Trace: api.Trace{Hi: 1, Lo: 2}, Spans: l}
}

// family is a trace that is whole: a root with three children, the first of which has two.
func family() []api.Span {
	return []api.Span{span(4, 2, 0, 0), span(1, 0, 0, 3), span(3, 1, 2, 0), span(2, 1, 0, 2), span(5, 2, 1, 0), span(6, 1, 1, 0)}
}

// with is the family with one more.
func with(s api.Span) []api.Span {
	return append(family(), s)
}

// turned is the family, of which the span of that number is another one.
func turned(id uint64, turn func(s *api.Span)) []api.Span {
	l := family()
	for i := range l {
		if l[i].ID == id {
			turn(&l[i])
		}
	}
	return l
}

// said holds what is said of a trace against what it must be; the tree is there just if it is whole.
func said(t *testing.T, name string, k api.Kept, want, lacks int) {
	t.Helper()
	before := slices.Clone(k.Spans)
	got := verdict.Of(k)
	if got != want {
		t.Fatalf("%s: Of(%v) = %d; want %d", name, k, got, want)
	}
	if n := verdict.Lacks(k); n != lacks {
		t.Fatalf("%s: Lacks(%v) = %d; want %d", name, k, n, lacks)
	}
	nodes, ok := verdict.Tree(k)
	var all []api.Node
	if want == api.Whole {
		all = tree.Nodes(k.Spans, slices.IndexFunc(k.Spans, func(s api.Span) bool { return s.Up == 0 }))
	}
	if ok != (want == api.Whole) || !slices.Equal(nodes, all) || ok && len(nodes) != len(k.Spans) {
		t.Fatalf("%s: Tree(%v) = %v, %v; want %v", name, k, nodes, ok, all)
	}
	if !slices.Equal(k.Spans, before) {
		t.Fatalf("%s: what was handed in is %v; it was %v", name, k.Spans, before)
	}
}

// plain is what must be said of a trace, and how many children lack, as the words say it.
func plain(k api.Kept) (int, int) {
	roots, orphans, lacks := 0, 0, 0
	clash, full := k.Clash, true
	found := make([]bool, len(k.Spans))
	for i, s := range k.Spans {
		above := slices.ContainsFunc(k.Spans, func(x api.Span) bool { return x.ID == s.Up })
		if s.Up == 0 {
			roots++
		} else if !above {
			orphans++
		}
		found[i] = s.Up == 0 || !above
		seqs := map[int]int{}
		has := 0
		for _, x := range k.Spans {
			if s.ID != 0 && x.Up == s.ID {
				has++
				seqs[x.Seq]++
				clash = clash || x.Seq < 0 || x.Seq > s.Kids-1 || seqs[x.Seq] > 1
			}
		}
		clash = clash || has > s.Kids
		full = full && has == s.Kids
		lacks += max(has, s.Kids) - has
	}
	for range k.Spans {
		for i, s := range k.Spans {
			for j, x := range k.Spans {
				found[j] = found[j] || found[i] && s.ID != 0 && x.Up == s.ID
			}
		}
	}
	switch {
	case clash, roots > 1, slices.Contains(found, false):
		return api.Clash, lacks
	case !k.Spilled && roots == 1 && orphans == 0 && full:
		return api.Whole, lacks
	}
	return api.Partial, lacks
}

// lists has a function called with each list of that size that is made of these spans.
func lists(kinds []api.Span, size int, call func(l []api.Span)) {
	rows := 1
	for range size {
		rows *= len(kinds)
	}
	for row := range rows {
		var l []api.Span
		for n, i := row, 0; i < size; n, i = n/len(kinds), i+1 {
			l = append(l, kinds[n%len(kinds)])
		}
		call(l)
	}
}

// kinds has spans of all numbers below ids, below all of those below ups, at all places below seqs, with less than so many children.
func kinds(ids, ups, seqs, kids int) []api.Span {
	var l []api.Span
	for id := range ids {
		for up := range ups {
			for seq := range seqs {
				for n := range kids {
					l = append(l, span(uint64(id), uint64(up), seq, n))
				}
			}
		}
	}
	return l
}

// orders has a function called with a list in each order.
func orders(l []api.Span, call func(l []api.Span)) {
	rows := 1
	for i := range l {
		rows *= i + 1
	}
	for row := range rows {
		var out []api.Span
		left := slices.Clone(l)
		for n, size := row, len(l); size > 0; size-- {
			at := n % size
			n /= size
			out = append(out, left[at])
			left = slices.Delete(left, at, at+1)
		}
		call(out)
	}
}

// P32.1: the example.
func TestExample(t *testing.T) {
	root := span(1, 0, 0, 1)
	said(t, "alone", kept(root), api.Partial, 1)
	said(t, "with its child", kept(root, span(2, 1, 0, 0)), api.Whole, 0)
}

// P32.1: of nothing there is no root, and nothing lacks.
func TestNothing(t *testing.T) {
	for _, none := range [][]api.Span{nil, {}} {
		for flags := range 4 {
			k := api.Kept{Spans: none, Clash: flags&1 != 0, Spilled: flags&2 != 0}
			want := api.Partial
			if k.Clash {
				want = api.Clash
			}
			said(t, "nothing", k, want, 0)
		}
	}
}

// P32.1: a trace that would be whole is not, if spans were too many, and clashes, if that is said of it.
func TestFlags(t *testing.T) {
	for _, c := range []struct {
		spilled, clash bool
		want           int
	}{{false, false, api.Whole}, {true, false, api.Partial}, {false, true, api.Clash}, {true, true, api.Clash}} {
		k := kept(family()...)
		k.Spilled, k.Clash = c.spilled, c.clash
		said(t, "family", k, c.want, 0)
		k.Trace = api.Trace{}
		said(t, "no trace", k, c.want, 0)
		k.Spans = family()[2:]
		if c.want == api.Whole {
			c.want = api.Partial
		}
		said(t, "a part", k, c.want, 1)
	}
}

// P32.1: what makes that a trace clashes, each alone.
func TestClash(t *testing.T) {
	for name, c := range map[string]struct {
		l     []api.Span
		lacks int
	}{
		"a second root":                        {with(span(9, 0, 0, 0)), 0},
		"a second root, which lacks":           {with(span(9, 0, 0, 5)), 5},
		"the root twice":                       {with(span(1, 0, 0, 3)), 0},
		"a child too many":                     {with(span(9, 1, 3, 0)), 0},
		"a child of none":                      {with(span(9, 3, 0, 0)), 0},
		"a place twice":                        {turned(6, func(s *api.Span) { s.Seq = 2 }), 0},
		"a place twice, and one that lacks":    {[]api.Span{span(1, 0, 0, 3), span(2, 1, 1, 0), span(3, 1, 1, 0)}, 1},
		"a place behind the last":              {turned(3, func(s *api.Span) { s.Seq = 3 }), 0},
		"a place far behind":                   {turned(3, func(s *api.Span) { s.Seq = math.MaxInt }), 0},
		"a place below 0":                      {turned(3, func(s *api.Span) { s.Seq = -1 }), 0},
		"a place far below 0":                  {turned(3, func(s *api.Span) { s.Seq = math.MinInt }), 0},
		"fewer children":                       {turned(2, func(s *api.Span) { s.Kids = 1 }), 0},
		"children below 0":                     {turned(3, func(s *api.Span) { s.Kids = -1 }), 0},
		"children far below 0":                 {turned(3, func(s *api.Span) { s.Kids = math.MinInt }), 0},
		"children far below 0, and some there": {turned(2, func(s *api.Span) { s.Kids = math.MinInt }), 0},
		"below itself":                         {with(span(9, 9, 0, 1)), 0},
		"a circle":                             {append(with(span(9, 8, 0, 1)), span(8, 9, 0, 1)), 0},
		"a circle alone":                       {[]api.Span{span(9, 8, 0, 1), span(8, 9, 0, 1)}, 0},
		"below a circle":                       {append(with(span(9, 9, 0, 2)), span(8, 9, 1, 1)), 1},
		"an orphan with too many":              {append(with(span(9, 77, 0, 0)), span(8, 9, 0, 0)), 0},
	} {
		for _, spilled := range []bool{false, true} {
			k := kept(c.l...)
			k.Spilled = spilled
			said(t, name, k, api.Clash, c.lacks)
		}
	}
}

// P32.1: a trace is not whole yet without a root, with an orphan, and as long as children lack, and clashes by none of that.
func TestPartial(t *testing.T) {
	for name, c := range map[string]struct {
		l     []api.Span
		lacks int
	}{
		"no root":                 {[]api.Span{span(2, 1, 0, 0), span(3, 1, 1, 0)}, 0},
		"an orphan":               {with(span(9, 77, 0, 0)), 0},
		"an orphan far behind":    {with(span(9, math.MaxUint64, math.MaxInt, 0)), 0},
		"an orphan below 0":       {with(span(9, 77, math.MinInt, 0)), 0},
		"orphans at one place":    {append(with(span(9, 77, 1, 0)), span(8, 77, 1, 0)), 0},
		"an orphan's child":       {append(with(span(9, 77, 0, 1)), span(8, 9, 0, 0)), 0},
		"an orphan that lacks":    {with(span(9, 77, 0, 4)), 4},
		"the first child lacks":   {[]api.Span{span(1, 0, 0, 2), span(2, 1, 1, 0)}, 1},
		"the last child lacks":    {[]api.Span{span(1, 0, 0, 2), span(2, 1, 0, 0)}, 1},
		"a leaf lacks":            {turned(3, func(s *api.Span) { s.Kids = 7 }), 7},
		"some lack":               {[]api.Span{span(1, 0, 0, 6), span(2, 1, 5, 3), span(3, 2, 0, 2)}, 9},
		"a number 0, which lacks": {[]api.Span{span(0, 0, 0, 2)}, 2},
	} {
		for _, spilled := range []bool{false, true} {
			k := kept(c.l...)
			k.Spilled = spilled
			said(t, name, k, api.Partial, c.lacks)
		}
	}
}

// P32.1: what is whole, though it is odd: a root's Seq says nothing, numbers may be 0, or be there twice.
func TestWhole(t *testing.T) {
	for name, l := range map[string][]api.Span{
		"family":          family(),
		"one":             {span(1, 0, 0, 0)},
		"a root's Seq":    {span(1, 0, math.MinInt, 1), span(2, 1, 0, 0)},
		"the number 0":    {span(0, 0, 5, 0)},
		"leaves of 0":     {span(1, 0, 0, 2), span(0, 1, 1, 0), span(0, 1, 0, 0)},
		"greatest":        {span(math.MaxUint64, 0, 0, 1), span(math.MaxUint64-1, math.MaxUint64, 0, 0)},
		"twins":           {span(1, 0, 0, 2), span(2, 1, 0, 1), span(2, 1, 1, 1), span(3, 2, 0, 0)},
		"below its twin":  {span(1, 0, 0, 1), span(1, 1, 0, 1)},
		"times and names": {{ID: 1, Kids: 1, Start: 9, End: 3, Trace: api.Trace{Hi: 5}}, {ID: 2, Up: 1, Status: -1, Start: -4, Name: "\xff"}},
	} {
		orders(l, func(l []api.Span) { said(t, name, kept(l...), api.Whole, 0) })
	}
}

// P32.1: the tree is that of the root, wherever it stands.
func TestTree(t *testing.T) {
	want := []api.Node{
		{Name: "s1.0", Status: 200, Shadow: true},
		{Depth: 1, Name: "s2.0", Status: 200},
		{Depth: 2, Name: "s4.0", Status: 200},
		{Depth: 2, Name: "s5.1", Status: 201, Shadow: true},
		{Depth: 1, Name: "s6.1", Status: 201},
		{Depth: 1, Name: "s3.2", Status: 202, Shadow: true},
	}
	orders(family(), func(l []api.Span) {
		if got, ok := verdict.Tree(kept(l...)); !ok || !slices.Equal(got, want) {
			t.Fatalf("Tree of %v = %v, %v", l, got, ok)
		}
	})
}

// P32.1: how many children lack is told up to the greatest numbers; what is below 0 takes nothing away.
func TestLacks(t *testing.T) {
	said(t, "the greatest", kept(span(1, 0, 0, math.MaxInt)), api.Partial, math.MaxInt)
	said(t, "one less", kept(span(1, 0, 0, math.MaxInt), span(2, 1, math.MaxInt-1, 0)), api.Partial, math.MaxInt-1)
	said(t, "one far behind", kept(span(1, 0, 0, math.MaxInt), span(2, 1, math.MaxInt, 0)), api.Clash, math.MaxInt-1)
	said(t, "below 0", kept(span(1, 0, 0, 5), span(2, 1, 0, -3), span(3, 1, 1, math.MinInt)), api.Clash, 3)
	said(t, "too many", kept(span(1, 0, 0, 2), span(2, 1, 0, 0), span(3, 2, 0, 0), span(4, 2, 1, 0)), api.Clash, 1)
	// Twins lack the same child, each of them.
	said(t, "twins", kept(span(1, 0, 0, 2), span(2, 1, 0, 2), span(2, 1, 1, 2), span(3, 2, 0, 0)), api.Partial, 2)
}

// P32.1: spans that lack more children than a number can tell are not whole, however the sum wraps round.
func TestLacksMuch(t *testing.T) {
	k := kept(span(1, 0, 0, math.MaxInt), span(2, 1, 0, math.MaxInt), span(3, 1, 1, 4))
	if got := verdict.Of(k); got != api.Partial {
		t.Errorf("Of = %d", got)
	}
	if l, ok := verdict.Tree(k); ok || len(l) != 0 {
		t.Errorf("Tree = %v, %v", l, ok)
	}
}

// P32.1: of each small trace is said what the words say.
func TestSmall(t *testing.T) {
	call := func(l []api.Span) {
		for flags := range 4 {
			k := api.Kept{Spans: l, Clash: flags&1 != 0, Spilled: flags&2 != 0}
			want, lacks := plain(k)
			said(t, "small", k, want, lacks)
		}
	}
	for size := range 3 {
		lists(kinds(3, 4, 3, 4), size, call)
	}
	lists(kinds(3, 3, 2, 2), 3, call)
	lists(kinds(3, 3, 1, 2), 4, call)
}

// grown is a trace that a short rule makes, whole but for what is turned: each span but the first is the next child of one that was.
func grown(draw func(below uint32) int, size int) []api.Span {
	l := []api.Span{span(1, 0, 0, 0)}
	for len(l) < size {
		at := draw(uint32(len(l)))
		l = append(l, span(uint64(len(l)+1), l[at].ID, l[at].Kids, 0))
		l[at].Kids++
	}
	for i := range l {
		j := i + draw(uint32(len(l)-i))
		l[i], l[j] = l[j], l[i]
	}
	return l
}

// P32.1, P32.2: traces that a short rule makes are whole; and what is said of them, if a span is turned, is what the words say.
func TestRow(t *testing.T) {
	state := uint32(9)
	draw := func(below uint32) int {
		state = state*1664525 + 1013904223
		return int(state >> 8 % below)
	}
	counts := [3]int{}
	for step := range 3000 {
		l := grown(draw, step%14+1)
		said(t, "grown", kept(l...), api.Whole, 0)
		for range 3 {
			turn := slices.Clone(l)
			s := &turn[draw(uint32(len(l)))]
			switch by := draw(3) - 1; draw(4) {
			case 0:
				s.Seq += by
			case 1:
				s.Kids += by
			case 2:
				s.Up = uint64(draw(uint32(len(l) + 2)))
			default:
				turn = turn[1:]
			}
			want, lacks := plain(kept(turn...))
			said(t, "turned", kept(turn...), want, lacks)
			counts[want]++
		}
	}
	if slices.Contains(counts[:], 0) {
		t.Errorf("said: %v", counts)
	}
}

// P32.2: a tree that is whole has a node for each span; with one span less it is not whole.
func TestLess(t *testing.T) {
	found := 0
	for size := 1; size <= 3; size++ {
		lists(kinds(3, 3, 2, 3), size, func(l []api.Span) {
			if verdict.Of(kept(l...)) != api.Whole {
				return
			}
			found++
			if nodes, ok := verdict.Tree(kept(l...)); !ok || len(nodes) != len(l) {
				t.Fatalf("Tree(%v) = %v, %v", l, nodes, ok)
			}
			for at := range l {
				less := slices.Delete(slices.Clone(l), at, at+1)
				if verdict.Of(kept(less...)) == api.Whole {
					t.Fatalf("%v is whole, and without place %d, too", l, at)
				}
			}
		})
	}
	if found < 20 {
		t.Errorf("%d are whole", found)
	}
}

// P32.2: in whatever order spans stand, what is said is the same, and so is the tree.
func TestOrders(t *testing.T) {
	call := func(l []api.Span) {
		of, lacks := verdict.Of(kept(l...)), verdict.Lacks(kept(l...))
		nodes, _ := verdict.Tree(kept(l...))
		orders(l, func(l []api.Span) {
			again, _ := verdict.Tree(kept(l...))
			if verdict.Of(kept(l...)) != of || verdict.Lacks(kept(l...)) != lacks || !slices.Equal(again, nodes) {
				t.Fatalf("of %v is said %d, %d, %v; want %d, %d, %v", l, verdict.Of(kept(l...)), verdict.Lacks(kept(l...)), again, of, lacks, nodes)
			}
		})
	}
	lists(kinds(3, 3, 2, 2), 3, call)
	lists([]api.Span{span(1, 0, 0, 2), span(2, 1, 0, 1), span(2, 1, 1, 1), span(3, 2, 0, 0), span(2, 2, 0, 1)}, 4, call)
	call(family())
	call(with(span(9, 3, 0, 0)))
	call(family()[1:])
}

// P32.1 under the size that a store keeps, and beyond it.
func TestMany(t *testing.T) {
	for _, size := range []int{64, 65, 1500} {
		var deep, wide []api.Span
		for i := range size {
			deep = append(deep, span(uint64(i+1), uint64(i), 0, 1))
			wide = append(wide, span(uint64(i+1), uint64(min(i, 1)), max(i-1, 0), 0))
		}
		said(t, "deep", kept(deep...), api.Partial, 1)
		said(t, "wide", kept(wide...), api.Clash, 0)
		deep[size-1].Kids = 0
		wide[0].Kids = size - 1
		slices.Reverse(wide)
		said(t, "deep", kept(deep...), api.Whole, 0)
		said(t, "wide", kept(wide...), api.Whole, 0)
		nodes, _ := verdict.Tree(kept(deep...))
		for i, n := range nodes {
			if n.Depth != i {
				t.Fatalf("node %d is at the depth %d", i, n.Depth)
			}
		}
	}
}

// Rules 4 and 5: an answer is new memory, and what is handed in stays as it is, also behind its end.
func TestApart(t *testing.T) {
	l := append(family(), span(9, 0, 0, 0))
	k := kept(l[:6]...)
	one, _ := verdict.Tree(k)
	want := slices.Clone(one)
	other, _ := verdict.Tree(k)
	clear(other[:cap(other)])
	verdict.Of(k)
	verdict.Lacks(k)
	if !slices.Equal(l, with(span(9, 0, 0, 0))) {
		t.Errorf("what was handed in is %v", l)
	}
	clear(l)
	if !slices.Equal(one, want) {
		t.Errorf("an answer is %v; want %v", one, want)
	}
}
