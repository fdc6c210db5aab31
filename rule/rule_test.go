package rule_test

import (
	"math"
	"reflect"
	"slices"
	"strconv"
	"strings"
	"testing"

	"periscope/api"
	"periscope/pred"
	"periscope/rule"
)

func names() []string {
	return []string{"a", "b", "c"}
}

// good is a rule that may be, and does all that a rule can do.
func good() api.Rule {
	return api.Rule{Rank: 5, Preds: []api.Pred{{Kind: api.PredHas, Name: "k"}}, Target: "a", AbortPct: 10, AbortStatus: 503, DelayPct: 20, DelayTicks: 5, MirrorPct: 30, Mirror: "b", Sample: 40}
}

// turned is good, but for what turn does.
func turned(turn func(r *api.Rule)) api.Rule {
	r := good()
	turn(&r)
	return r
}

func checked(t *testing.T, r api.Rule, names []string, want api.Errno) {
	t.Helper()
	if e := rule.Check(r, names); e != want {
		t.Errorf("Check(%+v, %q) = %v; want %v", r, names, e, want)
	}
}

// edges has numbers at and beyond the ends of a range, with what is said of them.
func edges(least, most int) map[int]api.Errno {
	return map[int]api.Errno{
		math.MinInt: api.ErrRange, math.MinInt32: api.ErrRange, least - 100: api.ErrRange, least - 1: api.ErrRange,
		least: api.OK, least + 1: api.OK, (least + most) / 2: api.OK, most - 1: api.OK, most: api.OK,
		most + 1: api.ErrRange, most + 100: api.ErrRange, 1<<32 + least: api.ErrRange, math.MaxInt: api.ErrRange,
	}
}

// P12.1: a rule that may be, one that has nothing but a target, and none.
func TestCheck(t *testing.T) {
	checked(t, good(), names(), api.OK)
	checked(t, api.Rule{Target: "c"}, names(), api.OK)
	checked(t, api.Rule{}, names(), api.ErrName)
	checked(t, api.Rule{}, nil, api.ErrName)
	checked(t, api.Rule{Rank: 99, Target: "a", AbortPct: 100, AbortStatus: 599, DelayPct: 100, DelayTicks: 50, MirrorPct: 100, Mirror: "a", Sample: 100}, []string{"a"}, api.OK)
}

// P12.1: ranks, parts of a hundred, statuses and ticks, each at its ends.
func TestCheckRanges(t *testing.T) {
	for _, x := range []struct {
		least, most int
		turn        func(r *api.Rule, n int)
	}{
		{0, 99, func(r *api.Rule, n int) { r.Rank = n }},
		{0, 100, func(r *api.Rule, n int) { r.AbortPct = n }},
		{0, 100, func(r *api.Rule, n int) { r.DelayPct = n }},
		{0, 100, func(r *api.Rule, n int) { r.MirrorPct = n }},
		{0, 100, func(r *api.Rule, n int) { r.Sample = n }},
		{400, 599, func(r *api.Rule, n int) { r.AbortStatus = n }},
		{1, 50, func(r *api.Rule, n int) { r.DelayTicks = n }},
	} {
		for n, want := range edges(x.least, x.most) {
			checked(t, turned(func(r *api.Rule) { x.turn(r, n) }), names(), want)
		}
	}
}

// P12.1: a status, or ticks, of 0 go with a part of 0 alone; others are held to their range also there.
func TestCheckUnused(t *testing.T) {
	for _, pct := range []int{-1, 0, 1, 100, 101} {
		for _, n := range []int{math.MinInt, -400, -1, 0, 1, 50, 51, 399, 400, 503, 599, 600, math.MaxInt} {
			want := api.ErrRange
			if pct >= 0 && pct <= 100 && (n >= 400 && n <= 599 || n == 0 && pct == 0) {
				want = api.OK
			}
			checked(t, turned(func(r *api.Rule) { r.AbortPct, r.AbortStatus = pct, n }), names(), want)
			want = api.ErrRange
			if pct >= 0 && pct <= 100 && (n >= 1 && n <= 50 || n == 0 && pct == 0) {
				want = api.OK
			}
			checked(t, turned(func(r *api.Rule) { r.DelayPct, r.DelayTicks = pct, n }), names(), want)
		}
	}
	for _, x := range []struct {
		abortPct, abortStatus, delayPct, delayTicks int
		want                                        api.Errno
	}{
		{0, 0, 0, 0, api.OK},
		{0, 0, 1, 0, api.ErrRange},
		{1, 0, 0, 0, api.ErrRange},
		{0, 503, 0, 3, api.OK},
		{0, 0, 1, 1, api.OK},
		{1, 400, 0, 0, api.OK},
	} {
		checked(t, turned(func(r *api.Rule) {
			r.AbortPct, r.AbortStatus, r.DelayPct, r.DelayTicks = x.abortPct, x.abortStatus, x.delayPct, x.delayTicks
		}), names(), x.want)
	}
}

// P12.1: to whom it goes, byte by byte; a mirror may be none, but not where something is mirrored.
func TestCheckNames(t *testing.T) {
	for _, x := range []struct {
		target, mirror string
		pct            int
		names          []string
		want           api.Errno
	}{
		{"a", "", 0, names(), api.OK},
		{"c", "c", 30, names(), api.OK},
		{"a", "b", 0, names(), api.OK},
		{"", "", 0, names(), api.ErrName},
		{"", "b", 30, names(), api.ErrName},
		{"d", "b", 30, names(), api.ErrName},
		{"A", "b", 30, names(), api.ErrName},
		{"aa", "", 0, names(), api.ErrName},
		{"a ", "", 0, names(), api.ErrName},
		{"a", "d", 30, names(), api.ErrName},
		{"a", "d", 0, names(), api.ErrName},
		{"a", "B", 0, names(), api.ErrName},
		{"a", " ", 0, names(), api.ErrName},
		{"a", "", 1, names(), api.ErrNone},
		{"a", "", 100, names(), api.ErrNone},
		{"a", "", 101, names(), api.ErrRange},
		{"a", "", -1, names(), api.ErrRange},
		{"d", "", 1, names(), api.ErrName},
		{"a", "", 0, nil, api.ErrName},
		{"a", "", 0, []string{}, api.ErrName},
		{"a", "", 0, []string{"b"}, api.ErrName},
		{"a", "b", 0, []string{"a"}, api.ErrName},
		{"b", "a", 0, []string{"a"}, api.ErrName},
		{"a", "", 0, []string{"b", "a", "a"}, api.OK},
		{"A\n", "\xff", 1, []string{"\xff", "A\n"}, api.OK},
		{"", "", 0, []string{""}, api.OK},
		{"", "", 1, []string{""}, api.ErrNone},
	} {
		checked(t, turned(func(r *api.Rule) { r.Target, r.Mirror, r.MirrorPct = x.target, x.mirror, x.pct }), x.names, x.want)
	}
}

// P12.1: four predicates may be; of more than one fault the first one's is told, but too many ahead of all.
func TestCheckPreds(t *testing.T) {
	has := api.Pred{Kind: api.PredHas, Name: "k"}
	bad := map[api.Errno]api.Pred{
		api.ErrArg: {}, api.ErrForm: {Kind: api.PredMethod, Value: "get"}, api.ErrName: {Kind: api.PredHas}, api.ErrRange: {Kind: api.PredExact}, api.ErrText: {Kind: api.PredHead, Name: "k", Value: " "},
	}
	for size, want := range []api.Errno{api.OK, api.OK, api.OK, api.OK, api.OK, api.ErrFull, api.ErrFull} {
		checked(t, turned(func(r *api.Rule) { r.Preds = slices.Repeat([]api.Pred{has}, size) }), names(), want)
	}
	for want, p := range bad {
		for size := range 8 {
			for at := range size {
				l := slices.Repeat([]api.Pred{has}, size)
				l[at] = p
				told := want
				if size > 4 {
					told = api.ErrFull
				}
				checked(t, turned(func(r *api.Rule) { r.Preds = l }), names(), told)
				for _, other := range bad {
					for behind := at + 1; behind < size; behind++ {
						two := slices.Clone(l)
						two[behind] = other
						checked(t, turned(func(r *api.Rule) { r.Preds = two }), names(), told)
					}
				}
			}
		}
	}
	checked(t, turned(func(r *api.Rule) { r.Preds = make([]api.Pred, 100000) }), names(), api.ErrFull)
}

// P12.1: of all sets of faults the one is told that the document names first.
func TestCheckFirst(t *testing.T) {
	full := []api.Pred{{Kind: api.PredHas, Name: "k"}}
	faults := []struct {
		turn func(r *api.Rule)
		want api.Errno
	}{
		{func(r *api.Rule) { r.Rank = 100 }, api.ErrRange},
		{func(r *api.Rule) { r.Preds = append(r.Preds, slices.Repeat(full, 4)...) }, api.ErrFull},
		{func(r *api.Rule) { r.Preds = []api.Pred{{Kind: api.PredMethod}} }, api.ErrForm},
		{func(r *api.Rule) { r.Target = "x" }, api.ErrName},
		{func(r *api.Rule) { r.Mirror = "x" }, api.ErrName},
		{func(r *api.Rule) { r.AbortPct = 101 }, api.ErrRange},
		{func(r *api.Rule) { r.DelayTicks = 51 }, api.ErrRange},
		{func(r *api.Rule) { r.MirrorPct = 101 }, api.ErrRange},
		{func(r *api.Rule) { r.Mirror = "" }, api.ErrNone},
	}
	for set := range 1 << len(faults) {
		r, want := good(), api.OK
		// The first one is done last, so that no other one undoes it.
		for i, f := range slices.Backward(faults) {
			if set>>i&1 == 1 {
				f.turn(&r)
				want = f.want
			}
		}
		checked(t, r, names(), want)
	}
}

// request has all headers of these names.
func request(names ...string) api.Request {
	var q api.Request
	for _, name := range names {
		q.Heads = append(q.Heads, api.Head{Name: name})
	}
	return q
}

func requests() []api.Request {
	return []api.Request{request(), request("k"), request("l"), request("k", "l"), request("K", "m")}
}

// ruleOf is a rule that asks for headers of these names; its target is told by its number.
func ruleOf(number, rank int, names ...string) api.Rule {
	r := api.Rule{Rank: rank, Target: strconv.Itoa(number)}
	for _, name := range names {
		r.Preds = append(r.Preds, api.Pred{Kind: api.PredHas, Name: name})
	}
	return r
}

// P12.2: a rule hits what all of its predicates match; nothing else of it counts.
func TestHits(t *testing.T) {
	for _, q := range requests() {
		for _, r := range []api.Rule{{}, good(), ruleOf(0, 0), ruleOf(0, 100, "k"), ruleOf(1, -1, "k", "l"), ruleOf(2, 7, "l", "l"), {Preds: make([]api.Pred, 1)}, {Preds: []api.Pred{{Kind: api.PredMethod}}}} {
			if rule.Hits(r, q) != pred.All(r.Preds, q) {
				t.Errorf("Hits(%+v, %q) = %v", r, q, !pred.All(r.Preds, q))
			}
		}
	}
	if !rule.Hits(api.Rule{}, api.Request{}) || !rule.Hits(ruleOf(0, 0, "k", "l"), request("l", "k")) || rule.Hits(ruleOf(0, 0, "k", "l"), request("k")) {
		t.Error("Hits")
	}
}

// lists has all lists of up to so many rules of these ranks, each with a number of its own; some of them ask for headers.
func lists(most int, ranks ...int) [][]api.Rule {
	out := [][]api.Rule{nil}
	for from := 0; len(out[from]) < most; from++ {
		for _, rank := range ranks {
			for _, asked := range [][]string{nil, {"k"}, {"k", "l"}} {
				out = append(out, append(slices.Clone(out[from]), ruleOf(len(out[from]), rank, asked...)))
			}
		}
	}
	return out
}

func number(r api.Rule) int {
	n, _ := strconv.Atoi(r.Target)
	return n
}

// P12.2, P12.3: the rules as they are, by rank, those of one rank as they stood.
func TestOrder(t *testing.T) {
	for _, x := range []struct{ ranks, want []int }{
		{nil, nil},
		{[]int{7}, []int{0}},
		{[]int{1, 5, 5}, []int{1, 2, 0}},
		{[]int{5, 5, 1}, []int{0, 1, 2}},
		{[]int{0, 1, 2, 3}, []int{3, 2, 1, 0}},
		{[]int{3, 3, 3, 3}, []int{0, 1, 2, 3}},
		{[]int{0, 99, 50, 99, 0, 50}, []int{1, 3, 2, 5, 0, 4}},
		{[]int{math.MinInt, 0, math.MaxInt, -1, math.MinInt, math.MaxInt}, []int{2, 5, 1, 3, 0, 4}},
	} {
		var l []api.Rule
		for i, rank := range x.ranks {
			l = append(l, ruleOf(i, rank, "k"))
		}
		var got []int
		for _, r := range rule.Order(l) {
			got = append(got, number(r))
		}
		if !slices.Equal(got, x.want) {
			t.Errorf("of ranks %v the order is %v; want %v", x.ranks, got, x.want)
		}
	}
	if l := rule.Order([]api.Rule{}); len(l) != 0 {
		t.Errorf("Order of none = %v", l)
	}
}

// holdOrder holds o against what Order must answer of l, whose rules have their places as targets.
func holdOrder(t *testing.T, l, o []api.Rule) {
	t.Helper()
	if len(o) != len(l) {
		t.Fatalf("of %d rules %d are in order", len(l), len(o))
	}
	for i, r := range o {
		if !reflect.DeepEqual(r, l[number(r)]) {
			t.Fatalf("a rule is %+v; was %+v", r, l[number(r)])
		}
		if i > 0 && (o[i-1].Rank < r.Rank || o[i-1].Rank == r.Rank && number(o[i-1]) >= number(r)) {
			t.Fatalf("%+v stands ahead of %+v", o[i-1], r)
		}
	}
}

// P12.2, P12.3: all lists of a few rules, and long ones; a rule's other parts stay with it.
func TestOrderAll(t *testing.T) {
	for _, l := range lists(4, 5, 1, 9) {
		holdOrder(t, l, rule.Order(l))
	}
	for _, size := range []int{12, 13, 16, 17, 100, 5000} {
		for _, kinds := range []int{1, 2, 3, 7, 1000} {
			l := make([]api.Rule, size)
			for i := range l {
				l[i] = turned(func(r *api.Rule) { r.Rank, r.Target, r.Sample = i*7919%kinds, strconv.Itoa(i), i })
			}
			holdOrder(t, l, rule.Order(l))
		}
	}
}

// P12.2: the greatest rank of those that hit, the first one of these; -1, if none hits.
func TestFirst(t *testing.T) {
	l := []api.Rule{ruleOf(0, 1), ruleOf(1, 5, "k"), ruleOf(2, 5), ruleOf(3, 9, "k", "l"), ruleOf(4, 5)}
	for _, x := range []struct {
		from, to int
		q        api.Request
		want     int
	}{
		{0, 5, request(), 2},
		{0, 5, request("k"), 1},
		{0, 5, request("l", "k"), 3},
		{0, 5, request("l"), 2},
		{3, 5, request("k"), 1},
		{1, 2, request(), -1},
		{3, 4, request("k"), -1},
		{0, 1, request("k"), 0},
		{0, 0, request("k"), -1},
	} {
		if at := rule.First(l[x.from:x.to], x.q); at != x.want {
			t.Errorf("First(%+v, %q) = %d; want %d", l[x.from:x.to], x.q, at, x.want)
		}
	}
	if at := rule.First(nil, request()); at != -1 {
		t.Errorf("First of none = %d", at)
	}
	for _, rank := range []int{math.MinInt, -1, 0, math.MaxInt} {
		if at := rule.First([]api.Rule{ruleOf(0, rank, "k"), ruleOf(1, rank), ruleOf(2, rank)}, request()); at != 1 {
			t.Errorf("First of rank %d = %d; want 1", rank, at)
		}
	}
	if at := rule.First([]api.Rule{ruleOf(0, math.MinInt), ruleOf(1, math.MaxInt)}, request()); at != 1 {
		t.Errorf("First of the least and the greatest rank = %d; want 1", at)
	}
}

// P12.2, P12.3: all lists of a few rules; of what was ordered the first one that hits is the same rule.
func TestFirstAll(t *testing.T) {
	for _, l := range lists(4, 5, 1, 9) {
		o := rule.Order(l)
		for _, q := range requests() {
			hits := func(r api.Rule) bool { return rule.Hits(r, q) }
			at, first := rule.First(l, q), rule.First(o, q)
			if first != slices.IndexFunc(o, hits) {
				t.Fatalf("First(%+v, %q) = %d; want %d", o, q, first, slices.IndexFunc(o, hits))
			}
			if (at < 0) != (first < 0) || at < -1 || first >= 0 && (at != number(o[first]) || !hits(l[at])) {
				t.Fatalf("First(%+v, %q) = %d, but in order %d", l, q, at, first)
			}
		}
	}
}

// texts has all that l has, so that a change is seen.
func texts(l []api.Rule) string {
	var s strings.Builder
	for _, r := range l {
		s.WriteString(strconv.Itoa(r.Rank) + " " + r.Target)
		for _, p := range r.Preds {
			s.WriteString(" " + strconv.Itoa(p.Kind) + p.Name + ":" + p.Value)
		}
		s.WriteString("\n")
	}
	return s.String()
}

// P12.1, P12.2 under the rules 4 and 5: lists that are handed in stay as they are, and answers share nothing with them or one another.
func TestApart(t *testing.T) {
	preds := ruleOf(0, 0, "k", "l", "m").Preds
	ranked := func() []api.Rule {
		return []api.Rule{{Rank: 1, Target: "0", Preds: preds[:2]}, {Rank: 5, Target: "1", Preds: preds[:2]}, {Rank: 5, Target: "2", Preds: preds[1:]}, {Rank: 0, Target: "3"}}
	}
	l := ranked()
	before := texts(l)
	group := names()
	one, other := rule.Order(l[:3]), rule.Order(l)
	wantOther := texts(other)
	rule.First(l, request("k", "l"))
	rule.Check(l[0], group)
	if texts(l) != before || !slices.Equal(group, names()) {
		t.Errorf("what was handed in is %v, %q", l, group)
	}
	_ = append(one, api.Rule{Target: "x"})
	for i := range one {
		_ = append(one[i].Preds, api.Pred{Name: "x"})
		one[i].Preds[0] = api.Pred{Name: "y"}
		for j := range one {
			if j > i && one[j].Preds[0].Name == "y" {
				t.Errorf("the rules %d and %d of one answer share predicates", i, j)
			}
		}
		one[i] = api.Rule{}
	}
	if texts(l) != before || texts(other) != wantOther || texts(rule.Order(l)) != wantOther {
		t.Errorf("an answer shares memory: %v, %v", l, other)
	}
	clear(preds)
	clear(l)
	if texts(other) != wantOther {
		t.Errorf("what was handed in is kept: %v", other)
	}
}
