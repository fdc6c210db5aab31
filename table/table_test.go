package table_test

import (
	"math"
	"reflect"
	"slices"
	"strconv"
	"strings"
	"testing"

	"periscope/api"
	"periscope/rule"
	"periscope/table"
)

func names() []string {
	return []string{"a", "b", "c"}
}

// good is a rule that may be, and does all that a rule can do.
func good() api.Rule {
	return api.Rule{Rank: 5, Preds: []api.Pred{{Kind: api.PredHas, Name: "k"}}, Target: "a", AbortPct: 10, AbortStatus: 503, DelayPct: 20, DelayTicks: 5, MirrorPct: 30, Mirror: "b", Sample: 40}
}

// goods has so many rules that may be.
func goods(size int) []api.Rule {
	var l []api.Rule
	for range size {
		l = append(l, good())
	}
	return l
}

// bad has a rule for each error that a rule may have.
func bad() map[api.Errno]api.Rule {
	l := map[api.Errno]api.Rule{}
	for want, turn := range map[api.Errno]func(r *api.Rule){
		api.ErrRange: func(r *api.Rule) { r.Rank = 100 },
		api.ErrFull:  func(r *api.Rule) { r.Preds = slices.Repeat(r.Preds, 5) },
		api.ErrArg:   func(r *api.Rule) { r.Preds[0].Kind = 7 },
		api.ErrForm:  func(r *api.Rule) { r.Preds[0] = api.Pred{Kind: api.PredMethod, Value: "get"} },
		api.ErrText:  func(r *api.Rule) { r.Preds[0] = api.Pred{Kind: api.PredHead, Name: "k", Value: " "} },
		api.ErrName:  func(r *api.Rule) { r.Target = "d" },
		api.ErrNone:  func(r *api.Rule) { r.Mirror = "" },
	} {
		r := good()
		turn(&r)
		l[want] = r
	}
	return l
}

// checked holds Check and Compile against the error that both must tell.
func checked(t *testing.T, c api.Config, names []string, want api.Errno) {
	t.Helper()
	if e := table.Check(c, names); e != want {
		t.Errorf("Check(%+v, %q) = %v; want %v", c, names, e, want)
	}
	x, e := table.Compile(c, 3, names)
	if e != want {
		t.Errorf("Compile(%+v, %q): %v; want %v", c, names, e, want)
	}
	if want == api.OK {
		holdTable(t, x, api.Table{Version: 3, Rules: rule.Order(c.Rules), Format: c.Format})
	} else {
		holdTable(t, x, api.Table{})
	}
}

// holdTable holds a table against what it must be; an empty list is as good as none.
func holdTable(t *testing.T, x, want api.Table) {
	t.Helper()
	if x.Version != want.Version || x.Format != want.Format || len(x.Rules) != len(want.Rules) {
		t.Fatalf("the table is %+v; want %+v", x, want)
	}
	for i, r := range x.Rules {
		if !reflect.DeepEqual(r, want.Rules[i]) {
			t.Fatalf("rule %d is %+v; want %+v", i, r, want.Rules[i])
		}
	}
}

// P14.1: configs that may be, with and without rules.
func TestCheck(t *testing.T) {
	checked(t, api.Config{}, nil, api.OK)
	checked(t, api.Config{Rules: []api.Rule{}}, names(), api.OK)
	checked(t, api.Config{Format: "%PATH% x "}, nil, api.OK)
	for size := range 20 {
		want := api.OK
		if size > 16 {
			want = api.ErrFull
		}
		checked(t, api.Config{Rules: goods(size), Format: "f"}, names(), want)
	}
	checked(t, api.Config{Rules: make([]api.Rule, 100000)}, names(), api.ErrFull)
}

// P14.1: a format has at most 120 bytes, each from 32 to 126.
func TestCheckFormat(t *testing.T) {
	for size := range 240 {
		want := api.OK
		if size > 120 {
			want = api.ErrText
		}
		checked(t, api.Config{Format: strings.Repeat("%", size), Rules: goods(2)}, names(), want)
	}
	for b := range 256 {
		want := api.ErrText
		if b >= 32 && b <= 126 {
			want = api.OK
		}
		c := string([]byte{byte(b)})
		for _, s := range []string{c, "a" + c, c + "a", strings.Repeat("a", 119) + c} {
			checked(t, api.Config{Format: s}, names(), want)
		}
	}
}

// P14.1: a rule's error is told wherever it stands, that of the first rule that has one, behind what is said of the whole.
func TestCheckRules(t *testing.T) {
	for want, r := range bad() {
		for _, size := range []int{1, 2, 3, 16, 17} {
			for at := range size {
				l := goods(size)
				l[at] = r
				told := want
				if size > 16 {
					told = api.ErrFull
				}
				checked(t, api.Config{Rules: l}, names(), told)
				checked(t, api.Config{Rules: l, Format: "\n"}, names(), api.ErrText)
				for _, other := range bad() {
					for behind := at + 1; behind < size; behind++ {
						two := slices.Clone(l)
						two[behind] = other
						checked(t, api.Config{Rules: two}, names(), told)
					}
				}
			}
		}
	}
}

// P14.1: the rules' names are those that are handed in, no others.
func TestCheckNames(t *testing.T) {
	for _, x := range []struct {
		names []string
		want  api.Errno
	}{
		{names(), api.OK},
		{[]string{"b", "a"}, api.OK},
		{[]string{"a"}, api.ErrName},
		{[]string{"b"}, api.ErrName},
		{[]string{"A", "B"}, api.ErrName},
		{[]string{""}, api.ErrName},
		{nil, api.ErrName},
	} {
		checked(t, api.Config{Rules: goods(1)}, x.names, x.want)
	}
}

// P14.1: a version is from 1 to 2^40, and is told ahead of all other faults.
func TestCompileVersion(t *testing.T) {
	c := api.Config{Rules: goods(2), Format: "f"}
	for _, version := range []int{1, 2, 17, 1 << 32, 1<<40 - 1, 1 << 40} {
		x, e := table.Compile(c, version, names())
		if e != api.OK {
			t.Errorf("Compile of version %d: %v", version, e)
		}
		holdTable(t, x, api.Table{Version: version, Rules: c.Rules, Format: "f"})
	}
	for _, version := range []int{math.MinInt, -1 << 40, -1, 0, 1<<40 + 1, 1 << 41, 1<<42 + 1, math.MaxInt} {
		refused(t, c, version)
		refused(t, api.Config{}, version)
		refused(t, api.Config{Format: "\n"}, version)
		refused(t, api.Config{Rules: goods(17)}, version)
		for _, r := range bad() {
			refused(t, api.Config{Rules: []api.Rule{r}}, version)
		}
	}
}

// refused holds that a config is refused by its version alone.
func refused(t *testing.T, c api.Config, version int) {
	t.Helper()
	x, e := table.Compile(c, version, names())
	if e != api.ErrRange {
		t.Errorf("Compile(%+v) of version %d: %v; want ErrRange", c, version, e)
	}
	holdTable(t, x, api.Table{})
}

// ranked has a rule for each rank; its place is told by Sample. Every second one asks for a header.
func ranked(ranks ...int) []api.Rule {
	var l []api.Rule
	for i, rank := range ranks {
		r := api.Rule{Rank: rank, Target: "a", Sample: i}
		if i%2 == 1 {
			r.Preds = []api.Pred{{Kind: api.PredHas, Name: "k"}}
		}
		l = append(l, r)
	}
	return l
}

// P14.1: the rules are those of the config, by rank, those of one rank as they stood.
func TestCompileOrder(t *testing.T) {
	for _, x := range []struct{ ranks, want []int }{
		{nil, nil},
		{[]int{7}, []int{0}},
		{[]int{1, 5, 5}, []int{1, 2, 0}},
		{[]int{0, 99, 50, 99, 0, 50}, []int{1, 3, 2, 5, 0, 4}},
		{[]int{0, 1, 2, 3, 4, 5, 6, 7, 8, 9, 10, 11, 12, 13, 14, 15}, []int{15, 14, 13, 12, 11, 10, 9, 8, 7, 6, 5, 4, 3, 2, 1, 0}},
		{slices.Repeat([]int{3}, 16), []int{0, 1, 2, 3, 4, 5, 6, 7, 8, 9, 10, 11, 12, 13, 14, 15}},
	} {
		l := ranked(x.ranks...)
		got, e := table.Compile(api.Config{Rules: l, Format: "%%"}, 9, []string{"a"})
		want := api.Table{Version: 9, Format: "%%"}
		for _, at := range x.want {
			want.Rules = append(want.Rules, l[at])
		}
		if e != api.OK {
			t.Fatalf("Compile of ranks %v: %v", x.ranks, e)
		}
		holdTable(t, got, want)
	}
}

// P14.2: a table is whole, if its version may be, its config may be, and its rules are in order; whatever is no part of that may be as it likes.
func TestWhole(t *testing.T) {
	for i, x := range []struct {
		t     api.Table
		names []string
		want  bool
	}{
		{api.Table{}, names(), false},
		{api.Table{}, nil, false},
		{api.Table{Version: 1}, nil, true},
		{api.Table{Version: 1, Rules: []api.Rule{}}, names(), true},
		{api.Table{Version: -1}, names(), false},
		{api.Table{Version: math.MinInt}, names(), false},
		{api.Table{Version: 1 << 40}, names(), true},
		{api.Table{Version: 1<<40 + 1}, names(), false},
		{api.Table{Version: math.MaxInt}, names(), false},
		{api.Table{Version: 1, Format: "%PATH%"}, names(), true},
		{api.Table{Version: 1, Format: "%"}, names(), true},
		{api.Table{Version: 1, Format: "\n"}, names(), false},
		{api.Table{Version: 1, Format: "\x7f"}, names(), false},
		{api.Table{Version: 1, Format: strings.Repeat("a", 120)}, names(), true},
		{api.Table{Version: 1, Format: strings.Repeat("a", 121)}, names(), false},
		{api.Table{Version: 1, Rules: goods(16)}, names(), true},
		{api.Table{Version: 1, Rules: goods(17)}, names(), false},
		{api.Table{Version: 0, Rules: goods(1)}, names(), false},
		{api.Table{Version: 1, Rules: goods(1)}, names()[:2], true},
		{api.Table{Version: 1, Rules: goods(1)}, names()[:1], false},
		{api.Table{Version: 1, Rules: goods(1)}, nil, false},
		{api.Table{Version: 1, Rules: make([]api.Rule, 100000)}, names(), false},
	} {
		if table.Whole(x.t, x.names) != x.want {
			t.Errorf("%d: Whole(%+v, %q) = %v", i, x.t, x.names, !x.want)
		}
	}
	for fault, r := range bad() {
		for at := range 3 {
			l := goods(3)
			l[at] = r
			if table.Whole(api.Table{Version: 1, Rules: l}, names()) {
				t.Errorf("whole with the fault %v", fault)
			}
		}
	}
}

// lists has all lists of up to so many of these numbers.
func lists(most int, numbers ...int) [][]int {
	out := [][]int{nil}
	for from := 0; len(out[from]) < most; from++ {
		for _, n := range numbers {
			out = append(out, append(slices.Clone(out[from]), n))
		}
	}
	return out
}

// P14.2: no rule has a greater rank than one ahead of it.
func TestWholeOrder(t *testing.T) {
	for _, ranks := range lists(6, 0, 7, 99) {
		want := true
		for i := 1; i < len(ranks); i++ {
			want = want && ranks[i-1] >= ranks[i]
		}
		if table.Whole(api.Table{Version: 1, Rules: ranked(ranks...)}, names()) != want {
			t.Errorf("Whole with ranks %v = %v", ranks, !want)
		}
	}
}

// P14.2: the first rule that hits, whatever its rank; all predicates must match. Nothing else of the table counts.
func TestLookup(t *testing.T) {
	asks := func(rank int, names ...string) api.Rule {
		r := api.Rule{Rank: rank}
		for _, name := range names {
			r.Preds = append(r.Preds, api.Pred{Kind: api.PredHas, Name: name})
		}
		return r
	}
	l := []api.Rule{asks(1, "k", "l"), asks(9, "k"), asks(-5, "l"), asks(7, "k", "l", "m"), asks(1000)}
	for i, x := range []struct {
		from, to int
		names    []string
		want     int
	}{
		{0, 5, nil, 4},
		{0, 5, []string{"k"}, 1},
		{0, 5, []string{"l"}, 2},
		{0, 5, []string{"l", "k"}, 0},
		{0, 5, []string{"m"}, 4},
		{1, 5, []string{"k", "l", "m"}, 0},
		{2, 5, []string{"k", "m"}, 2},
		{0, 4, nil, -1},
		{0, 4, []string{"m"}, -1},
		{0, 1, []string{"k"}, -1},
		{3, 4, []string{"k", "l", "m"}, 0},
		{0, 0, []string{"k"}, -1},
	} {
		var q api.Request
		for _, name := range x.names {
			q.Heads = append(q.Heads, api.Head{Name: name})
		}
		for _, c := range []api.Table{{Rules: l[x.from:x.to]}, {Version: 3, Format: "\n", Rules: l[x.from:x.to]}} {
			if at := table.Lookup(c, q); at != x.want {
				t.Errorf("%d: Lookup = %d; want %d", i, at, x.want)
			}
		}
	}
	if at := table.Lookup(api.Table{}, api.Request{}); at != -1 {
		t.Errorf("Lookup in no table = %d", at)
	}
	x, _ := table.Compile(api.Config{Format: "f"}, 1, names())
	if at := table.Lookup(x, api.Request{Method: "GET", Host: "a", Path: "/"}); at != -1 {
		t.Errorf("Lookup without rules = %d", at)
	}
}

// P14.3: what is compiled is whole, and is compiled of itself.
func TestCompileAgain(t *testing.T) {
	for _, ranks := range lists(5, 99, 0, 50) {
		x, e := table.Compile(api.Config{Rules: ranked(ranks...), Format: "%PATH%"}, 5, names())
		if e != api.OK || !table.Whole(x, names()) {
			t.Fatalf("Compile of ranks %v: %v, %+v", ranks, e, x)
		}
		again, e := table.Compile(api.Config{Rules: x.Rules, Format: x.Format}, x.Version, names())
		if e != api.OK {
			t.Fatalf("Compile of %+v: %v", x, e)
		}
		holdTable(t, again, x)
	}
}

// P14.3: Lookup finds the rule that rule.First finds in the config.
func TestLookupFirst(t *testing.T) {
	for _, ranks := range lists(5, 99, 0, 50) {
		l := ranked(ranks...)
		for skipped := range min(len(l), 2) + 1 {
			// Without the first one there may be no rule that hits all.
			c := api.Config{Rules: l[skipped:]}
			x, _ := table.Compile(c, 1, names())
			for _, q := range []api.Request{{}, {Heads: []api.Head{{Name: "k"}}}, {Heads: []api.Head{{Name: "l"}}}} {
				at, first := table.Lookup(x, q), rule.First(c.Rules, q)
				if (at < 0) != (first < 0) || at < -1 || at >= 0 && x.Rules[at].Sample != c.Rules[first].Sample {
					t.Fatalf("Lookup of %+v in ranks %v = %d; First = %d", q, ranks[skipped:], at, first)
				}
			}
		}
	}
}

// said has all that l has, so that a change is seen.
func said(l []api.Rule) string {
	var s strings.Builder
	for _, r := range l {
		s.WriteString(strconv.Itoa(r.Rank) + " " + strconv.Itoa(r.Sample) + r.Target)
		for _, p := range r.Preds {
			s.WriteString(" " + strconv.Itoa(p.Kind) + p.Name + ":" + p.Value)
		}
		s.WriteString("\n")
	}
	return s.String()
}

// P14.1, P14.2 under the rules 4 and 5: what is handed in stays as it is, and is not kept; answers share nothing.
func TestApart(t *testing.T) {
	preds := []api.Pred{{Kind: api.PredHas, Name: "k"}, {Kind: api.PredHas, Name: "l"}, {Kind: api.PredHas, Name: "m"}}
	l := []api.Rule{{Rank: 1, Target: "a", Preds: preds[:2]}, {Rank: 5, Target: "b", Preds: preds[:2]}, {Rank: 5, Target: "c", Preds: preds[1:]}, {Rank: 0, Target: "a"}}
	before, group := said(l), names()
	c := api.Config{Rules: l[:3]}
	table.Check(c, group)
	one, _ := table.Compile(c, 1, group)
	other, _ := table.Compile(c, 1, group)
	want := said(other.Rules)
	table.Whole(one, group)
	table.Whole(api.Table{Version: 1, Rules: l}, group)
	table.Lookup(one, api.Request{Heads: []api.Head{{Name: "k"}}})
	if said(l) != before || said(one.Rules) != want || !slices.Equal(group, names()) {
		t.Errorf("what was handed in is %v, %q", l, group)
	}
	_ = append(one.Rules, api.Rule{Target: "x"})
	for i := range one.Rules {
		_ = append(one.Rules[i].Preds, api.Pred{Name: "x"})
		one.Rules[i].Preds[0] = api.Pred{Name: "y"}
		for j := range one.Rules {
			if j > i && one.Rules[j].Preds[0].Name == "y" {
				t.Errorf("the rules %d and %d of one answer share predicates", i, j)
			}
		}
		one.Rules[i] = api.Rule{}
	}
	if again, _ := table.Compile(c, 1, group); said(l) != before || said(other.Rules) != want || said(again.Rules) != want {
		t.Errorf("an answer shares memory: %v, %v", l, other)
	}
	clear(preds)
	clear(l)
	clear(group)
	if said(other.Rules) != want {
		t.Errorf("what was handed in is kept: %v", other)
	}
}
