package snap_test

import (
	"math"
	"slices"
	"strings"
	"testing"

	"periscope/api"
	"periscope/snap"
	"periscope/table"
)

func names() []string {
	return []string{"a", "b", "c"}
}

// good is a rule that may be, and has all that a rule can have.
func good() api.Rule {
	return api.Rule{Rank: 5, Preds: []api.Pred{{Kind: api.PredHas, Name: "k"}, {Kind: api.PredHost, Value: "h"}}, Target: "a", AbortPct: 10, AbortStatus: 503, DelayPct: 20, DelayTicks: 5, MirrorPct: 30, Mirror: "b", Sample: 40}
}

// goods has so many rules that may be, in their order.
func goods(size int) []api.Rule {
	var l []api.Rule
	for range size {
		l = append(l, good())
	}
	return l
}

// turned is good, but for what turn does.
func turned(turn func(r *api.Rule)) api.Rule {
	r := good()
	turn(&r)
	return r
}

// of is a table that may be, with a rule that goes to target.
func of(version int, target string) api.Table {
	return api.Table{Version: version, Rules: []api.Rule{turned(func(r *api.Rule) { r.Target = target })}, Format: target}
}

// bad has tables that are not whole, but for their version.
func bad(version int) []api.Table {
	l := []api.Table{
		{Version: version, Format: "\n"},
		{Version: version, Format: strings.Repeat("a", 121)},
		{Version: version, Rules: goods(17)},
		{Version: version, Rules: make([]api.Rule, 10000)},
		{Version: version, Rules: []api.Rule{turned(func(r *api.Rule) { r.Rank = 4 }), good()}},
	}
	for _, turn := range []func(r *api.Rule){
		func(r *api.Rule) { r.Rank = 100 },
		func(r *api.Rule) { r.Preds = slices.Repeat(r.Preds, 3) },
		func(r *api.Rule) { r.Preds[0].Kind = 7 },
		func(r *api.Rule) { r.Preds[0].Name = "K" },
		func(r *api.Rule) { r.Target = "d" },
		func(r *api.Rule) { r.Target = "" },
		func(r *api.Rule) { r.Mirror = "d" },
		func(r *api.Rule) { r.AbortStatus = 399 },
		func(r *api.Rule) { r.DelayTicks = 51 },
		func(r *api.Rule) { r.Sample = 101 },
		func(r *api.Rule) { r.Mirror = "" },
	} {
		l = append(l, api.Table{Version: version, Rules: []api.Rule{good(), turned(turn)}, Format: "f"})
	}
	return l
}

// same holds tables against one another; an empty list is as good as none.
func same(x, want api.Table) bool {
	return x.Version == want.Version && x.Format == want.Format && slices.EqualFunc(x.Rules, want.Rules, sameRule)
}

func sameRule(a, b api.Rule) bool {
	return slices.Equal(a.Preds, b.Preds) && a.Rank == b.Rank && a.Target == b.Target &&
		a.AbortPct == b.AbortPct && a.AbortStatus == b.AbortStatus && a.DelayPct == b.DelayPct && a.DelayTicks == b.DelayTicks &&
		a.MirrorPct == b.MirrorPct && a.Mirror == b.Mirror && a.Sample == b.Sample
}

// held holds all that a holder tells against what it must be.
func held(t *testing.T, h *snap.Holder, want api.Table, taken, refused int) {
	t.Helper()
	if got := h.Get(); !same(got, want) {
		t.Fatalf("Get() = %+v; want %+v", got, want)
	}
	if h.Version() != want.Version || h.Taken() != taken || h.Refused() != refused {
		t.Fatalf("Version, Taken, Refused = %d, %d, %d; want %d, %d, %d", h.Version(), h.Taken(), h.Refused(), want.Version, taken, refused)
	}
}

func pushed(t *testing.T, h *snap.Holder, x api.Table, want api.Errno) {
	t.Helper()
	if e := h.Push(x); e != want {
		t.Fatalf("Push(%+v) = %v; want %v", x, e, want)
	}
}

// P17.1, P17.2: a holder holds the zero table at first, whatever the names.
func TestNew(t *testing.T) {
	for _, l := range [][]string{nil, {}, {""}, {"A", "\xff"}, names(), slices.Repeat([]string{"a"}, 1000)} {
		held(t, snap.New(l), api.Table{}, 0, 0)
	}
}

// P17.1: what is whole is held as it was pushed, on a holder that holds nothing, and on one that holds something.
func TestPushWhole(t *testing.T) {
	l := []api.Table{
		{Version: 1},
		{Version: 1, Rules: []api.Rule{}, Format: "%PATH% x "},
		{Version: 2, Rules: []api.Rule{{Target: "a"}}},
		{Version: 3, Rules: goods(1), Format: "%"},
		{Version: 17, Rules: []api.Rule{turned(func(r *api.Rule) { r.Rank = 99 }), good(), {Target: "c"}, {Target: "b"}}},
		{Version: 1 << 32, Rules: goods(16), Format: strings.Repeat("~", 120)},
		{Version: 1<<40 - 1, Rules: goods(2)},
		{Version: 1 << 40, Rules: goods(3)},
	}
	all := snap.New(names())
	for i, x := range l {
		one := snap.New(names())
		pushed(t, one, x, api.OK)
		held(t, one, x, 1, 0)
		pushed(t, all, x, api.OK)
		held(t, all, x, i+1, 0)
	}
}

// P17.1: what is not whole is refused, whatever is held, and nothing is changed but the count.
func TestPushBroken(t *testing.T) {
	for _, kept := range []api.Table{{}, of(1, "a"), of(5, "b"), of(1<<40, "c")} {
		h, refused := snap.New(names()), 0
		if kept.Version > 0 {
			pushed(t, h, kept, api.OK)
		}
		taken := h.Taken()
		for _, version := range []int{1, 4, 5, 6, 1 << 40} {
			for _, x := range bad(version) {
				pushed(t, h, x, api.ErrArg)
				refused++
				held(t, h, kept, taken, refused)
			}
		}
		for _, version := range []int{0, -1, math.MinInt, -1 << 40, 1<<40 + 1, 1 << 41, math.MaxInt} {
			for _, x := range []api.Table{{Version: version}, of(version, "a"), {Version: version, Format: "\n"}} {
				pushed(t, h, x, api.ErrArg)
				refused++
				held(t, h, kept, taken, refused)
			}
		}
	}
}

// P17.1: the names are those of New.
func TestPushNames(t *testing.T) {
	for _, x := range []struct {
		names []string
		want  api.Errno
	}{
		{names(), api.OK},
		{[]string{"b", "a"}, api.OK},
		{[]string{"a", "b", "a"}, api.OK},
		{[]string{"a"}, api.ErrArg},
		{[]string{"b"}, api.ErrArg},
		{[]string{"A", "B"}, api.ErrArg},
		{[]string{""}, api.ErrArg},
		{nil, api.ErrArg},
	} {
		h := snap.New(x.names)
		pushed(t, h, of(3, "a"), x.want)
		if x.want == api.OK {
			held(t, h, of(3, "a"), 1, 0)
		} else {
			held(t, h, api.Table{}, 0, 1)
		}
		pushed(t, h, api.Table{Version: 4}, api.OK)
	}
}

// P17.1: a version below the one that is held is old; the same one is not, and what it has is held. What is old and not whole is told as not whole.
func TestPushOld(t *testing.T) {
	versions := []int{1, 2, 3, 16, 1 << 32, 1<<32 + 1, 1<<40 - 1, 1 << 40}
	for _, first := range versions {
		for _, second := range versions {
			h := snap.New(names())
			pushed(t, h, of(first, "a"), api.OK)
			if second < first {
				pushed(t, h, of(second, "b"), api.ErrOld)
				held(t, h, of(first, "a"), 1, 1)
				pushed(t, h, of(second, "d"), api.ErrArg)
				held(t, h, of(first, "a"), 1, 2)
			} else {
				pushed(t, h, of(second, "b"), api.OK)
				held(t, h, of(second, "b"), 2, 0)
			}
		}
	}
}

// P17.1: nothing of a table stays behind when another one is held.
func TestPushLess(t *testing.T) {
	h := snap.New(names())
	pushed(t, h, api.Table{Version: 1, Rules: goods(16), Format: "f"}, api.OK)
	pushed(t, h, api.Table{Version: 1, Rules: goods(2)}, api.OK)
	held(t, h, api.Table{Version: 1, Rules: goods(2)}, 2, 0)
	pushed(t, h, api.Table{Version: 2}, api.OK)
	held(t, h, api.Table{Version: 2}, 3, 0)
	pushed(t, h, api.Table{Version: 2, Format: "g"}, api.OK)
	held(t, h, api.Table{Version: 2, Format: "g"}, 4, 0)
}

// P17.3: behind all rows of some pushes the table is the zero one, or one that was pushed, whole, and no version falls.
func TestHeld(t *testing.T) {
	steps := []api.Table{of(1, "a"), of(1, "b"), of(2, "c"), of(3, "d"), of(3, "a"), {}}
	most := 5
	rows := 1
	for range most {
		rows *= len(steps)
	}
	for row := range rows {
		h := snap.New(names())
		want, taken, refused := api.Table{}, 0, 0
		for n := row; taken+refused < most; n /= len(steps) {
			x := steps[n%len(steps)]
			errno := api.OK
			switch {
			case x.Format == "d" || x.Version == 0:
				errno = api.ErrArg
			case x.Version < want.Version:
				errno = api.ErrOld
			}
			before := h.Version()
			pushed(t, h, x, errno)
			if errno == api.OK {
				want = x
				taken++
			} else {
				refused++
			}
			held(t, h, want, taken, refused)
			if h.Version() < before || taken > 0 && !table.Whole(h.Get(), names()) {
				t.Fatalf("row %d: version %d behind %d", row, h.Version(), before)
			}
		}
	}
}

// P17.2: of a nil holder.
func TestNil(t *testing.T) {
	var h *snap.Holder
	for _, x := range append(bad(1), api.Table{}, of(1, "a"), of(-1, "d")) {
		pushed(t, h, x, api.ErrNil)
		held(t, h, api.Table{}, 0, 0)
	}
}

// P17.1, P17.2: a holder hangs on its own pushes alone, and asking changes nothing.
func TestTwo(t *testing.T) {
	one, other := snap.New(names()), snap.New(names())
	pushed(t, one, of(5, "a"), api.OK)
	pushed(t, one, of(4, "a"), api.ErrOld)
	held(t, other, api.Table{}, 0, 0)
	pushed(t, other, of(4, "b"), api.OK)
	for range 3 {
		held(t, one, of(5, "a"), 1, 1)
		held(t, other, of(4, "b"), 1, 0)
	}
}

// spoil writes into all that a table has, and behind it.
func spoil(x api.Table) {
	_ = append(x.Rules, api.Rule{Target: "x"})
	for i := range x.Rules {
		_ = append(x.Rules[i].Preds, api.Pred{Name: "x"})
		for j := range x.Rules[i].Preds {
			x.Rules[i].Preds[j] = api.Pred{Name: "x"}
		}
		x.Rules[i] = api.Rule{Target: "x"}
	}
}

// P17.1 under the rules 4 and 5: what is handed in stays as it is, also behind its ends, and is not kept.
func TestHandedIn(t *testing.T) {
	group := names()
	h := snap.New(group)
	clear(group)
	rules := goods(4)
	preds := rules[3].Preds
	for i := range rules {
		// All rules share predicates, and more lie behind these.
		rules[i].Preds = preds[:1]
	}
	x := api.Table{Version: 2, Rules: rules[:2], Format: "f"}
	want := api.Table{Version: 2, Rules: slices.Repeat([]api.Rule{turned(func(r *api.Rule) { r.Preds = r.Preds[:1] })}, 2), Format: "f"}
	pushed(t, h, x, api.OK)
	pushed(t, h, api.Table{Version: 1, Rules: rules}, api.ErrOld)
	spoil(h.Get())
	if !same(x, want) || rules[2].Target != "a" || rules[3].Rank != 5 || !slices.Equal(preds, good().Preds) {
		t.Errorf("what was handed in is %+v, behind it %+v, %+v", x, rules[2:], preds)
	}
	spoil(api.Table{Rules: rules})
	clear(preds)
	held(t, h, want, 1, 1)
}

// P17.2 under rule 4: answers share nothing with what is held, with one another, and within themselves.
func TestAnswers(t *testing.T) {
	h := snap.New(names())
	want := api.Table{Version: 2, Rules: goods(3), Format: "f"}
	pushed(t, h, want, api.OK)
	one, other := h.Get(), h.Get()
	for i := range one.Rules {
		spoil(api.Table{Rules: one.Rules[i : i+1 : i+1]})
		if rest := (api.Table{Version: 2, Rules: one.Rules[i+1:], Format: "f"}); !same(rest, api.Table{Version: 2, Rules: goods(2 - i), Format: "f"}) {
			t.Errorf("rules of one answer share memory: %+v", rest)
		}
	}
	if !same(other, want) {
		t.Errorf("answers share memory: %+v", other)
	}
	held(t, h, want, 1, 0)
	spoil(snap.New(nil).Get())
	held(t, snap.New(nil), api.Table{}, 0, 0)
}
