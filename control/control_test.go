package control_test

import (
	"math"
	"slices"
	"strconv"
	"strings"
	"testing"

	"periscope/api"
	"periscope/conf"
	"periscope/control"
	"periscope/table"
)

func names() []string {
	return []string{"a", "b", "c"}
}

// text has these lines.
func text(lines ...string) string {
	return strings.Join(lines, "\n") + "\n"
}

// good is a text that may be published with a and b: its rules are not in order.
func good() string {
	return text("format %PATH%", "rule 1", "to a", "sample 100", "rule 5", "prefix /x", "has k", "to b", "abort 10 503", "delay 20 5", "mirror 30 a", "rule 5", "host h", "to a", "end")
}

// goodTable is what good is compiled to.
func goodTable(version int) api.Table {
	return api.Table{Version: version, Format: "%PATH%", Rules: []api.Rule{
		{Rank: 5, Preds: []api.Pred{{Kind: api.PredPrefix, Value: "/x"}, {Kind: api.PredHas, Name: "k"}}, Target: "b", AbortPct: 10, AbortStatus: 503, DelayPct: 20, DelayTicks: 5, MirrorPct: 30, Mirror: "a"},
		{Rank: 5, Preds: []api.Pred{{Kind: api.PredHost, Value: "h"}}, Target: "a"},
		{Rank: 1, Target: "a", Sample: 100},
	}}
}

// fault is a text, and the error that it is refused with.
type fault struct {
	text string
	want api.Errno
}

// unread has texts that conf.Read has an error of.
func unread() []fault {
	rules := strings.Repeat("rule 1\nto a\n", 17)
	return []fault{
		{"", api.ErrForm},
		{"end", api.ErrForm},
		{"\n", api.ErrForm},
		{"end\n\n", api.ErrForm},
		{text("end", "end"), api.ErrForm},
		{text("END"), api.ErrForm},
		{text("rule 1", "to a"), api.ErrForm},
		{text("rule 01", "to a", "end"), api.ErrForm},
		{text("to a", "end"), api.ErrForm},
		{text("rule 1", "to d", "sample", "end"), api.ErrForm},
		{strings.Repeat("\xff", 4096), api.ErrForm},
		{strings.Repeat("x", 4097), api.ErrLong},
		{strings.Repeat("x", 1<<20), api.ErrLong},
		{text("format \x7f", "end"), api.ErrText},
		{text("format "+strings.Repeat("a", 121), "end"), api.ErrText},
		{rules + "end\n", api.ErrFull},
		{text("rule 1", "has a", "has a", "has a", "has a", "has a", "to a", "end"), api.ErrFull},
		{text("rule 1", "has A", "to a", "end"), api.ErrName},
		{text("rule 1", "to A", "end"), api.ErrName},
		{text("rule 1", "to ", "end"), api.ErrName},
		{text("rule 1", "to a", "mirror 5 ", "end"), api.ErrName},
		{text("rule 1", "method get", "to a", "end"), api.ErrForm},
		{text("rule 1", "exact x", "to a", "end"), api.ErrRange},
		{text("rule 1", "head k  ", "to a", "end"), api.ErrText},
	}
}

// unfit has texts that are read, but that table.Check has an error of.
func unfit() []fault {
	return []fault{
		{text("rule 100", "to a", "end"), api.ErrRange},
		{text("rule 999999", "to d", "end"), api.ErrRange},
		{text("rule 1", "to d", "end"), api.ErrName},
		{text("rule 1", "to d", "sample 101", "end"), api.ErrName},
		{text("rule 1", "to a", "mirror 5 d", "end"), api.ErrName},
		{text("rule 1", "to a", "mirror 0 d", "end"), api.ErrName},
		{text("rule 1", "to a", "abort 101 503", "end"), api.ErrRange},
		{text("rule 1", "to a", "abort 0 399", "end"), api.ErrRange},
		{text("rule 1", "to a", "abort 1 0", "end"), api.ErrRange},
		{text("rule 1", "to a", "abort 1 600", "end"), api.ErrRange},
		{text("rule 1", "to a", "delay 101 1", "end"), api.ErrRange},
		{text("rule 1", "to a", "delay 1 0", "end"), api.ErrRange},
		{text("rule 1", "to a", "delay 1 51", "end"), api.ErrRange},
		{text("rule 1", "to a", "mirror 101 a", "end"), api.ErrRange},
		{text("rule 1", "to a", "sample 101", "end"), api.ErrRange},
		{text("rule 1", "to a", "rule 1", "to d", "rule 100", "to a", "end"), api.ErrName},
		{text("rule 1", "to a", "rule 100", "to a", "rule 1", "to d", "end"), api.ErrRange},
	}
}

func published(t *testing.T, p *control.Plane, text string, version int, want api.Errno) {
	t.Helper()
	if n, e := p.Publish(text); n != version || e != want {
		t.Fatalf("Publish(%.200q) = %d, %v; want %d, %v", text, n, e, version, want)
	}
}

// held holds what a plane tells of a version against what it must be.
func held(t *testing.T, p *control.Plane, version int, want api.Table) {
	t.Helper()
	if x, ok := p.At(version); !ok || !same(x, want) {
		t.Fatalf("At(%d) = %+v, %v; want %+v", version, x, ok, want)
	}
}

// counted holds how many there are of all against what must be, and that there is no other version.
func counted(t *testing.T, p *control.Plane, versions, refused int) {
	t.Helper()
	if p.Versions() != versions || p.Refused() != refused {
		t.Fatalf("Versions, Refused = %d, %d; want %d, %d", p.Versions(), p.Refused(), versions, refused)
	}
	for _, version := range []int{versions + 1, versions + 2, 17, 1 << 32, 1<<32 + 1, math.MaxInt, 0, -1, -16, math.MinInt} {
		if x, ok := p.At(version); ok || !same(x, api.Table{}) {
			t.Fatalf("At(%d) of %d = %+v, %v", version, versions, x, ok)
		}
	}
}

// same holds tables against one another; an empty list is as good as none.
func same(x, want api.Table) bool {
	return x.Version == want.Version && x.Format == want.Format && slices.EqualFunc(x.Rules, want.Rules, sameRule)
}

func sameRule(a, b api.Rule) bool {
	return slices.Equal(a.Preds, b.Preds) && a.Rank == b.Rank && a.Target == b.Target &&
		a.AbortPct == b.AbortPct && a.AbortStatus == b.AbortStatus && a.DelayPct == b.DelayPct && a.DelayTicks == b.DelayTicks &&
		a.MirrorPct == b.MirrorPct && a.Mirror == b.Mirror && a.Sample == b.Sample
}

// P18.1, P18.2: a plane has no versions at first, whatever the names.
func TestNew(t *testing.T) {
	for _, l := range [][]string{nil, {}, {""}, {"A", "\xff"}, names(), slices.Repeat([]string{"a"}, 1000)} {
		p := control.New(l)
		counted(t, p, 0, 0)
		published(t, p, "end\n", 1, api.OK)
		held(t, p, 1, api.Table{Version: 1})
		counted(t, p, 1, 0)
	}
}

// P18.1, P18.2: versions are numbered from 1 on, and each is the table of its own text.
func TestPublish(t *testing.T) {
	p := control.New(names())
	published(t, p, good(), 1, api.OK)
	held(t, p, 1, goodTable(1))
	counted(t, p, 1, 0)
	published(t, p, "end\n", 2, api.OK)
	published(t, p, text("format f", "rule 99", "to c", "end"), 3, api.OK)
	published(t, p, good(), 4, api.OK)
	published(t, p, text("rule 1", "to a", "mirror 0 ", "end"), 5, api.OK)
	counted(t, p, 5, 0)
	held(t, p, 1, goodTable(1))
	held(t, p, 2, api.Table{Version: 2})
	held(t, p, 3, api.Table{Version: 3, Format: "f", Rules: []api.Rule{{Rank: 99, Target: "c"}}})
	held(t, p, 4, goodTable(4))
	held(t, p, 5, api.Table{Version: 5, Rules: []api.Rule{{Rank: 1, Target: "a"}}})
}

// P18.1: what is at its limits may be published.
func TestPublishMost(t *testing.T) {
	most := text("rule 99", "has a", "has a", "has a", "has a", "to a", "abort 100 599", "delay 100 50", "mirror 100 a", "sample 100")
	whole := text("format "+strings.Repeat("~", 120)) + strings.Repeat(most, 16) + "end\n"
	p := control.New(names())
	published(t, p, whole, 1, api.OK)
	r := api.Rule{Rank: 99, Preds: slices.Repeat([]api.Pred{{Kind: api.PredHas, Name: "a"}}, 4), Target: "a", AbortPct: 100, AbortStatus: 599, DelayPct: 100, DelayTicks: 50, MirrorPct: 100, Mirror: "a", Sample: 100}
	held(t, p, 1, api.Table{Version: 1, Format: strings.Repeat("~", 120), Rules: slices.Repeat([]api.Rule{r}, 16)})
	counted(t, p, 1, 0)
}

// P18.1: what can't be read, and what doesn't fit, is refused, and nothing is changed but the count.
func TestPublishRefused(t *testing.T) {
	p, refused := control.New(names()), 0
	for versions := range 3 {
		for _, x := range append(unread(), unfit()...) {
			published(t, p, x.text, 0, x.want)
			refused++
			counted(t, p, versions, refused)
			for version := range versions {
				held(t, p, version+1, goodTable(version+1))
			}
		}
		published(t, p, good(), versions+1, api.OK)
		counted(t, p, versions+1, refused)
	}
}

// P18.1: the names are those of New.
func TestPublishNames(t *testing.T) {
	for _, x := range []struct {
		names []string
		want  api.Errno
	}{
		{names(), api.OK},
		{[]string{"b", "a"}, api.OK},
		{[]string{"a", "b", "a"}, api.OK},
		{[]string{"a"}, api.ErrName},
		{[]string{"b"}, api.ErrName},
		{[]string{"A", "B"}, api.ErrName},
		{[]string{""}, api.ErrName},
		{nil, api.ErrName},
	} {
		p := control.New(x.names)
		if x.want == api.OK {
			published(t, p, good(), 1, api.OK)
			held(t, p, 1, goodTable(1))
			counted(t, p, 1, 0)
		} else {
			published(t, p, good(), 0, x.want)
			counted(t, p, 0, 1)
		}
	}
	// A name that may be none is no target, though it is one of the names.
	p := control.New([]string{"", "A"})
	published(t, p, text("rule 1", "to A", "end"), 0, api.ErrName)
	published(t, p, text("rule 1", "to ", "end"), 0, api.ErrName)
}

// ranked is a text whose one rule has this rank.
func ranked(rank int) string {
	return text("rule "+strconv.Itoa(rank), "to a", "end")
}

// P18.1, P18.3: there are 16 versions at most; all of them stay as they were. Of a full plane other errors come first.
func TestFull(t *testing.T) {
	p := control.New(names())
	whole := func() {
		t.Helper()
		for version := 1; version <= p.Versions(); version++ {
			held(t, p, version, api.Table{Version: version, Rules: []api.Rule{{Rank: version, Target: "a"}}})
		}
	}
	for version := range 16 {
		published(t, p, ranked(version+1), version+1, api.OK)
		whole()
		counted(t, p, version+1, 0)
	}
	refused := 0
	for _, s := range []string{ranked(17), ranked(16), "end\n", good()} {
		published(t, p, s, 0, api.ErrFull)
		refused++
		counted(t, p, 16, refused)
		whole()
	}
	for _, x := range append(unread(), unfit()...) {
		published(t, p, x.text, 0, x.want)
		refused++
		counted(t, p, 16, refused)
	}
	whole()
}

// P18.1: what is refused takes no number.
func TestNumbers(t *testing.T) {
	p := control.New(names())
	for version := range 16 {
		for range version {
			published(t, p, "x", 0, api.ErrForm)
		}
		published(t, p, ranked(version+1), version+1, api.OK)
	}
	counted(t, p, 16, 16*15/2)
	held(t, p, 16, api.Table{Version: 16, Rules: []api.Rule{{Rank: 16, Target: "a"}}})
}

// P18.2, P18.3: each version is whole, and is what table.Compile answers of its text's config.
func TestWhole(t *testing.T) {
	p := control.New(names())
	texts := []string{good(), "end\n", text("format f", "end"), text("rule 0", "to c", "rule 99", "to b", "rule 50", "to a", "end"), good()}
	for i, s := range texts {
		published(t, p, s, i+1, api.OK)
	}
	for i, s := range texts {
		c, _, _ := conf.Read(s)
		want, errno := table.Compile(c, i+1, names())
		held(t, p, i+1, want)
		if x, _ := p.At(i + 1); errno != api.OK || x.Version != i+1 || !table.Whole(x, names()) {
			t.Errorf("At(%d) = %+v", i+1, x)
		}
	}
}

// P18.2: of a nil plane.
func TestNil(t *testing.T) {
	var p *control.Plane
	for _, x := range append(unread(), fault{text: "end\n"}, fault{text: good()}) {
		published(t, p, x.text, 0, api.ErrNil)
		counted(t, p, 0, 0)
	}
}

// P18.1: a plane hangs on its own calls alone.
func TestTwo(t *testing.T) {
	one, other := control.New(names()), control.New([]string{"a"})
	published(t, one, good(), 1, api.OK)
	published(t, one, "x", 0, api.ErrForm)
	counted(t, other, 0, 0)
	published(t, other, good(), 0, api.ErrName)
	published(t, other, "end\n", 1, api.OK)
	held(t, one, 1, goodTable(1))
	held(t, other, 1, api.Table{Version: 1})
	counted(t, one, 1, 1)
	counted(t, other, 1, 1)
}

// spoil writes into all that a table has, and behind it.
func spoil(x api.Table) {
	_ = append(x.Rules, api.Rule{Target: "x"})
	for i := range x.Rules {
		_ = append(x.Rules[i].Preds, api.Pred{Name: "x"})
		for j := range x.Rules[i].Preds {
			x.Rules[i].Preds[j] = api.Pred{Name: "x"}
		}
		x.Rules[i] = api.Rule{Target: "x"}
	}
}

// P18.1 to P18.3 under the rules 4 and 5: names are not kept; answers share nothing with what is kept, with one another, and within themselves.
func TestApart(t *testing.T) {
	group := names()
	p := control.New(group[:2])
	clear(group)
	published(t, p, good(), 1, api.OK)
	published(t, p, text("rule 1", "to c", "end"), 0, api.ErrName)
	one, _ := p.At(1)
	other, _ := p.At(1)
	for i := range one.Rules {
		spoil(api.Table{Rules: one.Rules[i : i+1 : i+1]})
		if !slices.EqualFunc(one.Rules[i+1:], goodTable(1).Rules[i+1:], sameRule) {
			t.Errorf("rules of one answer share memory: %+v", one.Rules[i+1:])
		}
	}
	if !same(other, goodTable(1)) {
		t.Errorf("answers share memory: %+v", other)
	}
	published(t, p, good(), 2, api.OK)
	held(t, p, 1, goodTable(1))
	held(t, p, 2, goodTable(2))
	counted(t, p, 2, 1)
}
