package decide_test

import (
	"math"
	"reflect"
	"slices"
	"testing"

	"periscope/api"
	"periscope/decide"
	"periscope/rule"
	"periscope/table"
)

// troubled is a rule that does all that a rule can do, each with its own part.
func troubled(abort, delay, mirror int) api.Rule {
	return api.Rule{Rank: 5, Target: "b", AbortPct: abort, AbortStatus: 503, DelayPct: delay, DelayTicks: 4, MirrorPct: mirror, Mirror: "c", Sample: 40}
}

func tableOf(rules ...api.Rule) api.Table {
	return api.Table{Version: 7, Rules: rules, Format: "%PATH%"}
}

func request(host string) api.Request {
	return api.Request{Method: "GET", Host: host, Path: "/x", Heads: []api.Head{{Name: "k", Value: "v"}}, Body: "hi"}
}

// ofHost is a rule that hits requests for a host alone.
func ofHost(host, target string) api.Rule {
	return api.Rule{Preds: []api.Pred{{Kind: api.PredHost, Value: host}}, Target: target}
}

func held(t *testing.T, c api.Table, q api.Request, draws [3]int, shadow bool, want api.Action) {
	t.Helper()
	if a := decide.Of(c, q, draws, shadow); a != want {
		t.Errorf("Of rules %+v, of %q, draws %v, shadow %v = %+v; want %+v", c.Rules, q.Host, draws, shadow, a, want)
	}
}

func sampled(t *testing.T, c api.Table, q api.Request, draw int, want bool) {
	t.Helper()
	if decide.Sampled(c, q, draw) != want {
		t.Errorf("Sampled by rules %+v, of %q, draw %d = %v", c.Rules, q.Host, draw, !want)
	}
}

func pass(delay int, mirror string) api.Action {
	return api.Action{Kind: api.ActPass, Target: "b", Delay: delay, Mirror: mirror}
}

func abort() api.Action {
	return api.Action{Kind: api.ActAbort, Target: "b", Status: 503}
}

func none() api.Action {
	return api.Action{Kind: api.ActNone, Rule: -1, Status: 404}
}

// someDraws are on both sides of 0, 50 and 100, and at the ends of what an int may be.
func someDraws() []int {
	return []int{0, 1, 49, 50, 51, 98, 99, 100, 149, 150, -1, -50, -51, -100, math.MinInt, math.MaxInt}
}

func eachDraws(visit func(draws [3]int)) {
	for _, first := range someDraws() {
		for _, second := range someDraws() {
			for _, third := range someDraws() {
				visit([3]int{first, second, third})
			}
		}
	}
}

// P16.1: without a rule that hits, whatever is drawn, and whoever asks.
func TestOfNone(t *testing.T) {
	always := troubled(100, 100, 100)
	always.Preds = []api.Pred{{Kind: api.PredHost, Value: "x"}, {Kind: api.PredHas, Name: "l"}}
	tables := []api.Table{{}, tableOf(), {Rules: []api.Rule{}}, tableOf(ofHost("x", "b"), ofHost("z", "c")), tableOf(always), tableOf(api.Rule{Preds: []api.Pred{{}}, Target: "b"})}
	for _, c := range tables {
		for _, shadow := range []bool{false, true} {
			eachDraws(func(draws [3]int) { held(t, c, request("y"), draws, shadow, none()) })
		}
	}
	held(t, tables[3], api.Request{}, [3]int{}, false, none())
	held(t, tables[4], request("x"), [3]int{}, false, none())
}

// P16.1: each draw is held against its own part, and what it decides is done in that order.
func TestOfDraws(t *testing.T) {
	c := tableOf(troubled(50, 50, 50))
	for i, x := range []struct {
		draws [3]int
		want  api.Action
	}{
		{[3]int{49, 99, 99}, abort()},
		{[3]int{49, 0, 0}, abort()},
		{[3]int{0, 49, 49}, abort()},
		{[3]int{149, 99, 99}, abort()},
		{[3]int{-51, 99, 99}, abort()},
		{[3]int{50, 50, 50}, pass(0, "")},
		{[3]int{99, 99, 99}, pass(0, "")},
		{[3]int{150, -1, -50}, pass(0, "")},
		{[3]int{50, 49, 50}, pass(4, "")},
		{[3]int{99, 0, 99}, pass(4, "")},
		{[3]int{-1, -100, -1}, pass(4, "")},
		{[3]int{50, 50, 49}, pass(0, "c")},
		{[3]int{99, 99, 0}, pass(0, "c")},
		{[3]int{99, 199, 100}, pass(0, "c")},
		{[3]int{50, 49, 49}, pass(4, "c")},
		{[3]int{99, 0, 0}, pass(4, "c")},
	} {
		if a := decide.Of(c, request("y"), x.draws, false); a != x.want {
			t.Errorf("%d: Of draws %v = %+v; want %+v", i, x.draws, a, x.want)
		}
		held(t, c, request("y"), x.draws, true, pass(0, ""))
	}
}

// P16.1: parts that differ, so that none is held against another one's draw.
func TestOfParts(t *testing.T) {
	parts := []int{0, 1, 30, 99, 100}
	for _, abortPct := range parts {
		for _, delayPct := range parts {
			for _, mirrorPct := range parts {
				c := tableOf(troubled(abortPct, delayPct, mirrorPct))
				for _, x := range [][3]int{{0, 0, 0}, {29, 30, 99}, {30, 99, 29}, {99, 29, 30}, {98, 1, 0}, {1, 0, 98}, {0, 98, 1}, {99, 99, 99}, {99, 0, 99}, {99, 99, 0}} {
					want := pass(0, "")
					if x[1] < delayPct {
						want.Delay = 4
					}
					if x[2] < mirrorPct {
						want.Mirror = "c"
					}
					if x[0] < abortPct {
						want = abort()
					}
					held(t, c, request("y"), x, false, want)
					held(t, c, request("y"), x, true, pass(0, ""))
				}
			}
		}
	}
}

// P16.1: it is the first rule that hits, whose place and target are told, whatever its rank; nothing of others is done.
func TestOfPlace(t *testing.T) {
	var l []api.Rule
	for i, host := range []string{"x", "y", "x", "z"} {
		r := ofHost(host, "t"+host)
		r.Rank, r.AbortPct, r.AbortStatus, r.DelayPct, r.DelayTicks, r.MirrorPct, r.Mirror = i, 50, 500+i, 50, 10+i, 50, "m"+host
		l = append(l, r)
	}
	last := troubled(100, 100, 100)
	for _, x := range []struct {
		rules []api.Rule
		host  string
		place int
	}{
		{l, "x", 0},
		{l, "y", 1},
		{l, "z", 3},
		{l[1:], "x", 1},
		{l[1:3], "x", 1},
		{l[3:], "z", 0},
		{append(slices.Clone(l), last), "z", 3},
		{append([]api.Rule{last, last, last}, l...)[2:], "y", 0},
		{append(slices.Clone(l[3:]), last), "y", 1},
	} {
		r := x.rules[x.place]
		want := api.Action{Kind: api.ActPass, Rule: x.place, Target: r.Target}
		c := tableOf(x.rules...)
		held(t, c, request(x.host), [3]int{0, 0, 0}, true, want)
		if r.AbortPct < 100 {
			held(t, c, request(x.host), [3]int{50, 50, 50}, false, want)
			want.Delay, want.Mirror = r.DelayTicks, r.Mirror
			held(t, c, request(x.host), [3]int{50, 49, 49}, false, want)
		}
		held(t, c, request(x.host), [3]int{49, 49, 49}, false, api.Action{Kind: api.ActAbort, Rule: x.place, Target: r.Target, Status: r.AbortStatus})
	}
}

// P16.1: of the table nothing counts but the rules; of a table that was compiled the place is that in its order.
func TestOfTable(t *testing.T) {
	names := []string{"a", "b", "c"}
	quiet := api.Rule{Rank: 1, Target: "a"}
	rules := []api.Rule{quiet, troubled(0, 100, 100), ofHost("x", "c")}
	c, errno := table.Compile(api.Config{Rules: rules, Format: "%PATH%"}, 3, names)
	if errno != api.OK {
		t.Fatal(errno)
	}
	held(t, c, request("x"), [3]int{}, false, pass(4, "c"))
	held(t, api.Table{Version: 9, Rules: c.Rules, Format: "\n"}, request("x"), [3]int{}, false, pass(4, "c"))
	held(t, api.Table{Rules: rule.Order(rules[:1])}, request("x"), [3]int{}, false, api.Action{Kind: api.ActPass, Target: "a"})
	held(t, api.Table{Version: -1, Rules: rules}, request("x"), [3]int{}, false, api.Action{Kind: api.ActPass, Target: "a"})
	held(t, api.Table{Rules: rules[2:]}, request("x"), [3]int{}, false, api.Action{Kind: api.ActPass, Target: "c"})
}

// P16.1: a rule is not checked; what it has is what is told.
func TestOfUnchecked(t *testing.T) {
	for _, x := range []struct {
		r     api.Rule
		draws [3]int
		want  api.Action
	}{
		{api.Rule{}, [3]int{0, 0, 0}, api.Action{Kind: api.ActPass}},
		{api.Rule{AbortPct: 1}, [3]int{0, 0, 0}, api.Action{Kind: api.ActAbort}},
		{api.Rule{AbortPct: 101, AbortStatus: -7}, [3]int{99, 0, 0}, api.Action{Kind: api.ActAbort, Status: -7}},
		{api.Rule{AbortPct: math.MaxInt, AbortStatus: math.MaxInt}, [3]int{-1, 0, 0}, api.Action{Kind: api.ActAbort, Status: math.MaxInt}},
		{api.Rule{AbortPct: -1, AbortStatus: 503}, [3]int{-1, 0, 0}, api.Action{Kind: api.ActPass}},
		{api.Rule{AbortPct: math.MinInt, AbortStatus: 503}, [3]int{math.MinInt, 0, 0}, api.Action{Kind: api.ActPass}},
		{api.Rule{Target: "\n", DelayPct: 200, DelayTicks: math.MaxInt}, [3]int{99, 99, 99}, api.Action{Kind: api.ActPass, Target: "\n", Delay: math.MaxInt}},
		{api.Rule{Target: "b", DelayPct: 1, DelayTicks: -3}, [3]int{0, 0, 0}, pass(-3, "")},
		{api.Rule{Target: "b", DelayPct: 100}, [3]int{0, 0, 0}, pass(0, "")},
		{api.Rule{Target: "b", DelayTicks: 4, Mirror: "c", AbortStatus: 503}, [3]int{0, 0, 0}, pass(0, "")},
		{api.Rule{Target: "b", MirrorPct: 100}, [3]int{0, 0, 0}, pass(0, "")},
		{api.Rule{Target: "b", MirrorPct: 1000, Mirror: "b"}, [3]int{0, 0, 99}, pass(0, "b")},
		{api.Rule{Target: "b", MirrorPct: -1, Mirror: "c"}, [3]int{0, 0, -1}, pass(0, "")},
	} {
		held(t, tableOf(x.r), request("y"), x.draws, false, x.want)
		held(t, tableOf(x.r), request("y"), x.draws, true, api.Action{Kind: api.ActPass, Target: x.r.Target})
	}
}

// P16.2: the rule's own part, at its ends, and on both sides of each draw.
func TestSampled(t *testing.T) {
	for pct := -1; pct <= 101; pct++ {
		r := troubled(50, 50, 50)
		r.Sample = pct
		for draw := range 100 {
			for _, n := range []int{draw, draw + 100, draw - 100, draw - 1000} {
				sampled(t, tableOf(r), request("y"), n, draw < pct)
			}
		}
	}
	sampled(t, tableOf(troubled(0, 0, 0)), request("y"), math.MinInt+8, true)
	sampled(t, tableOf(troubled(0, 0, 0)), request("y"), math.MinInt, false)
	sampled(t, tableOf(troubled(0, 0, 0)), request("y"), math.MaxInt, true)
}

// P16.2: it is the first rule that hits; without one nothing is sampled.
func TestSampledPlace(t *testing.T) {
	x, y, z, rest := ofHost("x", "b"), ofHost("y", "b"), ofHost("z", "b"), troubled(100, 0, 0)
	x.Sample, y.Sample, rest.Sample = 100, 10, 20
	l := []api.Rule{x, y, z, rest}
	for _, c := range []struct {
		rules []api.Rule
		host  string
		pct   int
	}{
		{l, "x", 100},
		{l, "y", 10},
		{l, "z", 0},
		{l, "w", 20},
		{l[1:], "x", 20},
		{l[3:], "y", 20},
		{l[:3], "w", 0},
		{l[:1], "y", 0},
		{nil, "x", 0},
	} {
		for draw := -100; draw < 200; draw++ {
			sampled(t, tableOf(c.rules...), request(c.host), draw, (draw+100)%100 < c.pct)
		}
	}
	sampled(t, api.Table{}, api.Request{}, 0, false)
}

// P16.3: what is aborted is neither delayed nor mirrored; of a shadow nothing of it is done.
func TestApartFromAbort(t *testing.T) {
	for _, abortPct := range []int{0, 1, 50, 99, 100} {
		for _, otherPct := range []int{0, 1, 50, 99, 100} {
			c := tableOf(troubled(abortPct, otherPct, otherPct))
			eachDraws(func(draws [3]int) {
				a := decide.Of(c, request("y"), draws, false)
				if a.Kind == api.ActAbort && (a.Delay != 0 || a.Mirror != "" || a.Status != 503) || a.Kind == api.ActPass && a.Status != 0 {
					t.Errorf("Of parts %d, %d, draws %v = %+v", abortPct, otherPct, draws, a)
				}
				held(t, c, request("y"), draws, true, pass(0, ""))
			})
		}
	}
}

// P16.3: parts of 0 never, parts of 100 always, whatever is drawn.
func TestNeverAlways(t *testing.T) {
	eachDraws(func(draws [3]int) {
		for _, x := range []struct {
			abort, delay, mirror int
			want                 api.Action
		}{
			{0, 0, 0, pass(0, "")},
			{0, 100, 0, pass(4, "")},
			{0, 0, 100, pass(0, "c")},
			{0, 100, 100, pass(4, "c")},
			{100, 0, 0, abort()},
			{100, 100, 0, abort()},
			{100, 0, 100, abort()},
			{100, 100, 100, abort()},
		} {
			held(t, tableOf(troubled(x.abort, x.delay, x.mirror)), request("y"), draws, false, x.want)
		}
	})
	for _, draw := range someDraws() {
		never, always := troubled(100, 100, 100), troubled(0, 0, 0)
		never.Sample, always.Sample = 0, 100
		sampled(t, tableOf(never), request("y"), draw, false)
		sampled(t, tableOf(always), request("y"), draw, true)
	}
}

// P16.1: of the draws from 0 to 99 just as many are aborted, delayed, mirrored, sampled as the parts say.
func TestHowMany(t *testing.T) {
	for pct := range 101 {
		r := troubled(pct, pct, pct)
		r.Sample = pct
		aborted, delayed, mirrored, told := 0, 0, 0, 0
		for draw := range 100 {
			if decide.Of(tableOf(r), request("y"), [3]int{draw, 99, 99}, false).Kind == api.ActAbort {
				aborted++
			}
			if decide.Of(tableOf(troubled(0, pct, 0)), request("y"), [3]int{99, draw, 99}, false).Delay == 4 {
				delayed++
			}
			if decide.Of(tableOf(troubled(0, 0, pct)), request("y"), [3]int{99, 99, draw}, false).Mirror == "c" {
				mirrored++
			}
			if decide.Sampled(tableOf(r), request("y"), draw) {
				told++
			}
		}
		if aborted != pct || delayed != pct || mirrored != pct || told != pct {
			t.Errorf("of a part of %d: %d, %d, %d, %d", pct, aborted, delayed, mirrored, told)
		}
	}
}

// P16.1, P16.2 under the rules 4 and 5: what is handed in stays as it is, and is not kept.
func TestApart(t *testing.T) {
	both := func() (api.Table, api.Request) {
		return tableOf(ofHost("x", "c"), troubled(50, 50, 50)), request("y")
	}
	c, q := both()
	want, ask := both()
	for _, shadow := range []bool{false, true} {
		eachDraws(func(draws [3]int) {
			decide.Of(c, q, draws, shadow)
			decide.Sampled(c, q, draws[0])
		})
	}
	if !reflect.DeepEqual(c, want) || !reflect.DeepEqual(q, ask) {
		t.Errorf("what was handed in is %+v, %+v", c, q)
	}
	clear(c.Rules)
	held(t, c, q, [3]int{}, false, api.Action{Kind: api.ActPass})
	sampled(t, c, q, 0, false)
}
