package conf_test

import (
	"math"
	"reflect"
	"slices"
	"strconv"
	"strings"
	"testing"

	"periscope/api"
	"periscope/conf"
)

// preds has a predicate of each kind.
func preds() []api.Pred {
	return []api.Pred{
		{Kind: api.PredMethod, Value: "GET"}, {Kind: api.PredHost, Value: "h"}, {Kind: api.PredExact, Value: "/x"},
		{Kind: api.PredPrefix, Value: "/y"}, {Kind: api.PredHead, Name: "n", Value: "v w"}, {Kind: api.PredHas, Name: "n"},
	}
}

// good is a rule that may be, and has all that a rule can have.
func good() api.Rule {
	return api.Rule{Rank: 5, Preds: preds()[2:], Target: "a", AbortPct: 10, AbortStatus: 503, DelayPct: 20, DelayTicks: 5, MirrorPct: 30, Mirror: "b", Sample: 40}
}

func goods(size int) []api.Rule {
	var l []api.Rule
	for range size {
		l = append(l, good())
	}
	return l
}

// turned is good, but for what turn does.
func turned(turn func(r *api.Rule)) api.Rule {
	r := good()
	turn(&r)
	return r
}

// checked holds Check and Write against the error that both must tell.
func checked(t *testing.T, c api.Config, want api.Errno) {
	t.Helper()
	if e := conf.Check(c); e != want {
		t.Errorf("Check(%+v) = %v; want %v", c, e, want)
	}
	if s, e := conf.Write(c); e != want || (s == "") != (want != api.OK) {
		t.Errorf("Write(%+v) = %q, %v; want %v", c, s, e, want)
	}
}

// checkedRule is checked with a config of one rule, and with one of three.
func checkedRule(t *testing.T, r api.Rule, want api.Errno) {
	t.Helper()
	checked(t, api.Config{Rules: []api.Rule{r}}, want)
	checked(t, api.Config{Rules: []api.Rule{good(), r, good()}}, want)
}

// P13.1: configs that may be, with few rules and with many.
func TestCheck(t *testing.T) {
	checked(t, api.Config{}, api.OK)
	checked(t, api.Config{Rules: []api.Rule{}, Format: "f"}, api.OK)
	checkedRule(t, api.Rule{Target: "a"}, api.OK)
	checkedRule(t, api.Rule{}, api.ErrName)
	for size := range 20 {
		want := api.OK
		if size > 16 {
			want = api.ErrFull
		}
		checked(t, api.Config{Rules: goods(size), Format: "f"}, want)
	}
	checked(t, api.Config{Rules: make([]api.Rule, 100000)}, api.ErrFull)
}

// P13.1: a format has at most 120 bytes, each from 32 to 126.
func TestCheckFormat(t *testing.T) {
	for size := range 240 {
		want := api.OK
		if size > 120 {
			want = api.ErrText
		}
		checked(t, api.Config{Format: strings.Repeat(" ", size), Rules: goods(2)}, want)
	}
	for b := range 256 {
		want := api.ErrText
		if b >= 32 && b <= 126 {
			want = api.OK
		}
		c := string([]byte{byte(b)})
		for _, s := range []string{c, "a" + c, c + "a", strings.Repeat("a", 119) + c} {
			checked(t, api.Config{Format: s}, want)
		}
	}
}

// P13.1: all numbers are from 0 to 999999, and are held to nothing else.
func TestCheckNumbers(t *testing.T) {
	for _, turn := range []func(r *api.Rule, n int){
		func(r *api.Rule, n int) { r.Rank = n },
		func(r *api.Rule, n int) { r.AbortPct = n },
		func(r *api.Rule, n int) { r.AbortStatus = n },
		func(r *api.Rule, n int) { r.DelayPct = n },
		func(r *api.Rule, n int) { r.DelayTicks = n },
		func(r *api.Rule, n int) { r.MirrorPct = n },
		func(r *api.Rule, n int) { r.Sample = n },
	} {
		for _, n := range []int{0, 1, 50, 51, 99, 100, 101, 399, 400, 600, 99999, 999998, 999999} {
			checkedRule(t, turned(func(r *api.Rule) { turn(r, n) }), api.OK)
		}
		for _, n := range []int{math.MinInt, -999999, -1, 1000000, 1000001, 1 << 32, 1<<32 + 5, math.MaxInt} {
			checkedRule(t, turned(func(r *api.Rule) { turn(r, n) }), api.ErrRange)
			bare := api.Rule{Target: "a"}
			turn(&bare, n)
			want := api.ErrRange
			if bare.MirrorPct != 0 {
				want = api.ErrName
			}
			checkedRule(t, bare, want)
		}
	}
}

// P13.1: a target, and a mirror, may be names; without a mirror there is no part of a hundred for it.
func TestCheckNames(t *testing.T) {
	long := strings.Repeat("a", 32)
	for _, x := range []struct {
		target, mirror string
		pct            int
		want           api.Errno
	}{
		{"a", "b", 30, api.OK},
		{"a", "a", 0, api.OK},
		{"0-z", "-", 1, api.OK},
		{long, long, 1, api.OK},
		{"a", "", 0, api.OK},
		{"a", "", 1, api.ErrName},
		{"a", "", -1, api.ErrName},
		{"a", "", 1000000, api.ErrName},
		{"", "b", 1, api.ErrName},
		{"", "", 0, api.ErrName},
		{"A", "b", 1, api.ErrName},
		{"a b", "b", 1, api.ErrName},
		{" ", "b", 1, api.ErrName},
		{"a\n", "b", 1, api.ErrName},
		{long + "a", "b", 1, api.ErrName},
		{"a", "B", 1, api.ErrName},
		{"a", "B", 0, api.ErrName},
		{"a", " ", 0, api.ErrName},
		{"a", "b c", 1, api.ErrName},
		{"a", "b\n", 1, api.ErrName},
		{"a", long + "a", 1, api.ErrName},
		{"a", "\xff", 1, api.ErrName},
	} {
		checkedRule(t, turned(func(r *api.Rule) { r.Target, r.Mirror, r.MirrorPct = x.target, x.mirror, x.pct }), x.want)
	}
}

// badPreds has a predicate for each error that pred.Check has.
func badPreds() map[api.Errno]api.Pred {
	return map[api.Errno]api.Pred{
		api.ErrArg: {}, api.ErrForm: {Kind: api.PredMethod, Value: "get"}, api.ErrName: {Kind: api.PredHas}, api.ErrRange: {Kind: api.PredExact}, api.ErrText: {Kind: api.PredHead, Name: "k", Value: " "},
	}
}

// P13.1: four predicates may be; of more than one fault the first one's is told, but too many ahead of all.
func TestCheckPreds(t *testing.T) {
	for _, p := range preds() {
		for size, want := range []api.Errno{api.OK, api.OK, api.OK, api.OK, api.OK, api.ErrFull, api.ErrFull} {
			checkedRule(t, turned(func(r *api.Rule) { r.Preds = slices.Repeat([]api.Pred{p}, size) }), want)
		}
	}
	for want, p := range badPreds() {
		for size := range 7 {
			for at := range size {
				l := slices.Repeat(preds()[5:], size)
				l[at] = p
				told := want
				if size > 4 {
					told = api.ErrFull
				}
				checkedRule(t, turned(func(r *api.Rule) { r.Preds = l }), told)
				for _, other := range badPreds() {
					for behind := at + 1; behind < size; behind++ {
						two := slices.Clone(l)
						two[behind] = other
						checkedRule(t, turned(func(r *api.Rule) { r.Preds = two }), told)
					}
				}
			}
		}
	}
	for _, p := range []api.Pred{
		{Kind: 7, Value: "a"}, {Kind: -1, Value: "a"}, {Kind: math.MinInt}, {Kind: math.MaxInt},
		{Kind: api.PredHost, Name: "a", Value: "a"}, {Kind: api.PredHas, Name: "a", Value: "a"},
	} {
		checkedRule(t, turned(func(r *api.Rule) { r.Preds = []api.Pred{p} }), api.ErrArg)
	}
}

// P13.1: of all sets of a rule's faults the one is told that the document names first; behind those of the whole config.
func TestCheckFirst(t *testing.T) {
	faults := []struct {
		turn func(r *api.Rule)
		want api.Errno
	}{
		{func(r *api.Rule) { r.Preds = append(r.Preds, preds()...) }, api.ErrFull},
		{func(r *api.Rule) { r.Preds = []api.Pred{{}} }, api.ErrArg},
		{func(r *api.Rule) { r.Target = "A" }, api.ErrName},
		{func(r *api.Rule) { r.Mirror = "" }, api.ErrName},
		{func(r *api.Rule) { r.Rank = -1 }, api.ErrRange},
		{func(r *api.Rule) { r.MirrorPct = 1000000 }, api.ErrRange},
		{func(r *api.Rule) { r.Sample = -1 }, api.ErrRange},
	}
	for set := range 1 << len(faults) {
		r, want := good(), api.OK
		// The first one is done last, so that no other one undoes it.
		for i, f := range slices.Backward(faults) {
			if set>>i&1 == 1 {
				f.turn(&r)
				want = f.want
			}
		}
		checkedRule(t, r, want)
		checked(t, api.Config{Rules: []api.Rule{r}, Format: "\n"}, api.ErrText)
		checked(t, api.Config{Rules: append(goods(16), r), Format: "\n"}, api.ErrText)
		checked(t, api.Config{Rules: append([]api.Rule{r}, goods(16)...)}, api.ErrFull)
		for _, f := range faults {
			// A later rule's fault is told only if this one has none.
			told := want
			if want == api.OK {
				told = f.want
			}
			checked(t, api.Config{Rules: []api.Rule{good(), r, turned(f.turn)}}, told)
		}
	}
}

func written(t *testing.T, c api.Config, lines ...string) {
	t.Helper()
	want := strings.Join(lines, "\n") + "\n"
	if s, e := conf.Write(c); s != want || e != api.OK {
		t.Errorf("Write(%+v) = %q, %v; want %q", c, s, e, want)
	}
	held(t, want, c, 0, api.OK)
}

// held holds Read against what it must answer; an empty list is as good as none.
func held(t *testing.T, text string, want api.Config, number int, errno api.Errno) {
	t.Helper()
	c, n, e := conf.Read(text)
	if n != number || e != errno || !same(c, want) {
		t.Fatalf("Read(%q) = %+v, %d, %v; want %+v, %d, %v", text, c, n, e, want, number, errno)
	}
}

func same(c, other api.Config) bool {
	return c.Format == other.Format && slices.EqualFunc(c.Rules, other.Rules, func(a, b api.Rule) bool {
		samePreds := slices.Equal(a.Preds, b.Preds)
		a.Preds, b.Preds = nil, nil
		return samePreds && reflect.DeepEqual(a, b)
	})
}

// P13.1, P13.2: which lines there are, and in which order.
func TestWrite(t *testing.T) {
	rule := func(r api.Rule) api.Config { return api.Config{Rules: []api.Rule{r}} }
	written(t, api.Config{}, "end")
	written(t, api.Config{Format: "%PATH% x "}, "format %PATH% x ", "end")
	written(t, api.Config{Format: " "}, "format  ", "end")
	written(t, api.Config{Format: "end"}, "format end", "end")
	written(t, rule(api.Rule{Rank: 5, Preds: preds()[3:4], Target: "b", Sample: 100}), "rule 5", "prefix /y", "to b", "sample 100", "end")
	written(t, rule(api.Rule{Target: "c"}), "rule 0", "to c", "end")
	written(t, rule(api.Rule{Rank: 999999, Target: "end"}), "rule 999999", "to end", "end")
	written(t, rule(api.Rule{Target: "c", AbortPct: 7}), "rule 0", "to c", "abort 7 0", "end")
	written(t, rule(api.Rule{Target: "c", AbortStatus: 404}), "rule 0", "to c", "abort 0 404", "end")
	written(t, rule(api.Rule{Target: "c", DelayPct: 7}), "rule 0", "to c", "delay 7 0", "end")
	written(t, rule(api.Rule{Target: "c", DelayTicks: 3}), "rule 0", "to c", "delay 0 3", "end")
	written(t, rule(api.Rule{Target: "c", Mirror: "m"}), "rule 0", "to c", "mirror 0 m", "end")
	written(t, rule(api.Rule{Target: "c", Mirror: "m", MirrorPct: 7}), "rule 0", "to c", "mirror 7 m", "end")
	written(t, rule(api.Rule{Target: "c", Sample: 1}), "rule 0", "to c", "sample 1", "end")
	written(t, rule(api.Rule{Preds: preds()[:4], Target: "c"}), "rule 0", "method GET", "host h", "exact /x", "prefix /y", "to c", "end")
	written(t, rule(api.Rule{Preds: []api.Pred{preds()[5], preds()[4], {Kind: api.PredHead, Name: "e"}, preds()[4]}, Target: "c"}), "rule 0", "has n", "head n v w", "head e ", "head n v w", "to c", "end")
	written(t, api.Config{Format: "f", Rules: []api.Rule{good(), {Rank: 7, Target: "d"}, good()}}, "format f",
		"rule 5", "exact /x", "prefix /y", "head n v w", "has n", "to a", "abort 10 503", "delay 20 5", "mirror 30 b", "sample 40",
		"rule 7", "to d",
		"rule 5", "exact /x", "prefix /y", "head n v w", "has n", "to a", "abort 10 503", "delay 20 5", "mirror 30 b", "sample 40", "end")
}

// P13.3: what was written is read as it was, of many configs.
func TestReadOfWrite(t *testing.T) {
	numbers := []int{0, 1, 10, 999999}
	at := func(i, place int) int { return numbers[i>>(2*place)%len(numbers)] }
	for i := range 1 << 14 {
		r := api.Rule{Rank: at(i, 0), Target: "t", AbortPct: at(i, 1), AbortStatus: at(i, 2), DelayPct: at(i, 3), DelayTicks: at(i, 4), Mirror: "m", MirrorPct: at(i, 5), Sample: at(i, 6)}
		if i%3 == 0 {
			r.Mirror, r.MirrorPct = "", 0
		}
		r.Preds = preds()[i%6 : min(i%6+i%5, 6)]
		c := api.Config{Rules: []api.Rule{r, good(), r}, Format: strings.Repeat(" %", i%61)}
		s, e := conf.Write(c)
		if e != api.OK {
			t.Fatalf("Write(%+v): %v", c, e)
		}
		held(t, s, c, 0, api.OK)
	}
	for b := 32; b <= 126; b++ {
		c := api.Config{Format: string([]byte{byte(b), 32, byte(b)})}
		s, _ := conf.Write(c)
		held(t, s, c, 0, api.OK)
	}
}

// sized is a config whose text has so many bytes.
func sized(t *testing.T, size int) (api.Config, string) {
	t.Helper()
	var c api.Config
	for range 16 {
		c.Rules = append(c.Rules, api.Rule{Target: "a"})
	}
	for i := 0; ; i++ {
		s, e := conf.Write(c)
		lacks := size - len(s)
		if e != api.OK || lacks == 0 {
			return c, s
		}
		// A header's line has 8 bytes beside its value; what is left to the end must have room for one.
		value := strings.Repeat("v", min(64, lacks-8))
		if rest := lacks - 8 - len(value); rest > 0 && rest < 8 {
			value = value[8:]
		}
		r := &c.Rules[i/4]
		r.Preds = append(r.Preds, api.Pred{Kind: api.PredHead, Name: "k", Value: value})
	}
}

// P13.2: 4096 bytes may be, more may not, whatever they are.
func TestReadLong(t *testing.T) {
	for _, size := range []int{4000, 4095, 4096} {
		c, s := sized(t, size)
		if len(s) != size {
			t.Fatalf("a text of %d bytes; want %d", len(s), size)
		}
		held(t, s, c, 0, api.OK)
	}
	for _, size := range []int{4097, 4098, 4200} {
		if _, s := sized(t, size); len(s) != size {
			t.Fatalf("a text of %d bytes; want %d", len(s), size)
		} else {
			held(t, s, api.Config{}, 0, api.ErrLong)
		}
	}
	for size := range 300 {
		size += 3950
		for _, begin := range []string{"", "end\n", "rule 1\nto \nend\n"} {
			s := begin + strings.Repeat("\n", size-len(begin))
			number := 1 + strings.Count(begin, "\n")
			if size > 4096 {
				held(t, s, api.Config{}, 0, api.ErrLong)
			} else {
				held(t, s, api.Config{}, number, api.ErrForm)
			}
		}
	}
	held(t, strings.Repeat("end\n", 1<<20), api.Config{}, 0, api.ErrLong)
}

// P13.2: Check's error and 0 of what was read, behind all faults of lines.
func TestReadCheck(t *testing.T) {
	to := "to a\nend\n"
	for text, want := range map[string]api.Errno{
		"format \t\nend\n": api.ErrText,
		"format " + strings.Repeat("f", 120) + "\nend\n":     api.OK,
		"format " + strings.Repeat("f", 121) + "\nend\n":     api.ErrText,
		"format \xff\nrule 1\n" + to:                         api.ErrText,
		strings.Repeat("rule 1\nto a\n", 16) + "end\n":       api.OK,
		strings.Repeat("rule 1\nto a\n", 17) + "end\n":       api.ErrFull,
		strings.Repeat("rule 1\nto A\n", 17) + "end\n":       api.ErrFull,
		"rule 1\n" + strings.Repeat("has k\n", 4) + to:       api.OK,
		"rule 1\n" + strings.Repeat("has k\n", 5) + to:       api.ErrFull,
		"rule 1\n" + strings.Repeat("has K\n", 5) + to:       api.ErrFull,
		"rule 1\nmethod get\n" + to:                          api.ErrForm,
		"rule 1\nmethod \n" + to:                             api.ErrForm,
		"rule 1\nhost A\n" + to:                              api.ErrName,
		"rule 1\nhost \n" + to:                               api.ErrName,
		"rule 1\nexact x\n" + to:                             api.ErrRange,
		"rule 1\nprefix \n" + to:                             api.ErrRange,
		"rule 1\nhead K v\n" + to:                            api.ErrName,
		"rule 1\nhead  v\n" + to:                             api.ErrName,
		"rule 1\nhead k v \n" + to:                           api.ErrText,
		"rule 1\nhead k  v\n" + to:                           api.ErrText,
		"rule 1\nhead k  \n" + to:                            api.ErrText,
		"rule 1\nhead k v\tw\n" + to:                         api.ErrText,
		"rule 1\nhas K\n" + to:                               api.ErrName,
		"rule 1\nhas \n" + to:                                api.ErrName,
		"rule 1\nto \nend\n":                                 api.ErrName,
		"rule 1\nto A\nend\n":                                api.ErrName,
		"rule 1\nto a\nmirror 0 B\nend\n":                    api.ErrName,
		"rule 1\nto a\nmirror 1 \nend\n":                     api.ErrName,
		"rule 1\nto A\nrule 1\nhas K\n" + to:                 api.ErrName,
		"rule 999999\nto a\nsample 999999\nend\n":            api.OK,
		"rule 1\nto a\nabort 999999 999999\nend\n":           api.OK,
		"rule 1\nto a\ndelay 999999 999999\nend\n":           api.OK,
		"rule 1\nto a\nmirror 999999 m\nend\n":               api.OK,
		"rule 1\nexact x\nmethod get\nhead K  \n" + to:       api.ErrRange,
		"format \t\nrule 1\nmethod get\nto A\nrule 1\n" + to: api.ErrText,
	} {
		if c, n, e := conf.Read(text); n != 0 || e != want || e != api.OK && !same(c, api.Config{}) {
			t.Errorf("Read(%q) = %+v, %d, %v; want 0, %v", text, c, n, e, want)
		}
		// A fault of a line is told ahead of Check's errors, even at the end.
		held(t, strings.TrimSuffix(text, "\n"), api.Config{}, strings.Count(text, "\n"), api.ErrForm)
		held(t, text+"x", api.Config{}, strings.Count(text, "\n")+1, api.ErrForm)
	}
}

// P13.2: what is a number: just what is written of it, up to six digits.
func TestReadNumbers(t *testing.T) {
	for _, word := range []string{"0", "1", "9", "10", "100", "99999", "100000", "999999"} {
		n, _ := strconv.Atoi(word)
		held(t, "rule "+word+"\nto a\nend\n", api.Config{Rules: []api.Rule{{Rank: n, Target: "a"}}}, 0, api.OK)
		held(t, "rule 0\nto a\nabort "+word+" 7\nend\n", api.Config{Rules: []api.Rule{{Target: "a", AbortPct: n, AbortStatus: 7}}}, 0, api.OK)
		held(t, "rule 0\nto a\nabort 7 "+word+"\nend\n", api.Config{Rules: []api.Rule{{Target: "a", AbortPct: 7, AbortStatus: n}}}, 0, api.OK)
		held(t, "rule 0\nto a\ndelay "+word+" 7\nend\n", api.Config{Rules: []api.Rule{{Target: "a", DelayPct: n, DelayTicks: 7}}}, 0, api.OK)
		held(t, "rule 0\nto a\ndelay 7 "+word+"\nend\n", api.Config{Rules: []api.Rule{{Target: "a", DelayPct: 7, DelayTicks: n}}}, 0, api.OK)
		held(t, "rule 0\nto a\nmirror "+word+" m\nend\n", api.Config{Rules: []api.Rule{{Target: "a", MirrorPct: n, Mirror: "m"}}}, 0, api.OK)
		held(t, "rule 0\nto a\nsample "+word+"\nend\n", api.Config{Rules: []api.Rule{{Target: "a", Sample: n}}}, 0, api.OK)
	}
	for _, word := range []string{
		"", "00", "01", "000000", "0999999", "1000000", "9999999", "12345678901234567890", "18446744073709551617", strings.Repeat("1", 1000),
		"-1", "-0", "+1", "1.0", "1e3", "0x1", "1_0", "a", "1a", "\t1", "1\r", "\x00", "１", "\xff",
	} {
		for _, ahead := range []string{"rule ", "abort 7 ", "delay 7 ", "sample "} {
			heldNumber(t, ahead+word)
		}
		for _, behind := range []string{" 7", " m"} {
			heldNumber(t, "abort "+word+behind)
			heldNumber(t, "delay "+word+behind)
			heldNumber(t, "mirror "+word+behind)
		}
	}
}

// heldNumber holds that a line can't stand in a rule.
func heldNumber(t *testing.T, line string) {
	t.Helper()
	held(t, "rule 0\nto a\n"+line+"\nto a\nend\n", api.Config{}, 3, api.ErrForm)
}

// P13.1, P13.2 under the rules 4 and 5: what is handed in stays as it is; answers share nothing.
func TestApart(t *testing.T) {
	l := goods(3)
	c := api.Config{Rules: l[:2], Format: "f"}
	conf.Check(c)
	s, _ := conf.Write(c)
	if !same(api.Config{Rules: l}, api.Config{Rules: goods(3)}) {
		t.Errorf("what was handed in is %+v", l)
	}
	one, _, _ := conf.Read(s)
	other, _, _ := conf.Read(s)
	_ = append(one.Rules, api.Rule{Target: "x"})
	for i := range one.Rules {
		_ = append(one.Rules[i].Preds, api.Pred{Name: "x"})
		clear(one.Rules[i].Preds)
		if i == 0 && one.Rules[1].Preds[0] != good().Preds[0] {
			t.Errorf("the rules of one answer share predicates")
		}
	}
	clear(one.Rules)
	held(t, s, c, 0, api.OK)
	if !same(other, c) {
		t.Errorf("an answer shares memory: %+v", other)
	}
}
