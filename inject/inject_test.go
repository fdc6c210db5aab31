package inject_test

import (
	"math"
	"slices"
	"strconv"
	"strings"
	"testing"

	"periscope/api"
	"periscope/head"
	"periscope/inject"
)

const (
	own      = "mesh=0000000000000003"
	ownText  = "00-00000000000000010000000000000002-0000000000000003-01"
	goodText = "00-0123456789abcdeffedcba9876543210-00f067aa0ba902b7-01"
)

var plain = api.Parent{Trace: api.Trace{Hi: 1, Lo: 2}, Span: 3, Flags: 1}

// list has a header for each text: its name, a colon, its value.
func list(texts ...string) []api.Head {
	var l []api.Head
	for _, s := range texts {
		name, value, _ := strings.Cut(s, ":")
		l = append(l, api.Head{Name: name, Value: value})
	}
	return l
}

// all has all lists of up to so many headers of these kinds; each header has a value of its own.
func all(most int, names ...string) [][]api.Head {
	out := [][]api.Head{nil}
	for from := 0; len(out[from]) < most; from++ {
		for _, name := range names {
			h := api.Head{Name: name, Value: "v=" + strconv.Itoa(len(out[from]))}
			out = append(out, append(slices.Clone(out[from]), h))
		}
	}
	return out
}

// others is l without a trace's headers.
func others(l []api.Head) []api.Head {
	return slices.DeleteFunc(slices.Clone(l), func(h api.Head) bool {
		return h.Name == "traceparent" || h.Name == "tracestate"
	})
}

// many has so many members that may be, of four bytes at most.
func many(n int) string {
	var texts []string
	for i := range n {
		texts = append(texts, string([]byte{byte('a' + i%26), byte('0' + i/26)})+"="+strconv.Itoa(i%10))
	}
	return strings.Join(texts, ",")
}

// P23.1: headers of the two names are gone, wherever they stand, and no others.
func TestStrip(t *testing.T) {
	for _, x := range []struct{ l, want []api.Head }{
		{nil, nil},
		{[]api.Head{}, nil},
		{list("a:1"), list("a:1")},
		{list("traceparent:x"), nil},
		{list("tracestate:x"), nil},
		{list("traceparent:"+goodText, "tracestate:a=1"), nil},
		{list("a:1", "traceparent:", "b:2", "tracestate:", "c:3", "traceparent:"), list("a:1", "b:2", "c:3")},
		{list("Traceparent:1", "TRACESTATE:2", "trace:3", "traceparents:4", " tracestate:5", "tracestate :6", ":7"), list("Traceparent:1", "TRACESTATE:2", "trace:3", "traceparents:4", " tracestate:5", "tracestate :6", ":7")},
		{list("x:traceparent", "y:tracestate", "x:traceparent"), list("x:traceparent", "y:tracestate", "x:traceparent")},
		{slices.Repeat(list("a:1", "tracestate:"), 100), slices.Repeat(list("a:1"), 100)},
	} {
		if got := inject.Strip(x.l); !slices.Equal(got, x.want) {
			t.Errorf("Strip(%q) = %q; want %q", x.l, got, x.want)
		}
	}
	for _, l := range all(5, "a", "traceparent", "tracestate", "") {
		if got := inject.Strip(l); !slices.Equal(got, others(l)) {
			t.Errorf("Strip(%q) = %q", l, got)
		}
	}
}

// P23.1: what the first traceparent says, whatever stands behind it.
func TestFrom(t *testing.T) {
	good := api.Parent{Trace: api.Trace{Hi: 0x0123456789abcdef, Lo: 0xfedcba9876543210}, Span: 0x00f067aa0ba902b7, Flags: 1}
	for _, x := range []struct {
		l    []api.Head
		want api.Parent
		e    api.Errno
	}{
		{nil, api.Parent{}, api.ErrNone},
		{[]api.Head{}, api.Parent{}, api.ErrNone},
		{list("tracestate:a=1", "a:"+goodText), api.Parent{}, api.ErrNone},
		{list("Traceparent:"+goodText, "trace-parent:"+goodText, "traceparent :"+goodText, ":"+goodText), api.Parent{}, api.ErrNone},
		{list("traceparent:" + goodText), good, api.OK},
		{list("a:1", "tracestate:", "traceparent:"+goodText), good, api.OK},
		{list("traceparent:"+goodText, "traceparent:"+ownText), good, api.OK},
		{list("traceparent:"+goodText, "traceparent:x"), good, api.OK},
		{list("traceparent:"+ownText, "traceparent:"+goodText), plain, api.OK},
		{list("traceparent:x", "traceparent:"+goodText), api.Parent{}, api.ErrForm},
		{list("traceparent:", "traceparent:"+goodText), api.Parent{}, api.ErrForm},
		{list("traceparent:"), api.Parent{}, api.ErrForm},
		{list("traceparent: " + goodText), api.Parent{}, api.ErrForm},
		{list("traceparent:" + goodText + "-"), api.Parent{}, api.ErrForm},
		{list("traceparent:ff" + goodText[2:]), api.Parent{}, api.ErrForm},
		{list("traceparent:cc" + goodText[2:] + "-what"), good, api.OK},
		{list("traceparent:00-00000000000000000000000000000000-00f067aa0ba902b7-01"), api.Parent{}, api.ErrZero},
		{list("traceparent:00-0123456789abcdeffedcba9876543210-0000000000000000-01", "traceparent:"+goodText), api.Parent{}, api.ErrZero},
		{list("traceparent:" + goodText[:53] + "fe"), api.Parent{Trace: good.Trace, Span: good.Span, Flags: 254}, api.OK},
	} {
		if p, e := inject.From(x.l); p != x.want || e != x.e {
			t.Errorf("From(%q) = %x, %v; want %x, %v", x.l, p, e, x.want, x.e)
		}
	}
}

// P23.2: a parent that can't be written; a number that is 0 is told ahead of flags, and no list is answered.
func TestIntoErrors(t *testing.T) {
	for _, x := range []struct {
		p api.Parent
		e api.Errno
	}{
		{api.Parent{}, api.ErrZero},
		{api.Parent{Span: 3, Flags: 1}, api.ErrZero},
		{api.Parent{Trace: api.Trace{Hi: 1, Lo: 2}, Flags: 1}, api.ErrZero},
		{api.Parent{Trace: api.Trace{Hi: 1, Lo: 2}, Flags: 256}, api.ErrZero},
		{api.Parent{Span: 3, Flags: -1}, api.ErrZero},
		{api.Parent{Trace: api.Trace{Hi: 1}, Span: 3, Flags: 256}, api.ErrRange},
		{api.Parent{Trace: api.Trace{Lo: 1}, Span: 3, Flags: -1}, api.ErrRange},
		{api.Parent{Trace: api.Trace{Lo: 1}, Span: 3, Flags: math.MaxInt}, api.ErrRange},
		{api.Parent{Trace: api.Trace{Lo: 1}, Span: 3, Flags: math.MinInt}, api.ErrRange},
	} {
		for _, l := range [][]api.Head{nil, list("a:1"), list("traceparent:"+goodText, "tracestate:a=1"), list("tracestate:=")} {
			if got, e := inject.Into(l, x.p); len(got) != 0 || e != x.e {
				t.Errorf("Into(%q, %x) = %q, %v; want %v", l, x.p, got, e, x.e)
			}
		}
	}
}

// P23.2: the two headers stand in the place of the first ones of their names, or behind all others, traceparent ahead.
func TestInto(t *testing.T) {
	const tp, ts = "traceparent:" + ownText, "tracestate:" + own
	for _, x := range []struct{ l, want []api.Head }{
		{nil, list(tp, ts)},
		{[]api.Head{}, list(tp, ts)},
		{list("a:1", "b:2", "a:3"), list("a:1", "b:2", "a:3", tp, ts)},
		{list("traceparent:x", "a:1"), list(tp, "a:1", ts)},
		{list("tracestate:", "a:1"), list(ts, "a:1", tp)},
		{list("a:1", "tracestate:", "b:2", "traceparent:", "c:3"), list("a:1", ts, "b:2", tp, "c:3")},
		{list("traceparent:" + goodText), list(tp, ts)},
		{list("traceparent:x", "a:1", "traceparent:"+goodText, "tracestate:", "tracestate:c=1", "b:2"), list(tp, "a:1", ts, "b:2")},
		{list("Traceparent:x", "Tracestate:a=1", "mesh:x", ": "), list("Traceparent:x", "Tracestate:a=1", "mesh:x", ": ", tp, ts)},
		{list("tracestate:b=2", "traceparent:"+ownText), list(ts+",b=2", tp)},
		{list("a:traceparent", "b:tracestate"), list("a:traceparent", "b:tracestate", tp, ts)},
	} {
		if got, e := inject.Into(x.l, plain); !slices.Equal(got, x.want) || e != api.OK {
			t.Errorf("Into(%q) = %q, %v; want %q", x.l, got, e, x.want)
		}
	}
	full := slices.Repeat(list("a:1"), api.MaxHeads)
	if got, e := inject.Into(full, plain); !slices.Equal(got, append(slices.Clone(full), list(tp, ts)...)) || e != api.OK {
		t.Errorf("Into of a full list = %q, %v", got, e)
	}
}

// state is the tracestate that Into makes of headers with these.
func state(t *testing.T, p api.Parent, states ...string) string {
	t.Helper()
	l := list("a:1")
	for _, s := range states {
		l = append(l, api.Head{Name: "tracestate", Value: s})
	}
	got, e := inject.Into(l, p)
	values := head.All(got, "tracestate")
	if e != api.OK || len(values) != 1 {
		t.Fatalf("Into with %q = %q, %v", states, got, e)
	}
	return values[0]
}

// P23.2: the members that the first tracestate has, behind that of the mesh; none, if it has an error.
func TestState(t *testing.T) {
	for _, x := range []struct {
		states []string
		want   string
	}{
		{nil, own},
		{[]string{""}, own},
		{[]string{" ,\t,"}, own},
		{[]string{"a=1"}, own + ",a=1"},
		{[]string{" b=2 ,,\ta=1\t"}, own + ",b=2,a=1"},
		{[]string{"a= x y"}, own + ",a= x y"},
		{[]string{"mesh=old"}, own},
		{[]string{"mesh=old,a=1"}, own + ",a=1"},
		{[]string{"a=1,mesh=0000000000000009,b=2"}, own + ",a=1,b=2"},
		{[]string{"a=mesh,b=2,mesh=3"}, own + ",a=mesh,b=2"},
		{[]string{own}, own},
		{[]string{"mesh2=1,mes=2"}, own + ",mesh2=1,mes=2"},
		{[]string{"a=1", "b=2"}, own + ",a=1"},
		{[]string{"a=1", "="}, own + ",a=1"},
		{[]string{"", "b=2"}, own},
		{[]string{"=", "b=2"}, own},
		{[]string{"a"}, own},
		{[]string{"a=1,b"}, own},
		{[]string{"b,a=1"}, own},
		{[]string{"a=1,a=2"}, own},
		{[]string{"mesh=1,mesh=2,a=1"}, own},
		{[]string{"a=1,A=2"}, own},
		{[]string{"a=1,b=\n"}, own},
		{[]string{"Mesh=1"}, own},
		{[]string{"\xff"}, own},
	} {
		if s := state(t, plain, x.states...); s != x.want {
			t.Errorf("tracestate of %q = %q; want %q", x.states, s, x.want)
		}
	}
}

// P23.2: the span is told by sixteen digits.
func TestStateSpan(t *testing.T) {
	for span, want := range map[uint64]string{1: "0000000000000001", 0xabcdef: "0000000000abcdef", 1 << 63: "8000000000000000", math.MaxUint64: "ffffffffffffffff"} {
		p := api.Parent{Trace: api.Trace{Lo: 7}, Span: span}
		if s := state(t, p, "a=1,mesh=2"); s != "mesh="+want+",a=1" {
			t.Errorf("tracestate of span %x = %q", span, s)
		}
	}
}

// P23.2: at most 64 bytes; what has no room is left out, with all that stands behind it.
func TestStateRoom(t *testing.T) {
	x := strings.Repeat("x", 64)
	for _, c := range []struct{ state, want string }{
		{"a=" + x[:39], own + ",a=" + x[:39]},
		{"a=" + x[:40], own + ",a=" + x[:40]},
		{"a=" + x[:41], own},
		{"a=" + x, own},
		{"a=" + x + ",b=1", own},
		{"b=1,a=" + x, own + ",b=1"},
		{"b=1,a=" + x + ",c=1", own + ",b=1"},
		{"b=1,a=" + x[:36], own + ",b=1,a=" + x[:36]},
		{"b=1,a=" + x[:37], own + ",b=1"},
		{"b=1,a=" + x[:36] + ",c=1", own + ",b=1,a=" + x[:36]},
		{"b=1,a=" + x[:32] + ",c=1", own + ",b=1,a=" + x[:32] + ",c=1"},
		{"b=1,a=" + x[:33] + ",c=1", own + ",b=1,a=" + x[:33]},
		{"mesh=" + x + ",a=" + x[:40], own + ",a=" + x[:40]},
		{"a=" + x[:40] + ",mesh=" + x, own + ",a=" + x[:40]},
		{"a=" + x[:41] + ",mesh=" + x, own},
		{" a=" + x[:40] + " ,\t", own + ",a=" + x[:40]},
		{strings.Repeat("k", 32) + "=" + x[:9], own + "," + strings.Repeat("k", 32) + "=" + x[:9]},
		{strings.Repeat("k", 32) + "=" + x[:10], own},
		{strings.Repeat("k", 33) + "=1,a=1", own},
		{"a=1,b=" + x + "x", own},
	} {
		if s := state(t, plain, c.state); s != c.want {
			t.Errorf("tracestate of %q = %q; want %q", c.state, s, c.want)
		}
	}
}

// P23.2: of all numbers of members; a text of 33 has an error, so that none is read.
func TestStateMany(t *testing.T) {
	for n := range 40 {
		want := own
		if n <= 32 {
			for _, m := range strings.Split(many(n), ",") {
				if m != "" && len(want)+1+len(m) <= 64 {
					want += "," + m
				}
			}
		}
		if s := state(t, plain, many(n)); s != want {
			t.Errorf("tracestate of %d = %q; want %q", n, s, want)
		}
		if n <= 31 {
			if s := state(t, plain, many(n)+",mesh=x"); s != want {
				t.Errorf("tracestate of %d and mesh = %q; want %q", n, s, want)
			}
		}
	}
	if s := state(t, plain, strings.Repeat(" ,\t", 10000)+"a=1"); s != own+",a=1" {
		t.Errorf("tracestate of a long text = %q", s)
	}
	if s := state(t, plain, strings.Repeat("a", 1<<20)); s != own {
		t.Errorf("tracestate of a long key = %q", s)
	}
}

// P23.2: of two members of all lengths, those stay that have room, from the first one on.
func TestStateLengths(t *testing.T) {
	for a := 1; a <= 64; a++ {
		for b := 1; b <= 64; b++ {
			first, second := ",a="+strings.Repeat("x", a), ",b="+strings.Repeat("y", b)
			want := own
			if len(own+first) <= 64 {
				want += first
				if len(want+second) <= 64 {
					want += second
				}
			}
			if s := state(t, plain, first+second); s != want {
				t.Fatalf("tracestate of %q = %q; want %q", first+second, s, want)
			}
		}
	}
}

// parents has some that can be written.
func parents() []api.Parent {
	var l []api.Parent
	for _, n := range []uint64{1, 2, 0x0123456789abcdef, 1 << 63, math.MaxUint64} {
		for _, flags := range []int{0, 1, 2, 128, 254, 255} {
			for _, trace := range []api.Trace{{Hi: n}, {Lo: n}, {Hi: n, Lo: n ^ 5}} {
				l = append(l, api.Parent{Trace: trace, Span: n, Flags: flags})
			}
		}
	}
	return l
}

// P23.3: From of Into is p, and the values may be.
func TestFromOfInto(t *testing.T) {
	for _, l := range [][]api.Head{
		nil, list("a:1"), list("traceparent:x", "traceparent:"+goodText), list("traceparent:"+goodText, "tracestate:a=1,b= 2"),
		list("tracestate:" + many(32)), list("tracestate:a=\n"), list("tracestate:a=" + strings.Repeat("z", 50)),
	} {
		for _, p := range parents() {
			got, e := inject.Into(l, p)
			if e != api.OK {
				t.Fatalf("Into(%q, %x): %v", l, p, e)
			}
			if back, e := inject.From(got); back != p || e != api.OK {
				t.Fatalf("From(%q) = %x, %v; want %x", got, back, e, p)
			}
			for _, name := range []string{"traceparent", "tracestate"} {
				values := head.All(got, name)
				if len(values) != 1 || values[0] == "" || !head.Value(values[0]) || !head.Name(name) {
					t.Fatalf("Into(%q, %x) = %q", l, p, got)
				}
			}
			again, e := inject.Into(got, p)
			if e != api.OK || !slices.Equal(again, got) {
				t.Fatalf("Into(%q, %x) again = %q, %v", got, p, again, e)
			}
		}
	}
}

// P23.3: Strip of Into is Strip; all other headers stand as they stood, the two in the places of the first ones.
func TestOthers(t *testing.T) {
	names := []string{"a", "traceparent", "tracestate", ""}
	for _, l := range all(6, names...) {
		got, e := inject.Into(l, plain)
		if e != api.OK || !slices.Equal(inject.Strip(got), inject.Strip(l)) || !slices.Equal(others(got), others(l)) {
			t.Fatalf("Into(%q) = %q, %v", l, got, e)
		}
		var want []string
		for _, name := range append(namesOf(l), "traceparent", "tracestate") {
			if name == "a" || name == "" || !slices.Contains(want, name) {
				want = append(want, name)
			}
		}
		if !slices.Equal(namesOf(got), want) {
			t.Fatalf("Into(%q) = %q; want the names %q", l, got, want)
		}
	}
}

func namesOf(l []api.Head) []string {
	var out []string
	for _, h := range l {
		out = append(out, h.Name)
	}
	return out
}

// P23.1, P23.2 under the rules 4 and 5: lists that are handed in stay as they are, also behind their ends, and answers share nothing.
func TestApart(t *testing.T) {
	into := func(l []api.Head) []api.Head {
		got, _ := inject.Into(l, plain)
		return got
	}
	for _, texts := range [][]string{
		{"a:1", "b:2"}, {"traceparent:x", "tracestate:a=1"}, {"a:1", "traceparent:x"}, {"tracestate:x", "a:1"}, {"tracestate:a=1", "traceparent:x"},
	} {
		for name, call := range map[string]func(l []api.Head) []api.Head{"Strip": inject.Strip, "Into": into} {
			whole := append(list(texts...), list("x:5", "y:6", "z:7")...)
			before := slices.Clone(whole)
			l := whole[:len(texts)]
			one, other := call(l), call(l)
			want := slices.Clone(other)
			for i := range one {
				one[i] = api.Head{Name: "w", Value: "w"}
			}
			_ = append(one, list("w:w", "w:w")...)
			if !slices.Equal(whole, before) {
				t.Errorf("%s of %q: what was handed in is %q", name, texts, whole)
			}
			if !slices.Equal(other, want) || !slices.Equal(call(l), want) {
				t.Errorf("%s of %q: answers share memory: %q", name, texts, other)
			}
			clear(whole)
			if !slices.Equal(other, want) {
				t.Errorf("%s of %q: an answer hangs on what was handed in: %q", name, texts, other)
			}
		}
	}
	l := list("a:1", "traceparent:"+goodText, "tracestate:a=1")
	before := slices.Clone(l)
	if _, e := inject.From(l); e != api.OK || !slices.Equal(l, before) {
		t.Errorf("From changed its list: %q, %v", l, e)
	}
	if _, e := inject.Into(l, api.Parent{}); e != api.ErrZero || !slices.Equal(l, before) {
		t.Errorf("Into changed its list: %q, %v", l, e)
	}
}
