package line_test

import (
	"fmt"
	"math"
	"slices"
	"strconv"
	"strings"
	"testing"

	"periscope/api"
	"periscope/line"
)

func text(s string) api.Part {
	return api.Part{Kind: api.PartText, Text: s}
}

func named(name string) api.Part {
	return api.Part{Kind: api.PartHead, Text: name}
}

// record has another text or number in each of its places.
func record() api.Record {
	return api.Record{
		Request: api.Request{Method: "GET", Host: "h", Path: "/p", Heads: heads(), Body: "body"},
		Target:  "t", Status: 200, Version: 7, Trace: "00ff", Start: 3, End: 12,
	}
}

func heads() []api.Head {
	return []api.Head{{Name: "k", Value: "v"}, {Name: "k", Value: "w"}, {Name: "e"}, {Name: "e", Value: "late"}, {Name: "q", Value: "a\"b"}, {Name: "x-1", Value: "-"}}
}

func escaped(t *testing.T, s, want string) {
	t.Helper()
	if got := line.Escape(s); got != want {
		t.Errorf("Escape(%q) = %q; want %q", s, got, want)
	}
}

func valued(t *testing.T, p api.Part, r api.Record, want string) {
	t.Helper()
	if got := line.Value(p, r); got != want {
		t.Errorf("Value(%+v) of %+v = %q; want %q", p, r, got, want)
	}
}

func rendered(t *testing.T, want string, r api.Record, l ...api.Part) {
	t.Helper()
	before := slices.Clone(l)
	if got := line.Render(l, r); got != want {
		t.Errorf("Render(%+v) = %q; want %q", l, got, want)
	}
	if !slices.Equal(l, before) {
		t.Errorf("Render made %v of %v", l, before)
	}
}

// as has the escape of one byte, worked out by another package.
func as(b byte) string {
	switch {
	case b == '"':
		return `\"`
	case b == '\\':
		return `\\`
	case b < 32 || b > 126:
		return fmt.Sprintf(`\x%02x`, b)
	}
	return string([]byte{b})
}

// P20.1: the example, and texts of several bytes.
func TestEscape(t *testing.T) {
	escaped(t, `a"b`, `a\"b`)
	escaped(t, "abc", "abc")
	escaped(t, `""`, `\"\"`)
	escaped(t, `\\`, `\\\\`)
	escaped(t, `\"`, `\\\"`)
	escaped(t, `\x0a`, `\\x0a`)
	escaped(t, "a b~", "a b~")
	escaped(t, " ", " ")
	escaped(t, "\x00\x1f\x7f\x80\xff", `\x00\x1f\x7f\x80\xff`)
	escaped(t, "a\r\n\tb", `a\x0d\x0a\x09b`)
	escaped(t, "é", `\xc3\xa9`)
	escaped(t, "\xc3", `\xc3`)
	escaped(t, "%PATH%", "%PATH%")
}

// P20.1: a text without bytes, and the text that it is escaped as.
func TestEscapeNone(t *testing.T) {
	escaped(t, "", "-")
	escaped(t, "-", "-")
	escaped(t, "--", "--")
	escaped(t, "\x00", `\x00`)
}

// P20.1 and P20.4: each byte alone, and all texts of two bytes; what is escaped has bytes from 32 to 126 alone.
func TestEscapeBytes(t *testing.T) {
	for a := range 256 {
		escaped(t, string([]byte{byte(a)}), as(byte(a)))
		for b := range 256 {
			s := string([]byte{byte(a), byte(b)})
			escaped(t, s, as(byte(a))+as(byte(b)))
			for _, c := range []byte(line.Escape(s)) {
				if c < 32 || c > 126 {
					t.Fatalf("Escape(%q) has the byte %d", s, c)
				}
			}
		}
	}
}

// P20.4: no two texts are escaped alike, but for - and the one without bytes.
func TestEscapeUnlike(t *testing.T) {
	from := map[string]string{}
	texts := []string{""}
	for first := 0; len(texts) < 20000; {
		last := len(texts)
		for _, s := range texts[first:last] {
			for _, c := range "\"\\x0a-\n\x7f" {
				texts = append(texts, s+string(c))
			}
		}
		first = last
	}
	for _, s := range texts[1:] {
		got := line.Escape(s)
		if other, twice := from[got]; twice {
			t.Fatalf("Escape of %q and of %q = %q", other, s, got)
		}
		from[got] = s
	}
	if from["-"] != "-" {
		t.Errorf("what is escaped as - is %q", from["-"])
	}
}

// P20.1: texts of many bytes.
func TestEscapeLong(t *testing.T) {
	for _, size := range []int{119, 120, 121, 1000, 1 << 20} {
		escaped(t, strings.Repeat("a", size), strings.Repeat("a", size))
		escaped(t, strings.Repeat("\n", size), strings.Repeat(`\x0a`, size))
	}
}

// P20.2: each kind's own place of a record.
func TestValue(t *testing.T) {
	r := record()
	valued(t, text("x"), r, "x")
	valued(t, api.Part{Kind: api.PartMethod}, r, "GET")
	valued(t, api.Part{Kind: api.PartHost}, r, "h")
	valued(t, api.Part{Kind: api.PartPath}, r, "/p")
	valued(t, api.Part{Kind: api.PartTarget}, r, "t")
	valued(t, api.Part{Kind: api.PartStatus}, r, "200")
	valued(t, api.Part{Kind: api.PartVersion}, r, "7")
	valued(t, api.Part{Kind: api.PartTrace}, r, "00ff")
	valued(t, api.Part{Kind: api.PartTook}, r, "9")
	valued(t, named("k"), r, "v")
}

// P20.2: a record that has nothing.
func TestValueOfNothing(t *testing.T) {
	for kind, want := range []string{"", "-", "-", "-", "-", "0", "0", "-", "0", "-"} {
		valued(t, api.Part{Kind: kind}, api.Record{}, want)
	}
}

// P20.2: a text stands as it is, whatever bytes it has.
func TestValueText(t *testing.T) {
	for _, s := range []string{"", "-", "\"\\", "\n\x00\xff", "%PATH%", "%%", strings.Repeat("a", 1000)} {
		valued(t, text(s), record(), s)
	}
}

// P20.2: texts of a request and of a record are escaped.
func TestValueEscaped(t *testing.T) {
	for _, s := range []string{"", "-", "a", "a b", "\"\\", "\n\x00\xff", "é", strings.Repeat("\n", 500)} {
		want := line.Escape(s)
		valued(t, api.Part{Kind: api.PartMethod}, api.Record{Request: api.Request{Method: s}}, want)
		valued(t, api.Part{Kind: api.PartHost}, api.Record{Request: api.Request{Host: s}}, want)
		valued(t, api.Part{Kind: api.PartPath}, api.Record{Request: api.Request{Path: s}}, want)
		valued(t, api.Part{Kind: api.PartTarget}, api.Record{Target: s}, want)
		valued(t, api.Part{Kind: api.PartTrace}, api.Record{Trace: s}, want)
		valued(t, named("k"), api.Record{Request: api.Request{Heads: []api.Head{{Name: "k", Value: s}}}}, want)
	}
}

// P20.2: what is no text has none of a part's own text in it.
func TestValueIgnoresText(t *testing.T) {
	for kind := api.PartMethod; kind <= api.PartTook; kind++ {
		valued(t, api.Part{Kind: kind, Text: "k"}, record(), line.Value(api.Part{Kind: kind}, record()))
	}
}

// P20.2: numbers on both sides of 0, to their ends.
func TestValueNumbers(t *testing.T) {
	for _, n := range []int{0, 1, -1, 9, 10, -10, 200, 503, 1 << 40, -1 << 40, math.MaxInt, math.MinInt} {
		r := record()
		r.Status = n
		valued(t, api.Part{Kind: api.PartStatus}, r, strconv.Itoa(n))
		valued(t, api.Part{Kind: api.PartVersion}, r, "7")
		r = record()
		r.Version = n
		valued(t, api.Part{Kind: api.PartVersion}, r, strconv.Itoa(n))
		valued(t, api.Part{Kind: api.PartStatus}, r, "200")
	}
	valued(t, api.Part{Kind: api.PartStatus}, api.Record{Status: math.MinInt}, "-9223372036854775808")
}

// P20.2: what lies between two times, each of which counts as 0 below 0.
func TestValueTook(t *testing.T) {
	for _, x := range []struct{ start, end, want int }{
		{0, 0, 0}, {3, 9, 6}, {9, 3, 0}, {9, 9, 0}, {8, 9, 1}, {9, 8, 0}, {0, 7, 7},
		{-1, 0, 0}, {-5, 4, 4}, {5, -4, 0}, {-5, -4, 0}, {-4, -5, 0}, {0, -1, 0}, {-1, 1, 1},
		{0, math.MaxInt, math.MaxInt}, {1, math.MaxInt, math.MaxInt - 1}, {math.MinInt, math.MaxInt, math.MaxInt},
		{math.MaxInt, math.MinInt, 0}, {math.MinInt, math.MinInt, 0}, {math.MaxInt, math.MaxInt, 0}, {math.MinInt, 5, 5}, {math.MinInt, -5, 0}, {1 << 40, 1<<40 + 2, 2},
	} {
		valued(t, api.Part{Kind: api.PartTook}, api.Record{Start: x.start, End: x.end}, strconv.Itoa(x.want))
	}
}

// P20.2: the first header of just that name, be it empty.
func TestValueHead(t *testing.T) {
	r := record()
	valued(t, named("k"), r, "v")
	valued(t, named("e"), r, "-")
	valued(t, named("q"), r, `a\"b`)
	valued(t, named("x-1"), r, "-")
	for _, name := range []string{"", "z", "K", "k ", " k", "kk", "\n", "x-"} {
		valued(t, named(name), r, "-")
	}
	valued(t, named("k"), api.Record{Target: "k", Trace: "k"}, "-")
	r.Request.Heads = []api.Head{{Name: "", Value: "of none"}, {Name: "K b", Value: "any\n"}}
	valued(t, named(""), r, "of none")
	valued(t, named("K b"), r, `any\x0a`)
}

// P20.2: of a kind that is none there is nothing, whatever the part's text is.
func TestValueOtherKinds(t *testing.T) {
	for _, kind := range []int{math.MinInt, -10, -1, 10, 11, 100, 1 << 32, math.MaxInt} {
		for _, s := range []string{"", "x", "k"} {
			valued(t, api.Part{Kind: kind, Text: s}, record(), "")
		}
	}
}

// P20.3: values one after another, in the order of their parts.
func TestRender(t *testing.T) {
	r := record()
	rendered(t, "", r)
	rendered(t, "GET 7", r, api.Part{Kind: api.PartMethod}, text(" "), api.Part{Kind: api.PartVersion})
	rendered(t, "7GET", r, api.Part{Kind: api.PartVersion}, api.Part{Kind: api.PartMethod})
	rendered(t, `"GET h/p" t 200 7 00ff 9 v -`, r,
		text(`"`), api.Part{Kind: api.PartMethod}, text(" "), api.Part{Kind: api.PartHost}, api.Part{Kind: api.PartPath}, text(`" `),
		api.Part{Kind: api.PartTarget}, text(" "), api.Part{Kind: api.PartStatus}, text(" "), api.Part{Kind: api.PartVersion}, text(" "),
		api.Part{Kind: api.PartTrace}, text(" "), api.Part{Kind: api.PartTook}, text(" "), named("k"), text(" "), named("z"))
	rendered(t, "ab", r, text("a"), text(""), api.Part{Kind: -1, Text: "x"}, api.Part{Kind: 10, Text: "x"}, text("b"))
	rendered(t, "200200", r, api.Part{Kind: api.PartStatus}, api.Part{Kind: api.PartStatus})
	rendered(t, "a\nb", r, text("a\nb"))
}

// letters is so many bytes, of which no two beside one another are alike.
func letters(size int) string {
	out := make([]byte, size)
	for i := range out {
		out[i] = 'a' + byte(i%26)
	}
	return string(out)
}

// P20.3: as many bytes as may be, and more, however they lie in parts.
func TestRenderLong(t *testing.T) {
	for size := 110; size <= 130; size++ {
		s := letters(size)
		want := s
		if size > 120 {
			want = s[:119] + "~"
		}
		var bytes []api.Part
		for i := range s {
			bytes = append(bytes, text(s[i:i+1]), text(""))
		}
		rendered(t, want, record(), text(s))
		rendered(t, want, record(), bytes...)
		for at := range s {
			rendered(t, want, record(), text(s[:at]), text(s[at:]))
			rendered(t, want, api.Record{Target: s[at:]}, text(s[:at]), api.Part{Kind: api.PartTarget})
		}
	}
	for _, size := range []int{239, 240, 241, 1000, 1 << 20} {
		rendered(t, letters(119)+"~", record(), text(letters(size)))
		rendered(t, letters(119)+"~", record(), text(letters(119)), text(letters(size)))
	}
}

// P20.3: parts without bytes behind a line that is full do not make it longer; one byte does.
func TestRenderFull(t *testing.T) {
	full := letters(120)
	rendered(t, full, record(), text(full), text(""), api.Part{Kind: 10})
	rendered(t, full[:119]+"~", record(), text(full), text("."))
	rendered(t, full[:119]+"~", record(), text(full), named("none"))
	rendered(t, full[:119]+"~", record(), text(full), text(""), api.Part{Kind: -1}, api.Part{Kind: api.PartStatus})
}

// P20.3: bytes are counted as they are written, so that a cut may go through what is escaped.
func TestRenderCutEscape(t *testing.T) {
	for lead := 100; lead < 120; lead++ {
		whole := letters(lead) + `\"\x0a` + strings.Repeat(`\\`, 20)
		rendered(t, whole[:119]+"~", api.Record{Trace: "\"\n" + strings.Repeat("\\", 20)}, text(letters(lead)), api.Part{Kind: api.PartTrace})
	}
	rendered(t, strings.Repeat(`\x0a`, 30), api.Record{Target: strings.Repeat("\n", 30)}, api.Part{Kind: api.PartTarget})
	rendered(t, strings.Repeat(`\x0a`, 29)+`\x0~`, api.Record{Target: strings.Repeat("\n", 31)}, api.Part{Kind: api.PartTarget})
}

// P20.4: no line is longer than may be, and no more is worked out for it than there is room for.
func TestRenderFar(t *testing.T) {
	r := record()
	r.Request.Path = "/" + strings.Repeat("\n", 1<<20)
	l := slices.Repeat([]api.Part{{Kind: api.PartPath}}, 1<<16)
	rendered(t, "/"+strings.Repeat(`\x0a`, 29)+`\x~`, r, l...)
	l = slices.Repeat([]api.Part{{Kind: 10, Text: "x"}, text("")}, 1<<16)
	rendered(t, "", r, l...)
	rendered(t, "200", r, append(l, api.Part{Kind: api.PartStatus})...)
}

// P20.2 and P20.3 under the rules 4 and 5: a list that is handed in stays as it is, and is not kept.
func TestApart(t *testing.T) {
	r := record()
	l := []api.Part{named("k"), text(" "), named("q")}
	s := line.Render(l, r)
	if line.Value(l[2], r) != `a\"b` || !slices.Equal(r.Request.Heads, heads()) {
		t.Errorf("what was handed in is %v", r.Request.Heads)
	}
	clear(l)
	clear(r.Request.Heads)
	if s != `v a\"b` {
		t.Errorf("behind a change of the lists: %q", s)
	}
	rendered(t, "-", r, named("k"))
}
