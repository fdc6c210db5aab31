package format_test

import (
	"math"
	"regexp"
	"slices"
	"strings"
	"testing"

	"periscope/api"
	"periscope/format"
)

func text(s string) api.Part {
	return api.Part{Kind: api.PartText, Text: s}
}

func named(name string) api.Part {
	return api.Part{Kind: api.PartHead, Text: name}
}

// words has the parts that are known by one word alone.
func words() map[string]api.Part {
	return map[string]api.Part{
		"METHOD": {Kind: api.PartMethod}, "HOST": {Kind: api.PartHost}, "PATH": {Kind: api.PartPath}, "TARGET": {Kind: api.PartTarget},
		"STATUS": {Kind: api.PartStatus}, "VERSION": {Kind: api.PartVersion}, "TRACE": {Kind: api.PartTrace}, "TOOK": {Kind: api.PartTook},
	}
}

// names has names that a header may have.
func names() []string {
	return []string{"a", "z", "0", "9", "-", "x-1", "--", "req", "abcdefghijklmnopqrstuvwxyz", "0123456789", strings.Repeat("a", 31), strings.Repeat("-", 32)}
}

// compiled holds Compile, and Write of what it answers, against the parts of a format that may be.
func compiled(t *testing.T, s string, want ...api.Part) {
	t.Helper()
	l, at, e := format.Compile(s)
	if !slices.Equal(l, want) || at != 0 || e != api.OK {
		t.Errorf("Compile(%q) = %v, %d, %v; want %v", s, l, at, e, want)
	}
	if got, e := format.Write(l); got != s || e != api.OK {
		t.Errorf("Write of Compile(%q) = %q, %v", s, got, e)
	}
}

// refused holds Compile, and a format's Parts, against the error that both must tell.
func refused(t *testing.T, s string, at int, want api.Errno) {
	t.Helper()
	if l, place, e := format.Compile(s); len(l) != 0 || place != at || e != want {
		t.Errorf("Compile(%q) = %v, %d, %v; want %d, %v", s, l, place, e, at, want)
	}
	if l, e := format.New(s).Parts(); len(l) != 0 || e != want {
		t.Errorf("Parts of %q = %v, %v; want %v", s, l, e, want)
	}
}

// written holds Write against the text that it must answer.
func written(t *testing.T, want string, l ...api.Part) {
	t.Helper()
	before := slices.Clone(l)
	if s, e := format.Write(l); s != want || e != api.OK {
		t.Errorf("Write(%v) = %q, %v; want %q", l, s, e, want)
	}
	if !slices.Equal(l, before) {
		t.Errorf("Write made %v of %v", l, before)
	}
}

// P19.1: the example, and formats of several parts.
func TestCompile(t *testing.T) {
	compiled(t, "%PATH% is 5%%", api.Part{Kind: api.PartPath}, text(" is 5%"))
	compiled(t, "")
	compiled(t, "a", text("a"))
	compiled(t, "GET PATH REQ(a) METHOD", text("GET PATH REQ(a) METHOD"))
	compiled(t, "%METHOD% %HOST%%PATH%", api.Part{Kind: api.PartMethod}, text(" "), api.Part{Kind: api.PartHost}, api.Part{Kind: api.PartPath})
	compiled(t, "x%REQ(a)%y%REQ(a)%%REQ(b)%", text("x"), named("a"), text("y"), named("a"), named("b"))
	compiled(t, "%PATH%PATH%PATH%", api.Part{Kind: api.PartPath}, text("PATH"), api.Part{Kind: api.PartPath})
}

// P19.1: each word alone, and between others.
func TestCompileWords(t *testing.T) {
	for word, part := range words() {
		compiled(t, "%"+word+"%", part)
		compiled(t, "%"+word+"%%"+word+"%", part, part)
		compiled(t, word+"%"+word+"%"+word, text(word), part, text(word))
	}
	for _, name := range names() {
		compiled(t, "%REQ("+name+")%", named(name))
		compiled(t, "<%REQ("+name+")%>", text("<"), named(name), text(">"))
	}
}

// P19.1: two marks are one of the text, which is one part as long as it goes.
func TestCompileMarks(t *testing.T) {
	compiled(t, "%%", text("%"))
	compiled(t, "%%%%", text("%%"))
	compiled(t, "a%%b%%%%c", text("a%b%%c"))
	compiled(t, "%%PATH%%", text("%PATH%"))
	compiled(t, "%%%PATH%%%", text("%"), api.Part{Kind: api.PartPath}, text("%"))
	compiled(t, "%PATH%%%%PATH%", api.Part{Kind: api.PartPath}, text("%"), api.Part{Kind: api.PartPath})
	compiled(t, "%%REQ(a)%%", text("%REQ(a)%"))
	compiled(t, strings.Repeat("%%", 60), text(strings.Repeat("%", 60)))
}

// P19.1: each byte from 32 to 126 is a text, and no other one is.
func TestCompileBytes(t *testing.T) {
	all := ""
	for b := range 256 {
		s := string([]byte{byte(b)})
		switch {
		case s == "%":
			refused(t, s, 0, api.ErrForm)
		case b < 32 || b > 126:
			refused(t, s, 0, api.ErrText)
			refused(t, "ab"+s, 2, api.ErrText)
			refused(t, "%%%PATH%"+s+"%", 8, api.ErrText)
			refused(t, "%"+s+"%", 0, api.ErrForm)
			refused(t, "a%PATH"+s+"%", 1, api.ErrForm)
			refused(t, "a%REQ("+s+")%", 1, api.ErrForm)
		default:
			compiled(t, s, text(s))
			all += s
		}
	}
	compiled(t, all, text(all))
	refused(t, "é", 0, api.ErrText)
	refused(t, "a é", 2, api.ErrText)
}

// P19.1: a mark without one behind it.
func TestCompileOpen(t *testing.T) {
	refused(t, "%", 0, api.ErrForm)
	refused(t, "%PATH", 0, api.ErrForm)
	refused(t, "ab%", 2, api.ErrForm)
	refused(t, "%%%", 2, api.ErrForm)
	refused(t, "%PATH%%", 6, api.ErrForm)
	refused(t, "%PATH%PATH%", 10, api.ErrForm)
	refused(t, "%REQ(a)", 0, api.ErrForm)
	refused(t, strings.Repeat("%", 119), 118, api.ErrForm)
}

// P19.1: what is none of the words.
func TestCompileOtherWords(t *testing.T) {
	for _, word := range []string{
		" ", "X", "path", "Path", "PATHS", "PAT", " PATH", "PATH ", "PATH()", "PATH(a)", "TEXT", "HEAD", "REQUEST", "BODY", "START", "END", "METHOD HOST",
		"REQ", "REQ(", "REQ)", "REQ()", "REQ a", "REQ(a", "REQ a)", "REQ[a]", "REQ(A)", "REQ(a_b)", "REQ(a b)", "REQ( a)", "REQ(a )", "REQ(a))", "REQ((a)", "REQ((a))", "REQ(a) ", " REQ(a)", "req(a)", "RES(a)", "REQ(a)REQ(b)", "REQ(a,b)", "REQ(é)", "(a)", "a", "a)",
		"REQ(" + strings.Repeat("a", 33) + ")",
	} {
		refused(t, "%"+word+"%", 0, api.ErrForm)
		refused(t, "ab%"+word+"%", 2, api.ErrForm)
		refused(t, "%PATH%%"+word+"%%PATH%", 6, api.ErrForm)
	}
}

// P19.1: the first place that has a fault is told, whatever comes behind.
func TestCompileFirst(t *testing.T) {
	refused(t, "a\n%", 1, api.ErrText)
	refused(t, "a%\n", 1, api.ErrForm)
	refused(t, "a%\n%", 1, api.ErrForm)
	refused(t, "\x00%X%", 0, api.ErrText)
	refused(t, "%X%\x00", 0, api.ErrForm)
	refused(t, "%X%%Y%", 0, api.ErrForm)
	refused(t, "%%%X%%", 2, api.ErrForm)
	refused(t, "\n\n", 0, api.ErrText)
	refused(t, "%PATH%\x7f%X%", 6, api.ErrText)
}

// P19.1: as many bytes as may be, and one more, which is told ahead of all other faults.
func TestCompileLong(t *testing.T) {
	for _, s := range []string{"a", "%%", "%PATH%", "%REQ(abc)%"} {
		for size := 119; size <= 120; size++ {
			fits := strings.Repeat("b", size-len(s)) + s
			l, at, e := format.Compile(fits)
			if len(l) == 0 || at != 0 || e != api.OK {
				t.Errorf("Compile of %d bytes = %v, %d, %v", size, l, at, e)
			}
		}
	}
	compiled(t, strings.Repeat("a", 120), text(strings.Repeat("a", 120)))
	refused(t, strings.Repeat("\n", 120), 0, api.ErrText)
	refused(t, strings.Repeat("a", 119)+"\n", 119, api.ErrText)
	refused(t, strings.Repeat("a", 119)+"%", 119, api.ErrForm)
	for _, s := range []string{strings.Repeat("a", 121), strings.Repeat("\n", 121), strings.Repeat("%", 121), strings.Repeat("%%", 61), strings.Repeat("a", 120) + "\n", strings.Repeat("%PATH%", 21), strings.Repeat("a", 1<<20)} {
		refused(t, s, 0, api.ErrLong)
	}
}

var (
	place = regexp.MustCompile(`^%(?:|METHOD|HOST|PATH|TARGET|STATUS|VERSION|TRACE|TOOK|REQ\(([a-z0-9-]{1,32})\))%`)
	plain = regexp.MustCompile(`^(?:[ -$&-~]|%%)+`)
)

// slow is Compile, worked out by patterns.
func slow(s string) ([]api.Part, int, api.Errno) {
	var l []api.Part
	at := 0
	for at < len(s) {
		rest := s[at:]
		if run := plain.FindString(rest); run != "" {
			l = append(l, text(strings.ReplaceAll(run, "%%", "%")))
			at += len(run)
			continue
		}
		found := place.FindStringSubmatch(rest)
		switch {
		case found == nil && rest[0] == '%':
			return nil, at, api.ErrForm
		case found == nil:
			return nil, at, api.ErrText
		case found[1] != "":
			l = append(l, named(found[1]))
		default:
			l = append(l, words()[strings.Trim(found[0], "%")])
		}
		at += len(found[0])
	}
	return l, 0, api.OK
}

// P19.1 and P19.4: all texts of a few pieces.
func TestCompileAll(t *testing.T) {
	pieces := []string{"%", "a", "PATH", "TOOK", "REQ(", ")", "\n", " "}
	texts := []string{""}
	for from := 0; len(texts) < 40000; {
		to := len(texts)
		for _, s := range texts[from:to] {
			for _, piece := range pieces {
				texts = append(texts, s+piece)
			}
		}
		from = to
	}
	for _, s := range texts {
		want, at, errno := slow(s)
		if errno == api.OK {
			compiled(t, s, want...)
		} else {
			refused(t, s, at, errno)
		}
	}
}

// P19.2: parts one after another, as each kind is written.
func TestWrite(t *testing.T) {
	written(t, "")
	written(t, "ab", text("ab"))
	written(t, "", text(""))
	written(t, "ab", text("a"), text(""), text("b"))
	written(t, "%%", text("%"))
	written(t, "a%%%%b%%", text("a%%b%"))
	written(t, "%%PATH%%", text("%PATH%"))
	for word, part := range words() {
		written(t, "%"+word+"%", part)
		written(t, "x%"+word+"%%"+word+"%y", text("x"), part, part, text("y"))
	}
	written(t, "%REQ(a)%", named("a"))
	written(t, "%REQ(a)%%REQ(b)%%PATH%%%", named("a"), named("b"), api.Part{Kind: api.PartPath}, text("%"))
}

// P19.2: nothing else is checked: neither a text's bytes, nor a header's name, nor how long it all is.
func TestWriteUnchecked(t *testing.T) {
	written(t, "\n\x00\xff", text("\n\x00\xff"))
	written(t, "%REQ()%", named(""))
	written(t, "%REQ(A b)%", named("A b"))
	written(t, "%REQ(%)%", named("%"))
	written(t, "%REQ(a%%b\n)%", named("a%%b\n"))
	long := strings.Repeat("a", 1000)
	written(t, long, text(long))
	written(t, long+"%REQ("+long+")%", text(long), named(long))
	written(t, strings.Repeat("%%", 1000), text(strings.Repeat("%", 1000)))
	written(t, strings.Repeat("%PATH%", 5000), slices.Repeat([]api.Part{{Kind: api.PartPath}}, 5000)...)
}

// P19.2: kinds that are none, and texts where none may be, wherever they stand.
func TestWriteRefused(t *testing.T) {
	bad := []api.Part{{Kind: -1}, {Kind: 10}, {Kind: -1, Text: "x"}, {Kind: 10, Text: "x"}, {Kind: math.MinInt}, {Kind: math.MaxInt}, {Kind: 1 << 32}, {Kind: 100}}
	for _, part := range words() {
		for _, s := range []string{"x", " ", "%", "\n", "\x00"} {
			part.Text = s
			bad = append(bad, part)
		}
	}
	for _, part := range bad {
		for _, l := range [][]api.Part{{part}, {text("a"), part}, {part, text("a")}, {named("a"), part, {Kind: api.PartPath}}, {part, part}} {
			before := slices.Clone(l)
			if s, e := format.Write(l); s != "" || e != api.ErrArg {
				t.Errorf("Write(%v) = %q, %v; want ErrArg", l, s, e)
			}
			if !slices.Equal(l, before) {
				t.Errorf("Write made %v of %v", l, before)
			}
		}
	}
}

// P19.4 the other way round: parts as Compile answers them are compiled of what they are written as.
func TestCompileOfWrite(t *testing.T) {
	l := []api.Part{text("a%"), named("x-1"), named("b"), text(" % ")}
	for _, part := range words() {
		l = append(l, part)
	}
	for turn := range l {
		one := slices.Concat(l[turn:], l[:turn])
		s, e := format.Write(one)
		if e != api.OK {
			t.Fatalf("Write(%v) = %v", one, e)
		}
		compiled(t, s, one...)
	}
}

// P19.3: a format is compiled when its parts are asked for first, and never again.
func TestFormat(t *testing.T) {
	for _, s := range []string{"", "a", "%%", "%PATH% is 5%%", "%REQ(a)%%TOOK%", "%", "a\n", "%X%", strings.Repeat("a", 120), strings.Repeat("a", 121)} {
		want, _, errno := format.Compile(s)
		f := format.New(s)
		for range 3 {
			if f.Made() != 0 {
				t.Errorf("Made of %q = %d ahead of Parts", s, f.Made())
			}
		}
		for range 5 {
			l, e := f.Parts()
			if !slices.Equal(l, want) || e != errno {
				t.Errorf("Parts of %q = %v, %v; want %v, %v", s, l, e, want, errno)
			}
			if f.Made() != 1 {
				t.Errorf("Made of %q = %d behind Parts", s, f.Made())
			}
		}
	}
}

// P19.3: formats have nothing of one another, nor of what Compile is asked for.
func TestFormatsApart(t *testing.T) {
	a, b, again := format.New("%PATH%"), format.New("%HOST%"), format.New("%PATH%")
	if a == again {
		t.Fatal("New answers one format twice")
	}
	a.Parts()
	format.Compile("%HOST%")
	if a.Made() != 1 || b.Made() != 0 || again.Made() != 0 {
		t.Errorf("made %d, %d, %d", a.Made(), b.Made(), again.Made())
	}
	if l, e := b.Parts(); e != api.OK || !slices.Equal(l, []api.Part{{Kind: api.PartHost}}) {
		t.Errorf("Parts = %v, %v", l, e)
	}
	if a.Made() != 1 || b.Made() != 1 || again.Made() != 0 {
		t.Errorf("made %d, %d, %d", a.Made(), b.Made(), again.Made())
	}
}

// P19.3: a nil format.
func TestFormatNil(t *testing.T) {
	var f *format.Format
	for range 2 {
		if l, e := f.Parts(); len(l) != 0 || e != api.ErrNil {
			t.Errorf("Parts = %v, %v; want ErrNil", l, e)
		}
		if f.Made() != 0 {
			t.Errorf("Made = %d", f.Made())
		}
	}
}

// P19.1 and P19.3 under rule 4: what a caller writes into an answer, or appends to it, is seen by no later one.
func TestAnswersApart(t *testing.T) {
	const s = "a%PATH%b%REQ(c)%"
	want := []api.Part{text("a"), {Kind: api.PartPath}, text("b"), named("c")}
	f := format.New(s)
	kept, _ := f.Parts()
	for range 3 {
		for _, l := range [][]api.Part{parts(f), compile(s)} {
			if !slices.Equal(l, want) {
				t.Fatalf("parts = %v; want %v", l, want)
			}
			behind := append(l[:2], text("z"))
			_ = append(behind, text("z"))
			clear(l)
		}
	}
	if !slices.Equal(kept, want) {
		t.Errorf("the first answer became %v", kept)
	}
}

func parts(f *format.Format) []api.Part {
	l, _ := f.Parts()
	return l
}

func compile(s string) []api.Part {
	l, _, _ := format.Compile(s)
	return l
}
