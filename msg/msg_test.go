package msg_test

import (
	"math"
	"regexp"
	"slices"
	"strconv"
	"strings"
	"testing"

	"periscope/api"
	"periscope/head"
	"periscope/msg"
)

// heads has a header for each text: its name, a colon, its value.
func heads(texts ...string) []api.Head {
	var l []api.Head
	for _, s := range texts {
		name, value, _ := strings.Cut(s, ":")
		l = append(l, api.Head{Name: name, Value: value})
	}
	return l
}

// plain is a request that may be.
func plain() api.Request {
	return api.Request{Method: "GET", Host: "a", Path: "/x", Heads: heads("k:v"), Body: "hi"}
}

// fault is something that makes a request one that may not be, or, of OK, another one that may be.
type fault struct {
	turn func(q *api.Request)
	want api.Errno
}

func method(s string, want api.Errno) fault {
	return fault{func(q *api.Request) { q.Method = s }, want}
}

func host(s string, want api.Errno) fault {
	return fault{func(q *api.Request) { q.Host = s }, want}
}

func path(s string, want api.Errno) fault {
	return fault{func(q *api.Request) { q.Path = s }, want}
}

func with(l []api.Head, want api.Errno) fault {
	return fault{func(q *api.Request) { q.Heads = l }, want}
}

func body(s string, want api.Errno) fault {
	return fault{func(q *api.Request) { q.Body = s }, want}
}

// tails has what may stand, and may not, behind the first line of both kinds.
func tails() []fault {
	many := func(n int, s string) []api.Head { return slices.Repeat(heads(s), n) }
	return []fault{
		with(nil, api.OK), with([]api.Head{}, api.OK), with(heads("k:", "k:", "e:v: w"), api.OK), with(heads("k::"), api.OK),
		with(many(16, "a:1"), api.OK), with(many(17, "a:1"), api.ErrFull), with(many(1000, "A:\n"), api.ErrFull),
		with(heads(strings.Repeat("n", 32)+":"+strings.Repeat("v", 64)), api.OK),
		with(heads(":1"), api.ErrName), with(heads("K:1"), api.ErrName), with(heads("a b:1"), api.ErrName), with(heads("a\nb:1"), api.ErrName),
		with(heads("a:1", strings.Repeat("n", 33)+":1"), api.ErrName), with([]api.Head{{Name: "a:b", Value: "1"}}, api.ErrName),
		with(heads("a: "), api.ErrText), with(heads("a: 1"), api.ErrText), with(heads("a:1 "), api.ErrText), with(heads("a:1\n2"), api.ErrText),
		with(heads("a:1", "a:"+strings.Repeat("v", 65)), api.ErrText), with(heads("a:\xff"), api.ErrText), with(heads("a: ", "B:1"), api.ErrText),
		body("", api.OK), body("\n", api.OK), body("\n\nk: v\n\n", api.OK), body(" ", api.OK), body("\x00\xff\x80é", api.OK),
		body(strings.Repeat("x", 200), api.OK), body(strings.Repeat("\xff", 200), api.OK), body(strings.Repeat("x", 201), api.ErrLong),
		body(strings.Repeat("\n", 201), api.ErrLong), body(strings.Repeat("é", 101), api.ErrLong), body(strings.Repeat("x", 100000), api.ErrLong),
	}
}

func faults() []fault {
	return append([]fault{
		method("A", api.OK), method("Z", api.OK), method("ABCDEFGH", api.OK), method("GET", api.OK),
		method("", api.ErrForm), method("ABCDEFGHI", api.ErrForm), method("get", api.ErrForm), method("G T", api.ErrForm), method("GET ", api.ErrForm), method("G\n", api.ErrForm), method("É", api.ErrForm), method("G1", api.ErrForm),
		host("a-0", api.OK), host(strings.Repeat("h", 32), api.OK),
		host("", api.ErrName), host(strings.Repeat("h", 33), api.ErrName), host("A", api.ErrName), host("a b", api.ErrName), host("a\n", api.ErrName), host("a.b", api.ErrName), host(" a", api.ErrName),
		path("/", api.OK), path("//", api.OK), path("/!~:?", api.OK), path("/"+strings.Repeat("p", 63), api.OK),
		path("", api.ErrRange), path("x", api.ErrRange), path("x/", api.ErrRange), path("/"+strings.Repeat("p", 64), api.ErrRange), path("/ x", api.ErrRange), path("/x ", api.ErrRange), path(" /x", api.ErrRange), path("/\n", api.ErrRange), path("/\x7f", api.ErrRange), path("/é", api.ErrRange),
	}, tails()...)
}

// P5.1: what may be, and what may not, one by one; beside an error there is no text.
func TestCheck(t *testing.T) {
	for i, f := range faults() {
		q := plain()
		f.turn(&q)
		if e := msg.Check(q); e != f.want {
			t.Errorf("%d: Check(%q) = %v; want %v", i, q, e, f.want)
		}
		if s, e := msg.Write(q); e != f.want || (s == "") != (f.want != api.OK) {
			t.Errorf("%d: Write(%q) = %q, %v; want %v", i, q, s, e, f.want)
		}
	}
	if s, e := msg.Write(api.Request{}); s != "" || e != api.ErrForm {
		t.Errorf("Write of the zero request = %q, %v", s, e)
	}
}

// P5.1: of all bytes, which may stand in a method, a host, a path, a body, at each place.
func TestCheckBytes(t *testing.T) {
	const names = "abcdefghijklmnopqrstuvwxyz0123456789-"
	for b := range 256 {
		c := string([]byte{byte(b)})
		for at := range 8 {
			q := plain()
			q.Method = strings.Repeat("G", at) + c + strings.Repeat("G", 7-at)
			if may := 'A' <= b && b <= 'Z'; (msg.Check(q) == api.OK) != may || !may && msg.Check(q) != api.ErrForm {
				t.Errorf("method %q: %v", q.Method, msg.Check(q))
			}
			q = plain()
			q.Host = strings.Repeat("h", at) + c
			if may := strings.Contains(names, c); (msg.Check(q) == api.OK) != may || !may && msg.Check(q) != api.ErrName {
				t.Errorf("host %q: %v", q.Host, msg.Check(q))
			}
		}
		for at := range 64 {
			q := plain()
			q.Path = ("/" + strings.Repeat("p", 63))[:at] + c + strings.Repeat("p", 63-at)
			may := 33 <= b && b <= 126 && (at > 0 || c == "/")
			if (msg.Check(q) == api.OK) != may || !may && msg.Check(q) != api.ErrRange {
				t.Errorf("path %q: %v", q.Path, msg.Check(q))
			}
		}
		q := plain()
		q.Body = c
		if e := msg.Check(q); e != api.OK {
			t.Errorf("body %q: %v", q.Body, e)
		}
	}
}

// order has the errors as they are told: of two faults the one that stands ahead here, but of two headers the first one's.
func order(e api.Errno, inHeads bool) int {
	if inHeads {
		return 3
	}
	return slices.Index([]api.Errno{api.ErrForm, api.ErrName, api.ErrRange, api.OK, api.ErrLong}, e)
}

// P5.1: of two faults in different parts the first one is told.
func TestCheckFirst(t *testing.T) {
	for _, one := range faults() {
		for _, other := range faults() {
			if one.want == api.OK || other.want == api.OK {
				continue
			}
			q, p := plain(), plain()
			one.turn(&q)
			other.turn(&p)
			oneAt, otherAt := order(one.want, head.Check(q.Heads) != api.OK), order(other.want, head.Check(p.Heads) != api.OK)
			if oneAt >= otherAt {
				continue
			}
			other.turn(&q)
			if e := msg.Check(q); e != one.want {
				t.Errorf("Check(%.300q) = %v; want %v", q, e, one.want)
			}
			if s, e := msg.Write(q); s != "" || e != one.want {
				t.Errorf("Write(%.300q) = %q, %v; want %v", q, s, e, one.want)
			}
		}
	}
}

// P5.1, P5.3: a request's text, byte by byte, and that it is read as that request.
func TestText(t *testing.T) {
	for _, x := range []struct {
		q    api.Request
		text string
	}{
		{plain(), "GET a /x\nk: v\n\nhi"},
		{api.Request{Method: "A", Host: "b", Path: "/"}, "A b /\n\n"},
		{api.Request{Method: "A", Host: "b", Path: "/", Body: "\n"}, "A b /\n\n\n"},
		{api.Request{Method: "A", Host: "b", Path: "/", Body: "\n\nA b /\n\n"}, "A b /\n\n\n\nA b /\n\n"},
		{api.Request{Method: "PUT", Host: "h-1", Path: "/?a=b&c:~", Heads: heads("a:", "b:v: w", "b::", "0:x  y"), Body: " \x00\xff "}, "PUT h-1 /?a=b&c:~\na: \nb: v: w\nb: :\n0: x  y\n\n \x00\xff "},
		{api.Request{Method: "GET", Host: "a", Path: "/x", Heads: heads("b:1", "a:2", "b:1")}, "GET a /x\nb: 1\na: 2\nb: 1\n\n"},
		{api.Request{Method: "GET", Host: "a", Path: "/x", Body: "k: v\n\n"}, "GET a /x\n\nk: v\n\n"},
	} {
		if s, e := msg.Write(x.q); s != x.text || e != api.OK {
			t.Errorf("Write(%q) = %q, %v; want %q", x.q, s, e, x.text)
		}
		if q, e := msg.Read(x.text); !same(q, x.q) || e != api.OK {
			t.Errorf("Read(%q) = %q, %v; want %q", x.text, q, e, x.q)
		}
	}
}

func same(q, p api.Request) bool {
	return q.Method == p.Method && q.Host == p.Host && q.Path == p.Path && slices.Equal(q.Heads, p.Heads) && q.Body == p.Body
}

func sameBack(q, p api.Response) bool {
	return q.Status == p.Status && slices.Equal(q.Heads, p.Heads) && q.Body == p.Body
}

// P5.3: texts that are no request's; beside the error there is nothing.
func TestReadForm(t *testing.T) {
	lines := func(n int) string { return strings.Repeat("k: v\n", n) }
	for _, s := range []string{
		"", "\n", "\n\n", "GET", "GET ", "GET a", "GET a ", "GET a /x", "GET a /x\n", "GET a /x\nk: v", "GET a /x\nk: v\n", "GET a /x\nk: v\nhi",
		" GET a /x\n\n", "GET  a /x\n\n", "GET a  /x\n\n", "GET a /x \n\n", "GET a /x y\n\n", "GET\ta\t/x\n\n", "GET a\n/x\n\n", "GET\na /x\n\n", "GET /x\n\n", "a /x\n\n", " a /x\n\n", "GET  /x\n\n", "GET a \n\n",
		"get a /x\n\n", "ABCDEFGHI a /x\n\n", "GET A /x\n\n", "GET " + strings.Repeat("h", 33) + " /x\n\n", "GET a x\n\n", "GET a /" + strings.Repeat("p", 64) + "\n\n", "GET a /\x7f\n\n",
		"GET a /x\r\n\r\n", "GET a /x\n\r\n", "GET a /x\r\n\n", "\nGET a /x\n\n", "GET a /x\n \n",
		"GET a /x\nk\n\n", "GET a /x\nk:\n\n", "GET a /x\nk:v\n\n", "GET a /x\nk :v\n\n", "GET a /x\nk : v\n\n", "GET a /x\nk:  v\n\n", "GET a /x\nk: v \n\n", "GET a /x\n k: v\n\n", "GET a /x\n: v\n\n", "GET a /x\nK: v\n\n", "GET a /x\nk:: v\n\n", "GET a /x\nk: \x7f\n\n",
		"GET a /x\n" + strings.Repeat("n", 33) + ": v\n\n", "GET a /x\nn: " + strings.Repeat("v", 65) + "\n\n",
		"GET a /x\n" + lines(17) + "\n", "GET a /x\n" + lines(18) + "\n", "GET a /x\n" + lines(100000) + "\n", "GET a /x\n" + lines(16), "GET a /x\n" + lines(16) + "k\n\n", "GET a /x\n" + lines(17),
		"GET a /x\n\n" + strings.Repeat("x", 201), "GET a /x\n\n" + strings.Repeat("\n", 100000),
		"404\nk: v\n\n", strings.Repeat(" ", 100000), strings.Repeat("\n", 100000), strings.Repeat("A", 100000), "GET a /x\n" + strings.Repeat("n", 100000),
	} {
		if q, e := msg.Read(s); !same(q, api.Request{}) || e != api.ErrForm {
			t.Errorf("Read(%.300q) = %q, %v; want ErrForm", s, q, e)
		}
	}
	for _, s := range []string{"GET a /x\n" + lines(16) + "\n", "GET a /x\n\n" + strings.Repeat("\n", 200)} {
		if q, e := msg.Read(s); e != api.OK || len(q.Heads)+len(q.Body) < 16 {
			t.Errorf("Read(%q) = %q, %v", s, q, e)
		}
	}
}

// may tells in another way whether a text is one: by its first line, its lines of headers, and how long its body is.
func may(first *regexp.Regexp, s string) bool {
	above, body, found := strings.Cut(s, "\n\n")
	lines := strings.Split(above, "\n")
	for _, line := range lines[1:] {
		if !headLine.MatchString(line) {
			return false
		}
	}
	return found && first.MatchString(lines[0]) && len(lines) <= 17 && len(body) <= 200
}

var (
	headLine = regexp.MustCompile(`\A[a-z0-9-]{1,32}: ([!-~]|[!-~][ -~]{0,62}[!-~]|)\z`)
	firstAsk = regexp.MustCompile(`\A[A-Z]{1,8} [a-z0-9-]{1,32} /[!-~]{0,63}\z`)
	firstOff = regexp.MustCompile(`\A[1-5][0-9][0-9]\z`)
)

// others calls with texts that are nearly one of those given: one byte is another one, or lacks, or is one too many; or the text ends too soon.
func others(texts []string, call func(s string)) {
	for _, text := range texts {
		for at := range len(text) + 1 {
			call(text[:at])
			for b := range 256 {
				call(text[:at] + string([]byte{byte(b)}) + text[at:])
			}
			if at == len(text) {
				continue
			}
			call(text[:at] + text[at+1:])
			for b := range 256 {
				call(text[:at] + string([]byte{byte(b)}) + text[at+1:])
			}
		}
	}
}

// P5.3, P5.4: just the texts of requests are read, and what is read may be, and its text is just that.
func TestReadOthers(t *testing.T) {
	texts := []string{
		"GET a /x\nk: v\n\nhi", "A b /\n\n", "PUT h-1 /a:b\na: \nb: v: w\n\n\n\n", "ABCDEFGH a /\n\nk: v\n",
		"GET " + strings.Repeat("h", 32) + " /" + strings.Repeat("p", 63) + "\n" + strings.Repeat("n", 32) + ": " + strings.Repeat("v", 64) + "\n\n",
		"GET a /x\n" + strings.Repeat("k: v\n", 16) + "\n" + strings.Repeat("b", 200),
	}
	others(texts, func(s string) {
		q, e := msg.Read(s)
		if !may(firstAsk, s) {
			if !same(q, api.Request{}) || e != api.ErrForm {
				t.Fatalf("Read(%q) = %q, %v; want ErrForm", s, q, e)
			}
			return
		}
		if back, wrong := msg.Write(q); e != api.OK || msg.Check(q) != api.OK || back != s || wrong != api.OK {
			t.Fatalf("Read(%q) = %q, %v, whose text is %q, %v", s, q, e, back, wrong)
		}
	})
}

// P5.4: what was written is read as it was.
func TestReadOfWrite(t *testing.T) {
	for _, one := range faults() {
		for _, other := range faults() {
			if one.want != api.OK || other.want != api.OK {
				continue
			}
			q := plain()
			one.turn(&q)
			other.turn(&q)
			s, e := msg.Write(q)
			if e != api.OK {
				t.Fatalf("Write(%q): %v", q, e)
			}
			if got, e := msg.Read(s); !same(got, q) || e != api.OK {
				t.Fatalf("Read(%q) = %q, %v; want %q", s, got, e, q)
			}
		}
	}
}

func response(status int, q api.Request) api.Response {
	return api.Response{Status: status, Heads: q.Heads, Body: q.Body}
}

// P5.2: the status is told ahead of the headers, these ahead of the body; beside an error there is no text.
func TestCheckBack(t *testing.T) {
	for i, f := range tails() {
		q := plain()
		f.turn(&q)
		for status, want := range map[int]api.Errno{
			math.MinInt: api.ErrRange, -200: api.ErrRange, -1: api.ErrRange, 0: api.ErrRange, 1: api.ErrRange, 99: api.ErrRange,
			100: f.want, 101: f.want, 200: f.want, 404: f.want, 598: f.want, 599: f.want,
			600: api.ErrRange, 601: api.ErrRange, 999: api.ErrRange, 1000: api.ErrRange, 1<<32 + 200: api.ErrRange, math.MaxInt: api.ErrRange,
		} {
			p := response(status, q)
			if e := msg.CheckBack(p); e != want {
				t.Errorf("%d: CheckBack(%v) = %v; want %v", i, p, e, want)
			}
			s, e := msg.WriteBack(p)
			if e != want || (s == "") != (want != api.OK) {
				t.Errorf("%d: WriteBack(%v) = %q, %v; want %v", i, p, s, e, want)
			}
			if want != api.OK {
				continue
			}
			if got, e := msg.ReadBack(s); !sameBack(got, p) || e != api.OK {
				t.Errorf("%d: ReadBack(%q) = %v, %v; want %v", i, s, got, e, p)
			}
		}
		if p := response(200, q); f.want != api.OK && len(q.Body) <= 200 {
			p.Body = strings.Repeat("x", 201)
			if e := msg.CheckBack(p); e != f.want {
				t.Errorf("%d: CheckBack(%v) = %v; want %v", i, p, e, f.want)
			}
		}
	}
}

// P5.2, P5.3: a response's text, byte by byte, and that it is read as that response.
func TestTextBack(t *testing.T) {
	for _, x := range []struct {
		p    api.Response
		text string
	}{
		{api.Response{Status: 404, Heads: heads("k:v"), Body: "no"}, "404\nk: v\n\nno"},
		{api.Response{Status: 100}, "100\n\n"},
		{api.Response{Status: 599, Body: "\n"}, "599\n\n\n"},
		{api.Response{Status: 200, Heads: heads("server:a", "b:", "b:v: w"), Body: "\x00\xff\n\n"}, "200\nserver: a\nb: \nb: v: w\n\n\x00\xff\n\n"},
	} {
		if s, e := msg.WriteBack(x.p); s != x.text || e != api.OK {
			t.Errorf("WriteBack(%v) = %q, %v; want %q", x.p, s, e, x.text)
		}
		if p, e := msg.ReadBack(x.text); !sameBack(p, x.p) || e != api.OK {
			t.Errorf("ReadBack(%q) = %v, %v; want %v", x.text, p, e, x.p)
		}
	}
}

// P5.3: a status has just three digits, from 100 to 599.
func TestReadBackStatus(t *testing.T) {
	for n := range 10000 {
		s := strconv.Itoa(n)
		for _, digits := range []string{s, "0" + s, "00" + s, "+" + s, "-" + s, s + " ", " " + s, s + "\r", "0x" + s, s + ".", s + "e0"} {
			p, e := msg.ReadBack(digits + "\n\n")
			if digits == s && 100 <= n && n <= 599 {
				if p.Status != n || e != api.OK {
					t.Errorf("ReadBack of %q = %v, %v", digits, p, e)
				}
			} else if !sameBack(p, api.Response{}) || e != api.ErrForm {
				t.Errorf("ReadBack of %q = %v, %v; want ErrForm", digits, p, e)
			}
		}
	}
}

// P5.3: texts that are no response's; beside the error there is nothing.
func TestReadBackForm(t *testing.T) {
	lines := func(n int) string { return strings.Repeat("k: v\n", n) }
	for _, s := range []string{
		"", "\n", "\n\n", "4", "404", "404\n", "404\nk: v", "404\nk: v\n", "\n404\n\n", "\n\n404", "404 \n\n", " 404\n\n", "404\r\n\r\n", "404\n\r\n", "4 4\n\n", "4_0\n\n", "1e2\n\n", "４04\n\n", "abc\n\n",
		"18446744073709552016\n\n", "-18446744073709551212\n\n", strings.Repeat("4", 100000) + "\n\n", strings.Repeat("0", 100000) + "404\n\n",
		"404\nk\n\n", "404\nk:v\n\n", "404\nk: v \n\n", "404\nK: v\n\n", "404\n: v\n\n", "404\nk:  v\n\n",
		"404\n" + lines(17) + "\n", "404\n" + lines(100000) + "\n", "404\n" + lines(16), "404\n\n" + strings.Repeat("x", 201),
		"GET a /x\n\n", "404 a /x\n\n",
	} {
		if p, e := msg.ReadBack(s); !sameBack(p, api.Response{}) || e != api.ErrForm {
			t.Errorf("ReadBack(%.300q) = %v, %v; want ErrForm", s, p, e)
		}
	}
	for _, s := range []string{"404\n" + lines(16) + "\n", "404\n\n" + strings.Repeat("\n", 200)} {
		if p, e := msg.ReadBack(s); e != api.OK || len(p.Heads)+len(p.Body) < 16 {
			t.Errorf("ReadBack(%q) = %v, %v", s, p, e)
		}
	}
}

// P5.3, P5.4: just the texts of responses are read, and what is read may be, and its text is just that.
func TestReadBackOthers(t *testing.T) {
	texts := []string{
		"404\nk: v\n\nno", "100\n\n", "599\n\nk: v\n", "200\na: \nb: v: w\n\n\n\n",
		"500\n" + strings.Repeat("n", 32) + ": " + strings.Repeat("v", 64) + "\n" + strings.Repeat("k: v\n", 15) + "\n" + strings.Repeat("b", 200),
	}
	others(texts, func(s string) {
		p, e := msg.ReadBack(s)
		if !may(firstOff, s) {
			if !sameBack(p, api.Response{}) || e != api.ErrForm {
				t.Fatalf("ReadBack(%q) = %v, %v; want ErrForm", s, p, e)
			}
			return
		}
		if back, wrong := msg.WriteBack(p); e != api.OK || msg.CheckBack(p) != api.OK || back != s || wrong != api.OK {
			t.Fatalf("ReadBack(%q) = %v, %v, whose text is %q, %v", s, p, e, back, wrong)
		}
	})
}

// P5.1 to P5.3 under the rules 4 and 5: lists that are handed in stay as they are, and answers share nothing.
func TestApart(t *testing.T) {
	whole := heads("a:1", "b:2", "c:3", "d:4")
	q := api.Request{Method: "GET", Host: "a", Path: "/", Heads: whole[:2]}
	p := api.Response{Status: 200, Heads: whole[:2]}
	text, _ := msg.Write(q)
	back, _ := msg.WriteBack(p)
	msg.Check(q)
	msg.CheckBack(p)
	if !slices.Equal(whole, heads("a:1", "b:2", "c:3", "d:4")) {
		t.Errorf("what was handed in is %q", whole)
	}
	one, _ := msg.Read(text)
	other, _ := msg.Read(text)
	oneBack, _ := msg.ReadBack(back)
	otherBack, _ := msg.ReadBack(back)
	for _, l := range [][]api.Head{whole, one.Heads, oneBack.Heads} {
		_ = append(l[:1], heads("w:w")...)
		clear(l)
	}
	later, _ := msg.Read(text)
	laterBack, _ := msg.ReadBack(back)
	for _, l := range [][]api.Head{other.Heads, otherBack.Heads, later.Heads, laterBack.Heads} {
		if !slices.Equal(l, heads("a:1", "b:2")) {
			t.Errorf("answers share memory: %q", l)
		}
	}
}
