package tstate_test

import (
	"regexp"
	"slices"
	"strconv"
	"strings"
	"testing"

	"periscope/api"
	"periscope/tstate"
)

var (
	keyForm   = regexp.MustCompile(`^[a-z0-9][a-z0-9_*/@-]{0,31}$`)
	valueForm = regexp.MustCompile(`^[ -+\--<>-~]{0,63}[!-+\--<>-~]$`)
)

// list has a member for each text: its key, a colon, its value.
func list(texts ...string) []api.Member {
	var l []api.Member
	for _, s := range texts {
		key, value, _ := strings.Cut(s, ":")
		l = append(l, api.Member{Key: key, Value: value})
	}
	return l
}

// many has n members that may be, each with a key of its own.
func many(n int) []api.Member {
	var l []api.Member
	for i := range n {
		l = append(l, api.Member{Key: "k" + strconv.Itoa(i), Value: strconv.Itoa(i)})
	}
	return l
}

// behind is l with a member behind, in memory of its own.
func behind(l []api.Member, text string) []api.Member {
	return append(slices.Clone(l), list(text)...)
}

// fault is what Check must answer of l.
func fault(l []api.Member) api.Errno {
	for i, m := range l {
		if !keyForm.MatchString(m.Key) || !valueForm.MatchString(m.Value) {
			return api.ErrForm
		}
		for _, other := range l[:i] {
			if other.Key == m.Key {
				return api.ErrTwice
			}
		}
		if i >= 32 {
			return api.ErrFull
		}
	}
	return api.OK
}

// text is what Write must answer of l, if it may be.
func text(l []api.Member) string {
	s := ""
	for i, m := range l {
		if i > 0 {
			s += ","
		}
		s += m.Key + "=" + m.Value
	}
	return s
}

// members is what Read must answer of s.
func members(s string) ([]api.Member, api.Errno) {
	var l []api.Member
	for _, piece := range strings.Split(s, ",") {
		for piece != "" && (piece[0] == 32 || piece[0] == 9) {
			piece = piece[1:]
		}
		for piece != "" && (piece[len(piece)-1] == 32 || piece[len(piece)-1] == 9) {
			piece = piece[:len(piece)-1]
		}
		if piece == "" {
			continue
		}
		at := strings.Index(piece, "=")
		if at < 0 {
			return nil, api.ErrForm
		}
		l = append(l, api.Member{Key: piece[:at], Value: piece[at+1:]})
		if errno := fault(l); errno != api.OK {
			return nil, errno
		}
	}
	return l, api.OK
}

// hold holds Check and Write of l against what they must answer.
func hold(t *testing.T, l []api.Member) {
	t.Helper()
	before := slices.Clone(l)
	want, wantText := fault(l), ""
	if want == api.OK {
		wantText = text(l)
	}
	if e := tstate.Check(l); e != want {
		t.Errorf("Check(%q) = %v; want %v", l, e, want)
	}
	if s, e := tstate.Write(l); s != wantText || e != want {
		t.Errorf("Write(%q) = %q, %v; want %q, %v", l, s, e, wantText, want)
	}
	if !slices.Equal(l, before) {
		t.Errorf("a list was changed: %q; was %q", l, before)
	}
}

// holdText holds Read of s against what it must answer.
func holdText(t *testing.T, s string) {
	t.Helper()
	want, wantErrno := members(s)
	if l, e := tstate.Read(s); !slices.Equal(l, want) || e != wantErrno {
		t.Errorf("Read(%.300q) = %q, %v; want %q, %v", s, l, e, want, wantErrno)
	}
}

// may tells whether a member may be, by each call that asks; they must agree.
func may(t *testing.T, key, value string) bool {
	t.Helper()
	one := []api.Member{{Key: key, Value: value}}
	checked := tstate.Check(one)
	written, writtenErrno := tstate.Write(one)
	put, putErrno := tstate.Put(nil, key, value)
	if checked != api.OK && checked != api.ErrForm || writtenErrno != checked || putErrno != checked {
		t.Errorf("of %q: Check %v, Write %v, Put %v", one, checked, writtenErrno, putErrno)
	}
	if ok := checked == api.OK; ok && written != key+"="+value || !ok && written != "" || ok != slices.Equal(put, one) || !ok && len(put) > 0 {
		t.Errorf("of %q: Write %q, Put %q", one, written, put)
	}
	return checked == api.OK
}

// P8.1, P8.3: which keys may be, by each byte at each place, and by their length.
func TestKey(t *testing.T) {
	const letters = "abcdefghijklmnopqrstuvwxyz0123456789"
	for b := range 256 {
		c := string([]byte{byte(b)})
		for _, size := range []int{1, 2, 3, 32} {
			for at := range size {
				key := strings.Repeat("k", at) + c + strings.Repeat("k", size-1-at)
				want := strings.Contains(letters, c) || at > 0 && strings.Contains("_-*/@", c)
				if may(t, key, "v") != want {
					t.Errorf("key %q: %v", key, !want)
				}
			}
		}
	}
	for size := range 70 {
		for _, key := range []string{strings.Repeat("k", size), strings.Repeat("0", size), ("k" + strings.Repeat("@", 70))[:size]} {
			if want := size >= 1 && size <= 32; may(t, key, "v") != want {
				t.Errorf("key of %d bytes: %v", size, !want)
			}
		}
	}
	for key, want := range map[string]bool{"a_-*/@": true, "0": true, "a@b": true, "@a": false, "_": false, "-a": false, "*": false, "/a": false, "Key": false, "é": false, "aé": false, "a b": false, "a.b": false, "a=b": false, "a,b": false, " a": false, "a ": false} {
		if may(t, key, "v") != want {
			t.Errorf("key %q: %v", key, !want)
		}
	}
}

// P8.1, P8.3: which values may be, by each byte at each place, and by their length.
func TestValue(t *testing.T) {
	for b := range 256 {
		c := string([]byte{byte(b)})
		for _, size := range []int{1, 2, 3, 64} {
			for at := range size {
				value := strings.Repeat("V", at) + c + strings.Repeat("V", size-1-at)
				want := 32 <= b && b <= 126 && c != "," && c != "=" && (at < size-1 || c != " ")
				if may(t, "k", value) != want {
					t.Errorf("value %q: %v", value, !want)
				}
			}
		}
	}
	for size := range 140 {
		if want := size >= 1 && size <= 64; may(t, "k", strings.Repeat("V", size)) != want {
			t.Errorf("value of %d bytes: %v", size, !want)
		}
		if may(t, "k", strings.Repeat(" ", size)) {
			t.Errorf("value of %d blanks may be", size)
		}
	}
	for value, want := range map[string]bool{" a": true, "  !": true, "a  b": true, strings.Repeat(" ", 63) + "~": true, strings.Repeat(" ", 64) + "~": false, "": false, " ": false, "a ": false, "a\t": false, "\ta": false, "a,b": false, "a=b": false, "=": false, "é": false, "\x7f": false} {
		if may(t, "k", value) != want {
			t.Errorf("value %q: %v", value, !want)
		}
	}
}

// P8.1: of a member the form is told ahead of a key that came already, and that ahead of too many; of two members the first one's fault.
func TestCheck(t *testing.T) {
	for i, x := range []struct {
		l    []api.Member
		want api.Errno
	}{
		{nil, api.OK},
		{[]api.Member{}, api.OK},
		{list("a:1"), api.OK},
		{list("a:1", "b:1", "0: 2"), api.OK},
		{list(strings.Repeat("k", 32) + ":" + strings.Repeat("v", 64)), api.OK},
		{list("a:1", "a:1"), api.ErrTwice},
		{list("a:1", "b:1", "a:2"), api.ErrTwice},
		{list("a:1", "b:1", "b:2"), api.ErrTwice},
		{list("a:1", "a:"), api.ErrForm},
		{list("a:1", "a:2", "b:"), api.ErrTwice},
		{list("a:1", "b:", "a:2"), api.ErrForm},
		{list("A:1", "A:1"), api.ErrForm},
		{list(":"), api.ErrForm},
		{make([]api.Member, 1000), api.ErrForm},
		{many(31), api.OK},
		{many(32), api.OK},
		{many(33), api.ErrFull},
		{many(1000), api.ErrFull},
		{behind(many(31), "k0:1"), api.ErrTwice},
		{behind(many(32), "k0:1"), api.ErrTwice},
		{behind(many(32), "k31:1"), api.ErrTwice},
		{behind(many(32), "k0:"), api.ErrForm},
		{behind(many(32), "K:1"), api.ErrForm},
		{behind(many(32), "k: "), api.ErrForm},
		{behind(behind(many(32), "k32:1"), "k0:1"), api.ErrFull},
		{behind(behind(many(32), "k32:1"), "K:1"), api.ErrFull},
		{behind(behind(many(32), "K:1"), "k32:1"), api.ErrForm},
	} {
		if e := tstate.Check(x.l); e != x.want {
			t.Errorf("%d: Check(%q) = %v; want %v", i, x.l, e, x.want)
		}
		hold(t, x.l)
	}
}

// P8.1: all lists of up to four of these members.
func TestCheckAll(t *testing.T) {
	lists := [][]api.Member{nil}
	for from := 0; len(lists[from]) < 4; from++ {
		for _, s := range []string{"a:1", "a:2", "b: 1", "a:", "B:1", "b:x "} {
			lists = append(lists, behind(lists[from], s))
		}
	}
	for _, l := range lists {
		hold(t, l)
	}
}

// P8.1: the members, with a comma between two.
func TestWrite(t *testing.T) {
	for _, x := range []struct {
		l    []api.Member
		want string
	}{
		{nil, ""},
		{[]api.Member{}, ""},
		{list("a:1"), "a=1"},
		{list("a:1", "b:2"), "a=1,b=2"},
		{list("b:2", "a:1"), "b=2,a=1"},
		{list("a: 1", "b@x:!~", "0_-*/:;"), "a= 1,b@x=!~,0_-*/=;"},
		{many(4), "k0=0,k1=1,k2=2,k3=3"},
	} {
		if s, e := tstate.Write(x.l); s != x.want || e != api.OK {
			t.Errorf("Write(%q) = %q, %v; want %q", x.l, s, e, x.want)
		}
	}
}

// P8.2: members between commas, without blanks and tabs around.
func TestRead(t *testing.T) {
	for _, x := range []struct {
		s    string
		want []api.Member
		e    api.Errno
	}{
		{" a=1 ,, b=2", list("a:1", "b:2"), api.OK},
		{"", nil, api.OK},
		{",", nil, api.OK},
		{" \t,\t ,,", nil, api.OK},
		{"a=1", list("a:1"), api.OK},
		{"\t a=1\t ,", list("a:1"), api.OK},
		{",a=1", list("a:1"), api.OK},
		{"a= 1", list("a: 1"), api.OK},
		{"a=1  2", list("a:1  2"), api.OK},
		{"b=1,a=1,c=1", list("b:1", "a:1", "c:1"), api.OK},
		{"a@b=x:y/z", []api.Member{{Key: "a@b", Value: "x:y/z"}}, api.OK},
		{"a", nil, api.ErrForm},
		{"a=", nil, api.ErrForm},
		{"a= ", nil, api.ErrForm},
		{"a=\t", nil, api.ErrForm},
		{"a=\t1", nil, api.ErrForm},
		{"a =1", nil, api.ErrForm},
		{"a\t=1", nil, api.ErrForm},
		{"=1", nil, api.ErrForm},
		{"=", nil, api.ErrForm},
		{"a==1", nil, api.ErrForm},
		{"a=1=", nil, api.ErrForm},
		{"a=1\n", nil, api.ErrForm},
		{"\na=1", nil, api.ErrForm},
		{"\r", nil, api.ErrForm},
		{"\x00", nil, api.ErrForm},
		{"a=1;b=2", nil, api.ErrForm},
		{"a=\xff", nil, api.ErrForm},
		{"a=1,b", nil, api.ErrForm},
		{"a=1,a=1", nil, api.ErrTwice},
		{"a=1, ,\ta=2", nil, api.ErrTwice},
		{"a=1,a", nil, api.ErrForm},
		{"a=1,a=", nil, api.ErrForm},
		{"a=1,a=2,b", nil, api.ErrTwice},
		{"a=1,b,a=2", nil, api.ErrForm},
		{"a=1 b=2", nil, api.ErrForm},
	} {
		want := x.want
		if x.e != api.OK {
			want = nil
		}
		if l, e := tstate.Read(x.s); !slices.Equal(l, want) || e != x.e {
			t.Errorf("Read(%q) = %q, %v; want %q, %v", x.s, l, e, want, x.e)
		}
		holdText(t, x.s)
	}
}

// P8.2: 32 members may be; those without any byte count for nothing; a fault ahead of the 33rd one, or of its own, is told.
func TestReadFull(t *testing.T) {
	full := text(many(32))
	for _, x := range []struct {
		s string
		e api.Errno
	}{
		{full, api.OK},
		{full + ",", api.OK},
		{full + strings.Repeat(", ", 1000), api.OK},
		{strings.Repeat(",\t", 1000) + "," + full, api.OK},
		{strings.ReplaceAll(full, ",", " ,\t, , "), api.OK},
		{full + ",k32=1", api.ErrFull},
		{full + ",k32=1,b", api.ErrFull},
		{full + ",k32=1,k0=1", api.ErrFull},
		{full + ", ,k0=1", api.ErrTwice},
		{full + ",k31=1,k32=1", api.ErrTwice},
		{full + ",k0", api.ErrForm},
		{full + ",k0=", api.ErrForm},
		{full + ",K=1,k32=1", api.ErrForm},
		{text(many(1000)), api.ErrFull},
	} {
		want := many(32)
		if x.e != api.OK {
			want = nil
		}
		if l, e := tstate.Read(x.s); !slices.Equal(l, want) || e != x.e {
			t.Errorf("Read(%.300q) = %q, %v; want %v", x.s, l, e, x.e)
		}
		holdText(t, x.s)
	}
}

// P8.2: all texts of a few bytes.
func TestReadAll(t *testing.T) {
	texts := []string{""}
	for from := 0; len(texts[from]) < 6; from++ {
		for _, c := range []string{"a", "b", "=", ",", " ", "\t"} {
			texts = append(texts, texts[from]+c)
		}
	}
	for _, s := range texts {
		holdText(t, s)
		holdText(t, "a=1,"+s)
		holdText(t, "c=1 ,"+s+",a=1")
	}
}

// P8.2: each byte at each place of a text.
func TestReadBytes(t *testing.T) {
	const ground = " ab=1 2 ,\t\t,c@=3\t"
	for at := range len(ground) {
		for b := range 256 {
			c := string([]byte{byte(b)})
			holdText(t, ground[:at]+c+ground[at+1:])
			holdText(t, ground[:at]+c+ground[at:])
		}
	}
}

// P8.3: the first value of a key, byte by byte; nothing is checked.
func TestGet(t *testing.T) {
	l := list("a:1", "b:", "a:2", ":x", "A:3", "b:4", "\xff: ")
	for key, want := range map[string]string{"a": "1", "b": "", "": "x", "A": "3", "\xff": " "} {
		if v, ok := tstate.Get(l, key); v != want || !ok {
			t.Errorf("Get(%q) = %q, %v; want %q", key, v, ok, want)
		}
	}
	for _, key := range []string{"c", "B", "aa", "a ", " a", "\x00", "é"} {
		if v, ok := tstate.Get(l, key); v != "" || ok {
			t.Errorf("Get(%q) = %q, %v; want none", key, v, ok)
		}
	}
	for _, none := range [][]api.Member{nil, {}} {
		if v, ok := tstate.Get(none, ""); v != "" || ok {
			t.Errorf("Get of no list = %q, %v", v, ok)
		}
	}
	if v, ok := tstate.Get(many(1000), "k999"); v != "999" || !ok {
		t.Errorf("Get of the last one = %q, %v", v, ok)
	}
}

// P8.3: the new one first; of l those of another key, as far as there is room, whether they may be or not.
func TestPut(t *testing.T) {
	for i, x := range []struct {
		l          []api.Member
		key, value string
		want       []api.Member
	}{
		{nil, "a", "1", list("a:1")},
		{list("a:1"), "a", "2", list("a:2")},
		{list("a:1", "b:2"), "c", "3", list("c:3", "a:1", "b:2")},
		{list("a:1", "b:2", "c:3"), "b", "9", list("b:9", "a:1", "c:3")},
		{list("a:1", "b:2", "a:3", "a:4"), "a", "9", list("a:9", "b:2")},
		{list("b:1", "b:2", "A:", ":"), "a", " 9", list("a: 9", "b:1", "b:2", "A:", ":")},
		{many(31), "n", "1", append(list("n:1"), many(31)...)},
		{many(32), "n", "1", append(list("n:1"), many(31)...)},
		{many(33), "n", "1", append(list("n:1"), many(31)...)},
		{many(1000), "n", "1", append(list("n:1"), many(31)...)},
		{many(32), "k31", "1", append(list("k31:1"), many(31)...)},
		{many(32), "k0", "1", append(list("k0:1"), many(32)[1:]...)},
		{many(33), "k0", "1", append(list("k0:1"), many(32)[1:]...)},
		{many(34), "k5", "1", append(list("k5:1"), slices.Delete(many(32), 5, 6)...)},
		{many(1000), "k999", "1", append(list("k999:1"), many(31)...)},
		{slices.Repeat(list("x:1"), 40), "a", "1", append(list("a:1"), slices.Repeat(list("x:1"), 31)...)},
		{slices.Repeat(list("x:1"), 40), "x", "2", list("x:2")},
		{append(slices.Repeat(list("x:1"), 40), many(40)...), "x", "2", append(list("x:2"), many(31)...)},
	} {
		before := slices.Clone(x.l)
		if l, e := tstate.Put(x.l, x.key, x.value); !slices.Equal(l, x.want) || e != api.OK {
			t.Errorf("%d: Put(%q, %q) = %q, %v; want %q", i, x.key, x.value, l, e, x.want)
		}
		if !slices.Equal(x.l, before) {
			t.Errorf("%d: Put changed its list: %q; was %q", i, x.l, before)
		}
	}
}

// P8.3: a key or a value that may not be, whatever the list is.
func TestPutForm(t *testing.T) {
	for _, l := range [][]api.Member{nil, list("a:1"), list(":"), many(32), many(40)} {
		for _, m := range list(":1", "A:1", "_:1", "a b:1", "a:", "a: ", "a:x ", "a:x,y", "a:=", "a:\n", ":", strings.Repeat("k", 33)+":1", "a:"+strings.Repeat("v", 65)) {
			if out, e := tstate.Put(l, m.Key, m.Value); len(out) != 0 || e != api.ErrForm {
				t.Errorf("Put(%q, %q) = %q, %v; want ErrForm", m.Key, m.Value, out, e)
			}
		}
	}
}

// P8.3: what is answered shares no memory with the list that was handed in, nor with what lies behind it.
func TestPutShares(t *testing.T) {
	room := append(many(3), list("x:9", "x:9")...)
	for _, key := range []string{"n", "k0", "k1", "k2"} {
		out, _ := tstate.Put(room[:3], key, "1")
		again, _ := tstate.Put(room[:3], key, "1")
		for i := range out {
			out[i] = api.Member{}
		}
		_ = append(out, api.Member{Key: "y"})
		if want := append(many(3), list("x:9", "x:9")...); !slices.Equal(room, want) {
			t.Fatalf("the list is now %q", room)
		}
		if len(again) == 0 || again[0] != (api.Member{Key: key, Value: "1"}) {
			t.Errorf("a later answer is now %q", again)
		}
		room[1].Value = "9"
		if v, ok := tstate.Get(again, "k1"); key != "k1" && (v != "1" || !ok) {
			t.Errorf("what was handed in is kept: %q", again)
		}
		room[1].Value = "1"
	}
}

// P8.4: what was written is read as it was; written again it is the same text.
func TestReadOfWrite(t *testing.T) {
	for _, l := range [][]api.Member{
		nil, list("a:1"), list("a: 1", "b:2"), list("0_-*/@:!~ ;x", "z: . ."), many(32),
		list(strings.Repeat("k", 32)+":"+strings.Repeat("v", 64), "a:"+strings.Repeat(" ", 63)+"v"),
	} {
		s, e := tstate.Write(l)
		if e != api.OK {
			t.Fatalf("Write(%q): %v", l, e)
		}
		for _, spaced := range []string{s, " " + s + "\t", "," + strings.ReplaceAll(s, ",", "\t, ,") + ","} {
			got, e := tstate.Read(spaced)
			if !slices.Equal(got, l) || e != api.OK {
				t.Fatalf("Read(%q) = %q, %v; want %q", spaced, got, e, l)
			}
			if back, e := tstate.Write(got); back != s || e != api.OK {
				t.Fatalf("Write(%q) = %q, %v; want %q", got, back, e, s)
			}
		}
	}
}

// P8.4: of what may be, Put gives what may be; the new one stands first, all others in their order.
func TestPutOften(t *testing.T) {
	var l, want []api.Member
	for i := range 500 {
		m := api.Member{Key: "k" + strconv.Itoa(i*i%47), Value: strconv.Itoa(i)}
		want = slices.DeleteFunc(want, func(x api.Member) bool { return x.Key == m.Key })
		want = append([]api.Member{m}, want...)
		want = want[:min(len(want), 32)]
		var e api.Errno
		if l, e = tstate.Put(l, m.Key, m.Value); e != api.OK || !slices.Equal(l, want) {
			t.Fatalf("Put %d = %q, %v; want %q", i, l, e, want)
		}
		if e := tstate.Check(l); e != api.OK {
			t.Fatalf("Check behind Put %d: %v", i, e)
		}
		if v, ok := tstate.Get(l, m.Key); v != m.Value || !ok {
			t.Fatalf("Get behind Put %d = %q, %v", i, v, ok)
		}
	}
	if l, e := tstate.Put(many(40), "n", "1"); e != api.OK || tstate.Check(l) != api.OK {
		t.Errorf("Put into 40 = %q, %v", l, e)
	}
}
