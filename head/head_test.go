package head_test

import (
	"slices"
	"strings"
	"testing"

	"periscope/api"
	"periscope/head"
)

// list has a header for each text: its name, a colon, its value.
func list(texts ...string) []api.Head {
	var l []api.Head
	for _, s := range texts {
		name, value, _ := strings.Cut(s, ":")
		l = append(l, api.Head{Name: name, Value: value})
	}
	return l
}

// lists has all lists of up to so many headers with the names a and b and one that may not be; each header has a value of its own.
func lists(most int) [][]api.Head {
	out := [][]api.Head{nil}
	for from := 0; len(out[from]) < most; from++ {
		for _, name := range []string{"a", "b", ""} {
			value := string([]byte{byte('0' + len(out[from]))})
			out = append(out, append(slices.Clone(out[from]), api.Head{Name: name, Value: value}))
		}
	}
	return out
}

// P4.1: which names may be.
func TestName(t *testing.T) {
	const may = "abcdefghijklmnopqrstuvwxyz0123456789-"
	for b := range 256 {
		c := string([]byte{byte(b)})
		want := strings.Contains(may, c)
		for _, s := range []string{c, c + "ab", "a" + c + "b", "ab" + c, strings.Repeat("a", 31) + c, c + strings.Repeat("a", 31)} {
			if head.Name(s) != want {
				t.Errorf("Name(%q) = %v", s, !want)
			}
		}
	}
	for size, want := range map[int]bool{0: false, 1: true, 2: true, 31: true, 32: true, 33: false, 34: false, 64: false, 1000: false} {
		if head.Name(strings.Repeat("x", size)) != want {
			t.Errorf("Name of %d bytes = %v", size, !want)
		}
	}
	for s, want := range map[string]bool{"-": true, "--": true, "-a-": true, "0": true, "x-1": true, "Host": false, "é": false, "ａ": false, "a:b": false, "a ": false} {
		if head.Name(s) != want {
			t.Errorf("Name(%q) = %v", s, !want)
		}
	}
}

// P4.1: which values may be.
func TestValue(t *testing.T) {
	for b := range 256 {
		c := string([]byte{byte(b)})
		within := 32 <= b && b <= 126
		for _, s := range []string{"a" + c + "b", "a " + c + " b", "a" + c + c + "b"} {
			if head.Value(s) != within {
				t.Errorf("Value(%q) = %v", s, !within)
			}
		}
		for _, s := range []string{c, c + "ab", "ab" + c, c + c, c + strings.Repeat("a", 63), strings.Repeat("a", 63) + c} {
			if want := within && b != 32; head.Value(s) != want {
				t.Errorf("Value(%q) = %v", s, !want)
			}
		}
	}
	for size, want := range map[int]bool{0: true, 1: true, 33: true, 63: true, 64: true, 65: false, 66: false, 128: false, 1000: false} {
		if head.Value(strings.Repeat("X", size)) != want {
			t.Errorf("Value of %d bytes = %v", size, !want)
		}
	}
	for s, want := range map[string]bool{"a  b": true, "!~": true, " ": false, "  ": false, " a ": false, "a\n": false, "a\tb": false, "é": false} {
		if head.Value(s) != want {
			t.Errorf("Value(%q) = %v", s, !want)
		}
	}
}

// P4.1: too many headers are told first; then the first header's fault, its name ahead of its value.
func TestCheck(t *testing.T) {
	many := func(n int, h api.Head) []api.Head { return slices.Repeat([]api.Head{h}, n) }
	good := api.Head{Name: "a", Value: "1"}
	for _, x := range []struct {
		l    []api.Head
		want api.Errno
	}{
		{nil, api.OK},
		{[]api.Head{}, api.OK},
		{list("a:", "b:x y"), api.OK},
		{list("a:1", "a:1", "a:2"), api.OK},
		{list(strings.Repeat("n", 32) + ":" + strings.Repeat("v", 64)), api.OK},
		{many(15, good), api.OK},
		{many(16, good), api.OK},
		{many(17, good), api.ErrFull},
		{many(18, good), api.ErrFull},
		{many(1000, good), api.ErrFull},
		{many(17, api.Head{}), api.ErrFull},
		{many(17, api.Head{Name: "a", Value: " "}), api.ErrFull},
		{many(16, api.Head{}), api.ErrName},
		{many(16, api.Head{Name: "a", Value: " "}), api.ErrText},
		{list(":"), api.ErrName},
		{list("A:1"), api.ErrName},
		{list("A: "), api.ErrName},
		{list("a: "), api.ErrText},
		{list("a:1\n"), api.ErrText},
		{list("a: ", "B:1"), api.ErrText},
		{list("B:1", "a: "), api.ErrName},
		{list("a:1", "b: ", "C: "), api.ErrText},
		{list("a:1", "C: ", "b: "), api.ErrName},
		{list(strings.Repeat("n", 33) + ":"), api.ErrName},
		{list("n:" + strings.Repeat("v", 65)), api.ErrText},
		{append(many(15, good), api.Head{Name: "a", Value: "\x7f"}), api.ErrText},
		{append(many(15, good), api.Head{Name: "a_b"}), api.ErrName},
	} {
		if e := head.Check(x.l); e != x.want {
			t.Errorf("Check(%q) = %v; want %v", x.l, e, x.want)
		}
	}
}

// P4.2: the first value of a name, and all of them; nothing is checked, and names are held byte by byte.
func TestGetAll(t *testing.T) {
	l := list("a:1", "b:2", "a:3", "A:4", ":5", "ab:", "a : x ", "a:1", ":")
	for _, x := range []struct {
		name string
		want []string
	}{
		{"a", []string{"1", "3", "1"}},
		{"b", []string{"2"}},
		{"A", []string{"4"}},
		{"", []string{"5", ""}},
		{"ab", []string{""}},
		{"a ", []string{" x "}},
		{"B", nil}, {"c", nil}, {"abc", nil}, {" a", nil}, {"1", nil}, {"\x00", nil},
	} {
		if all := head.All(l, x.name); !slices.Equal(all, x.want) {
			t.Errorf("All(%q) = %q; want %q", x.name, all, x.want)
		}
		first := ""
		if len(x.want) > 0 {
			first = x.want[0]
		}
		if v, ok := head.Get(l, x.name); v != first || ok != (len(x.want) > 0) {
			t.Errorf("Get(%q) = %q, %v; want %q", x.name, v, ok, first)
		}
	}
	if v, ok := head.Get(nil, ""); v != "" || ok || len(head.All(nil, "")) != 0 {
		t.Errorf("of none: %q, %v", v, ok)
	}
}

// P4.2: one behind all others, whatever is there already.
func TestAdd(t *testing.T) {
	for _, l := range lists(3) {
		for _, h := range list("a:1", "b:", ":", "A: ") {
			want := append(slices.Clone(l), h)
			if got := head.Add(l, h.Name, h.Value); !slices.Equal(got, want) {
				t.Errorf("Add(%q, %q, %q) = %q", l, h.Name, h.Value, got)
			}
		}
	}
	full := slices.Repeat(list("a:1"), api.MaxHeads)
	if got := head.Add(full, "a", "2"); len(got) != api.MaxHeads+1 || got[api.MaxHeads].Value != "2" {
		t.Errorf("Add to a full list = %q", got)
	}
}

// P4.2: the first one has the value, the others are gone; where there is none, it comes last.
func TestSet(t *testing.T) {
	for _, x := range []struct {
		l           []api.Head
		name, value string
		want        []api.Head
	}{
		{list("a:1", "b:2", "a:3"), "a", "4", list("a:4", "b:2")},
		{list("b:2", "a:1", "c:3", "a:4", "a:5", "d:6"), "a", "7", list("b:2", "a:7", "c:3", "d:6")},
		{list("a:1", "b:2"), "b", "", list("a:1", "b:")},
		{list("a:1", "b:2"), "c", "3", list("a:1", "b:2", "c:3")},
		{list("a:1"), "A", "2", list("a:1", "A:2")},
		{list("A:1", "aa:2"), "a", "3", list("A:1", "aa:2", "a:3")},
		{list("a:1", ":2", ":3"), "", " ", list("a:1", ": ")},
		{list("a:1", "a:1"), "a", "1", list("a:1")},
		{nil, "a", "1", list("a:1")},
		{nil, "", "", list(":")},
	} {
		if got := head.Set(x.l, x.name, x.value); !slices.Equal(got, x.want) {
			t.Errorf("Set(%q, %q, %q) = %q; want %q", x.l, x.name, x.value, got, x.want)
		}
	}
}

// P4.2: all that have one of the names are gone.
func TestWithout(t *testing.T) {
	l := list("a:1", "b:2", "a:3", "A:4", ":5", "c:6")
	for _, x := range []struct {
		names []string
		want  []api.Head
	}{
		{nil, l},
		{[]string{}, l},
		{[]string{"d"}, l},
		{[]string{"a"}, list("b:2", "A:4", ":5", "c:6")},
		{[]string{"A", "x"}, list("a:1", "b:2", "a:3", ":5", "c:6")},
		{[]string{""}, list("a:1", "b:2", "a:3", "A:4", "c:6")},
		{[]string{"c", "a"}, list("b:2", "A:4", ":5")},
		{[]string{"a", "c", "a"}, list("b:2", "A:4", ":5")},
		{[]string{"c", "", "A", "b", "a"}, nil},
	} {
		if got := head.Without(l, x.names...); !slices.Equal(got, x.want) {
			t.Errorf("Without(%q, %q) = %q; want %q", l, x.names, got, x.want)
		}
	}
	if got := head.Without(nil, "a", ""); len(got) != 0 {
		t.Errorf("Without of none = %q", got)
	}
}

// P4.3: behind Set there is just one of that name, with the value; all others stand as they stood.
func TestBehindSet(t *testing.T) {
	for _, l := range lists(5) {
		for _, name := range []string{"a", "b", "", "c"} {
			got := head.Set(l, name, "new")
			if all := head.All(got, name); !slices.Equal(all, []string{"new"}) {
				t.Errorf("Set(%q, %q): %q", l, name, got)
			}
			if !slices.Equal(head.Without(got, name), head.Without(l, name)) {
				t.Errorf("Set(%q, %q) = %q: others stand otherwise", l, name, got)
			}
			named := func(h api.Head) bool { return h.Name == name }
			at := slices.IndexFunc(l, named)
			if at < 0 {
				at = len(l)
			}
			if slices.IndexFunc(got, named) != at {
				t.Errorf("Set(%q, %q) = %q: at another place", l, name, got)
			}
		}
	}
}

// P4.3: behind Without there is none of these names, and all others stand as they stood.
func TestBehindWithout(t *testing.T) {
	for _, l := range lists(5) {
		for _, names := range [][]string{nil, {"a"}, {""}, {"b", "a"}, {"a", "", "b"}, {"c"}} {
			got := head.Without(l, names...)
			rest := l
			for _, h := range got {
				if slices.Contains(names, h.Name) {
					t.Errorf("Without(%q, %q) = %q", l, names, got)
				}
			}
			for len(rest) > 0 {
				if !slices.Contains(names, rest[0].Name) {
					if len(got) == 0 || got[0] != rest[0] {
						t.Fatalf("Without(%q, %q): others stand otherwise", l, names)
					}
					got = got[1:]
				}
				rest = rest[1:]
			}
			if len(got) != 0 {
				t.Errorf("Without(%q, %q) has too many", l, names)
			}
		}
	}
}

// P4.2 under the rules 4 and 5: lists that are handed in stay as they are, also behind their ends, and answers share nothing.
func TestApart(t *testing.T) {
	calls := map[string]func(l []api.Head) []api.Head{
		"Set first":   func(l []api.Head) []api.Head { return head.Set(l, "a", "9") },
		"Set last":    func(l []api.Head) []api.Head { return head.Set(l, "c", "9") },
		"Set none":    func(l []api.Head) []api.Head { return head.Set(l, "d", "9") },
		"Add":         func(l []api.Head) []api.Head { return head.Add(l, "a", "9") },
		"Without":     func(l []api.Head) []api.Head { return head.Without(l) },
		"Without one": func(l []api.Head) []api.Head { return head.Without(l, "a") },
		"Without c":   func(l []api.Head) []api.Head { return head.Without(l, "c") },
		"Without d":   func(l []api.Head) []api.Head { return head.Without(l, "d", "e") },
	}
	for name, call := range calls {
		whole := list("a:1", "b:2", "a:3", "c:4", "x:5", "y:6", "z:7")
		before := slices.Clone(whole)
		l := whole[:4]
		one, other := call(l), call(l)
		want := slices.Clone(other)
		for i := range one {
			one[i] = api.Head{Name: "w", Value: "w"}
		}
		_ = append(one, list("w:w", "w:w")...)
		if !slices.Equal(whole, before) {
			t.Errorf("%s: what was handed in is %q", name, whole)
		}
		if !slices.Equal(other, want) || !slices.Equal(call(l), want) {
			t.Errorf("%s: answers share memory: %q", name, other)
		}
		clear(whole)
		if !slices.Equal(other, want) {
			t.Errorf("%s: an answer hangs on what was handed in: %q", name, other)
		}
	}
}

// P4.2 under rule 4: the values that are answered share nothing.
func TestAllApart(t *testing.T) {
	l := list("a:1", "a:2", "a:3")
	one := head.All(l, "a")
	_ = append(one[:1], "w", "w", "w")
	one[0] = "w"
	if all := head.All(l, "a"); !slices.Equal(all, []string{"1", "2", "3"}) || !slices.Equal(l, list("a:1", "a:2", "a:3")) {
		t.Errorf("All = %q, of %q", all, l)
	}
	names := []string{"a", "b", "c"}
	head.Without(l, names[:2]...)
	if !slices.Equal(names, []string{"a", "b", "c"}) {
		t.Errorf("Without changed its names: %q", names)
	}
}
