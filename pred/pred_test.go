package pred_test

import (
	"math"
	"regexp"
	"slices"
	"strconv"
	"strings"
	"testing"

	"periscope/api"
	"periscope/pred"
)

var (
	methodForm = regexp.MustCompile(`\A[A-Z]{1,8}\z`)
	nameForm   = regexp.MustCompile(`\A[a-z0-9-]{1,32}\z`)
	pathForm   = regexp.MustCompile(`\A/[!-~]{0,63}\z`)
	valueForm  = regexp.MustCompile(`\A([!-~]|[!-~][ -~]{0,62}[!-~]|)\z`)
)

// kinds has the six, and numbers that are none of them.
func kinds() []int {
	return []int{1, 2, 3, 4, 5, 6, 0, 7, 8, -1, -5, 100, 1<<32 + 1, math.MinInt, math.MinInt + 1, math.MaxInt}
}

// text tells l where a test fails.
func text(l ...api.Pred) string {
	s := ""
	for _, p := range l {
		s += "[" + strconv.Itoa(p.Kind) + " " + strconv.Quote(p.Name) + " " + strconv.Quote(p.Value) + "]"
	}
	return s
}

// fault is what Check must answer of p.
func fault(p api.Pred) api.Errno {
	switch {
	case p.Kind < 1 || p.Kind > 6, p.Kind <= 4 && p.Name != "", p.Kind == 6 && p.Value != "":
		return api.ErrArg
	case p.Kind == 1 && !methodForm.MatchString(p.Value):
		return api.ErrForm
	case p.Kind == 2 && !nameForm.MatchString(p.Value):
		return api.ErrName
	case (p.Kind == 3 || p.Kind == 4) && !pathForm.MatchString(p.Value):
		return api.ErrRange
	case p.Kind >= 5 && !nameForm.MatchString(p.Name):
		return api.ErrName
	case p.Kind == 5 && !valueForm.MatchString(p.Value):
		return api.ErrText
	}
	return api.OK
}

func hold(t *testing.T, p api.Pred) {
	t.Helper()
	if e := pred.Check(p); e != fault(p) {
		t.Errorf("Check(%.300s) = %v; want %v", text(p), e, fault(p))
	}
}

// P11.1: each error of each kind.
func TestCheck(t *testing.T) {
	long := func(s string, n int) string { return strings.Repeat(s, n) }
	for _, x := range []struct {
		p    api.Pred
		want api.Errno
	}{
		{api.Pred{}, api.ErrArg},
		{api.Pred{Kind: 7, Name: "k"}, api.ErrArg},
		{api.Pred{Kind: -1, Value: "GET"}, api.ErrArg},
		{api.Pred{Kind: api.PredMethod, Value: "GET"}, api.OK},
		{api.Pred{Kind: api.PredMethod, Value: "ABCDEFGH"}, api.OK},
		{api.Pred{Kind: api.PredMethod, Value: "ABCDEFGHI"}, api.ErrForm},
		{api.Pred{Kind: api.PredMethod, Value: ""}, api.ErrForm},
		{api.Pred{Kind: api.PredMethod, Value: "get"}, api.ErrForm},
		{api.Pred{Kind: api.PredMethod, Value: "GET "}, api.ErrForm},
		{api.Pred{Kind: api.PredMethod, Name: "k", Value: "GET"}, api.ErrArg},
		{api.Pred{Kind: api.PredMethod, Name: "k", Value: "get"}, api.ErrArg},
		{api.Pred{Kind: api.PredHost, Value: "a-0"}, api.OK},
		{api.Pred{Kind: api.PredHost, Value: long("h", 32)}, api.OK},
		{api.Pred{Kind: api.PredHost, Value: long("h", 33)}, api.ErrName},
		{api.Pred{Kind: api.PredHost, Value: ""}, api.ErrName},
		{api.Pred{Kind: api.PredHost, Value: "A"}, api.ErrName},
		{api.Pred{Kind: api.PredHost, Name: "a"}, api.ErrArg},
		{api.Pred{Kind: api.PredExact, Value: "/"}, api.OK},
		{api.Pred{Kind: api.PredExact, Value: "/" + long("p", 63)}, api.OK},
		{api.Pred{Kind: api.PredExact, Value: "/" + long("p", 64)}, api.ErrRange},
		{api.Pred{Kind: api.PredExact, Value: ""}, api.ErrRange},
		{api.Pred{Kind: api.PredExact, Value: "a/"}, api.ErrRange},
		{api.Pred{Kind: api.PredExact, Value: "/a b"}, api.ErrRange},
		{api.Pred{Kind: api.PredExact, Name: "/", Value: "/"}, api.ErrArg},
		{api.Pred{Kind: api.PredPrefix, Value: "/"}, api.OK},
		{api.Pred{Kind: api.PredPrefix, Value: "/" + long("p", 63)}, api.OK},
		{api.Pred{Kind: api.PredPrefix, Value: "/" + long("p", 64)}, api.ErrRange},
		{api.Pred{Kind: api.PredPrefix, Value: ""}, api.ErrRange},
		{api.Pred{Kind: api.PredPrefix, Value: "a"}, api.ErrRange},
		{api.Pred{Kind: api.PredPrefix, Name: " ", Value: ""}, api.ErrArg},
		{api.Pred{Kind: api.PredHead, Name: "k", Value: "v w"}, api.OK},
		{api.Pred{Kind: api.PredHead, Name: "k", Value: ""}, api.OK},
		{api.Pred{Kind: api.PredHead, Name: long("k", 32), Value: long("v", 64)}, api.OK},
		{api.Pred{Kind: api.PredHead, Name: long("k", 33), Value: "v"}, api.ErrName},
		{api.Pred{Kind: api.PredHead, Name: "k", Value: long("v", 65)}, api.ErrText},
		{api.Pred{Kind: api.PredHead, Name: "k", Value: " v"}, api.ErrText},
		{api.Pred{Kind: api.PredHead, Name: "K", Value: " v"}, api.ErrName},
		{api.Pred{Kind: api.PredHead, Value: "v"}, api.ErrName},
		{api.Pred{Kind: api.PredHead}, api.ErrName},
		{api.Pred{Kind: api.PredHas, Name: "k"}, api.OK},
		{api.Pred{Kind: api.PredHas, Name: long("k", 32)}, api.OK},
		{api.Pred{Kind: api.PredHas, Name: long("k", 33)}, api.ErrName},
		{api.Pred{Kind: api.PredHas}, api.ErrName},
		{api.Pred{Kind: api.PredHas, Name: "k", Value: "v"}, api.ErrArg},
		{api.Pred{Kind: api.PredHas, Name: "K", Value: " "}, api.ErrArg},
	} {
		if e := pred.Check(x.p); e != x.want {
			t.Errorf("Check(%.300s) = %v; want %v", text(x.p), e, x.want)
		}
		hold(t, x.p)
	}
}

// P11.1: all kinds with all these names and values, so that each error meets each other one.
func TestCheckAll(t *testing.T) {
	texts := []string{"", "a", "a-0", "A", "GET", "get", "/", "/a", "a/", "//", "v w", " ", " v", "v ", "\n", "é", "\xff", "\x00", "a\x00",
		strings.Repeat("A", 8), strings.Repeat("A", 9), strings.Repeat("a", 32), strings.Repeat("a", 33), strings.Repeat("V", 64), strings.Repeat("V", 65),
		strings.Repeat("/", 64), strings.Repeat("/", 65), strings.Repeat("a", 100000)}
	for _, kind := range kinds() {
		for _, name := range texts {
			for _, value := range texts {
				hold(t, api.Pred{Kind: kind, Name: name, Value: value})
			}
		}
	}
}

// P11.1: each byte at each place.
func TestCheckBytes(t *testing.T) {
	for b := range 256 {
		c := string([]byte{byte(b)})
		for _, ground := range []string{"A", "ABC", "a", "abc", "/", "/ab", "/" + strings.Repeat("p", 63), strings.Repeat("h", 32)} {
			for at := range len(ground) {
				s := ground[:at] + c + ground[at+1:]
				for _, kind := range kinds() {
					hold(t, api.Pred{Kind: kind, Value: s})
					hold(t, api.Pred{Kind: kind, Name: s})
					hold(t, api.Pred{Kind: kind, Name: "k", Value: s})
				}
			}
		}
	}
}

// heads has a header for each text: its name, a colon, its value.
func heads(texts ...string) []api.Head {
	var l []api.Head
	for _, s := range texts {
		name, value, _ := strings.Cut(s, ":")
		l = append(l, api.Head{Name: name, Value: value})
	}
	return l
}

// P11.2: what each kind matches, and what it does not.
func TestMatch(t *testing.T) {
	q := api.Request{Method: "GET", Host: "a", Path: "/ab/c", Heads: heads("k:v", "l:", "k:w", "m:k"), Body: "PUT"}
	for _, x := range []struct {
		kind        int
		name, value string
		want        bool
	}{
		{api.PredMethod, "", "GET", true},
		{api.PredMethod, "", "GE", false},
		{api.PredMethod, "", "GETS", false},
		{api.PredMethod, "", "get", false},
		{api.PredMethod, "", "PUT", false},
		{api.PredMethod, "", "a", false},
		{api.PredMethod, "", "", false},
		{api.PredHost, "", "a", true},
		{api.PredHost, "", "A", false},
		{api.PredHost, "", "ab", false},
		{api.PredHost, "", "", false},
		{api.PredHost, "", "GET", false},
		{api.PredExact, "", "/ab/c", true},
		{api.PredExact, "", "/ab", false},
		{api.PredExact, "", "/ab/cd", false},
		{api.PredExact, "", "/ab/c/", false},
		{api.PredExact, "", "/AB/C", false},
		{api.PredExact, "", "", false},
		{api.PredPrefix, "", "/ab/c", true},
		{api.PredPrefix, "", "/ab", true},
		{api.PredPrefix, "", "/a", true},
		{api.PredPrefix, "", "/", true},
		{api.PredPrefix, "", "", true},
		{api.PredPrefix, "", "/ab/cd", false},
		{api.PredPrefix, "", "/b", false},
		{api.PredPrefix, "", "ab", false},
		{api.PredPrefix, "", "/A", false},
		{api.PredPrefix, "", "b/c", false},
		{api.PredHead, "k", "v", true},
		{api.PredHead, "k", "w", true},
		{api.PredHead, "l", "", true},
		{api.PredHead, "m", "k", true},
		{api.PredHead, "k", "", false},
		{api.PredHead, "k", "vw", false},
		{api.PredHead, "k", "V", false},
		{api.PredHead, "k", "k", false},
		{api.PredHead, "l", "v", false},
		{api.PredHead, "K", "v", false},
		{api.PredHead, "", "v", false},
		{api.PredHead, "v", "k", false},
		{api.PredHead, "n", "", false},
		{api.PredHas, "k", "", true},
		{api.PredHas, "l", "", true},
		{api.PredHas, "m", "", true},
		{api.PredHas, "K", "", false},
		{api.PredHas, "v", "", false},
		{api.PredHas, "kk", "", false},
		{api.PredHas, "", "", false},
		{0, "k", "v", false},
		{7, "k", "", false},
		{-1, "", "GET", false},
		{math.MinInt, "", "", false},
		{math.MaxInt, "", "", false},
	} {
		p := api.Pred{Kind: x.kind, Name: x.name, Value: x.value}
		if pred.Match(p, q) != x.want {
			t.Errorf("Match(%s) = %v", text(p), !x.want)
		}
	}
}

// P11.2: nothing is checked, neither of what is asked for nor of the request; what a kind does not ask for is not looked at.
func TestMatchUnchecked(t *testing.T) {
	for _, s := range []string{"", " ", "\n", "A", "a\x00b", "\xff", "é", strings.Repeat("x", 1000)} {
		q := api.Request{Method: s, Host: s, Path: s, Heads: heads("z:z")}
		q.Heads = append(q.Heads, api.Head{Name: s, Value: s})
		for kind := api.PredMethod; kind <= api.PredHas; kind++ {
			for _, other := range []string{"", "other"} {
				p := api.Pred{Kind: kind, Name: other, Value: s}
				if kind == api.PredHead {
					p.Name = s
				}
				if kind == api.PredHas {
					p.Name, p.Value = s, other
				}
				if !pred.Match(p, q) {
					t.Errorf("Match(%.300s) = false", text(p))
				}
			}
		}
	}
}

// P11.2: of a request without anything.
func TestMatchNothing(t *testing.T) {
	for _, kind := range kinds() {
		for _, p := range []api.Pred{{Kind: kind}, {Kind: kind, Name: "k", Value: "v"}, {Kind: kind, Value: "/"}, {Kind: kind, Name: "k"}} {
			want := p.Value == "" && kind >= api.PredMethod && kind <= api.PredPrefix
			if pred.Match(p, api.Request{}) != want {
				t.Errorf("Match(%s) of nothing = %v", text(p), !want)
			}
		}
	}
}

// some has predicates of all kinds, and one of none.
func some() []api.Pred {
	return []api.Pred{
		{Kind: api.PredMethod, Value: "GET"}, {Kind: api.PredHost, Value: "a"}, {Kind: api.PredExact, Value: "/ab"}, {Kind: api.PredPrefix, Value: "/a"},
		{Kind: api.PredHead, Name: "k", Value: "v"}, {Kind: api.PredHas, Name: "k"}, {Kind: api.PredHas, Name: "l"}, {Kind: 0},
	}
}

// requests has requests of which each predicate of some, but for the last one, matches some and does not match others.
func requests() []api.Request {
	var l []api.Request
	for _, method := range []string{"GET", "PUT"} {
		for _, host := range []string{"a", "b"} {
			for _, path := range []string{"/", "/a", "/ab", "/abc"} {
				for _, h := range [][]api.Head{nil, heads("k:w"), heads("k:v"), heads("k:w", "l:", "k:v")} {
					l = append(l, api.Request{Method: method, Host: host, Path: path, Heads: h})
				}
			}
		}
	}
	return l
}

// choices has all lists of some of l, in their order.
func choices(l []api.Pred) [][]api.Pred {
	out := [][]api.Pred{nil}
	for _, p := range l {
		for _, c := range out {
			out = append(out, append(slices.Clone(c), p))
		}
	}
	return out
}

// P11.2, P11.3: all must match; with one more, wherever it stands, no more requests match.
func TestAll(t *testing.T) {
	for _, q := range requests() {
		if !pred.All(nil, q) || !pred.All([]api.Pred{}, q) {
			t.Errorf("All of none, of %q = false", q)
		}
		for _, l := range choices(some()) {
			want := true
			for _, p := range l {
				want = want && pred.Match(p, q)
			}
			if pred.All(l, q) != want {
				t.Fatalf("All(%s, %q) = %v", text(l...), q, !want)
			}
			for at := range len(l) + 1 {
				for _, p := range some() {
					if pred.All(slices.Insert(slices.Clone(l), at, p), q) && !want {
						t.Fatalf("of %q all match with %s, but not without", q, text(p))
					}
				}
			}
		}
	}
}

// P11.2: how many requests each of some matches.
func TestMatchMany(t *testing.T) {
	for i, want := range []int{32, 32, 16, 48, 32, 48, 16, 0} {
		p, count := some()[i], 0
		for _, q := range requests() {
			if pred.Match(p, q) {
				count++
			}
		}
		if count != want {
			t.Errorf("%s matches %d requests; want %d", text(p), count, want)
		}
	}
}

// P11.3: a path that is matched exactly is matched by each beginning of it, and by no other text of its bytes.
func TestPrefixOfExact(t *testing.T) {
	for _, path := range []string{"/", "//", "/ab", "/a/b?c", "/" + strings.Repeat("p", 63), "", "x", "/\xff\x00"} {
		q := api.Request{Path: path}
		if !pred.Match(api.Pred{Kind: api.PredExact, Value: path}, q) {
			t.Errorf("path %q is not matched exactly", path)
		}
		for size := range len(path) + 1 {
			if !pred.Match(api.Pred{Kind: api.PredPrefix, Value: path[:size]}, q) {
				t.Errorf("path %q is not matched by %q", path, path[:size])
			}
			if pred.Match(api.Pred{Kind: api.PredPrefix, Value: path[:size] + "\x01"}, q) {
				t.Errorf("path %q is matched by %q", path, path[:size]+"\x01")
			}
			if size < len(path) && pred.Match(api.Pred{Kind: api.PredExact, Value: path[:size]}, q) {
				t.Errorf("path %q is matched exactly by %q", path, path[:size])
			}
		}
	}
}

// P11.2 under the rules 4 and 5: lists that are handed in stay as they are, and are not kept.
func TestApart(t *testing.T) {
	q := api.Request{Method: "GET", Host: "a", Path: "/ab", Heads: heads("k:w", "l:", "k:v")}
	l := some()
	for _, p := range l {
		pred.Match(p, q)
		pred.Check(p)
	}
	pred.All(l, q)
	if !slices.Equal(l, some()) || !slices.Equal(q.Heads, heads("k:w", "l:", "k:v")) {
		t.Errorf("what was handed in is %s, %q", text(l...), q.Heads)
	}
	has := api.Pred{Kind: api.PredHas, Name: "k"}
	clear(q.Heads)
	if pred.Match(has, q) || pred.All([]api.Pred{has}, q) {
		t.Error("headers that are gone are matched")
	}
}
