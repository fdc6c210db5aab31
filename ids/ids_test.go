package ids_test

import (
	"math"
	"slices"
	"strings"
	"testing"

	"periscope/api"
	"periscope/ids"
)

const digits = "0123456789abcdef"

// edges has the least and greatest numbers of each count of bits, with others.
func edges() []uint64 {
	l := []uint64{0, 0x0123456789abcdef, 0xfedcba9876543210, math.MaxUint64}
	for bits := 1; bits < 64; bits += 3 {
		l = append(l, 1<<bits-1, 1<<bits, 1<<bits+1)
	}
	return l
}

// P6.1: Hi, then Lo, each in 16 digits.
func TestText(t *testing.T) {
	for _, x := range []struct {
		trace api.Trace
		want  string
	}{
		{api.Trace{Hi: 1, Lo: 2}, "00000000000000010000000000000002"},
		{api.Trace{}, "00000000000000000000000000000000"},
		{api.Trace{Hi: 1}, "00000000000000010000000000000000"},
		{api.Trace{Lo: 0xabc}, "00000000000000000000000000000abc"},
		{api.Trace{Hi: 0x0123456789abcdef, Lo: 0xfedcba9876543210}, "0123456789abcdeffedcba9876543210"},
		{api.Trace{Hi: math.MaxUint64, Lo: math.MaxUint64}, "ffffffffffffffffffffffffffffffff"},
	} {
		if s := ids.Text(x.trace); s != x.want {
			t.Errorf("Text(%x) = %q; want %q", x.trace, s, x.want)
		}
		want := api.OK
		if x.trace == (api.Trace{}) {
			want = api.ErrZero
		}
		if got, e := ids.Of(x.want); got != x.trace || e != want {
			t.Errorf("Of(%q) = %x, %v; want %x, %v", x.want, got, e, x.trace, want)
		}
	}
}

// P6.1: 16 digits of one number.
func TestSpanText(t *testing.T) {
	for _, x := range []struct {
		n    uint64
		want string
	}{
		{0, "0000000000000000"},
		{1, "0000000000000001"},
		{255, "00000000000000ff"},
		{1 << 63, "8000000000000000"},
		{0x0123456789abcdef, "0123456789abcdef"},
		{math.MaxUint64, "ffffffffffffffff"},
	} {
		if s := ids.SpanText(x.n); s != x.want {
			t.Errorf("SpanText(%d) = %q; want %q", x.n, s, x.want)
		}
		want := api.OK
		if x.n == 0 {
			want = api.ErrZero
		}
		if got, e := ids.SpanOf(x.want); got != x.n || e != want {
			t.Errorf("SpanOf(%q) = %d, %v; want %d, %v", x.want, got, e, x.n, want)
		}
	}
}

// P6.1: of all lengths just one may be, also where all digits are 0.
func TestOfLength(t *testing.T) {
	for size := range 70 {
		for _, s := range []string{strings.Repeat("0", size), strings.Repeat("1", size), strings.Repeat("f", size), strings.Repeat("g", size)} {
			want, wantSpan := api.ErrForm, api.ErrForm
			if size == 32 && s[0] != 'g' {
				want = api.OK
			}
			if size == 16 && s[0] != 'g' {
				wantSpan = api.OK
			}
			if size == 32 && s[0] == '0' {
				want = api.ErrZero
			}
			if size == 16 && s[0] == '0' {
				wantSpan = api.ErrZero
			}
			if got, e := ids.Of(s); e != want || e != api.OK && got != (api.Trace{}) {
				t.Errorf("Of(%q) = %x, %v; want %v", s, got, e, want)
			}
			if got, e := ids.SpanOf(s); e != wantSpan || e != api.OK && got != 0 {
				t.Errorf("SpanOf(%q) = %x, %v; want %v", s, got, e, wantSpan)
			}
		}
	}
	for _, s := range []string{strings.Repeat("1", 1000), strings.Repeat("é", 16), strings.Repeat("é", 8), strings.Repeat("\x00", 32)} {
		if got, e := ids.Of(s); got != (api.Trace{}) || e != api.ErrForm {
			t.Errorf("Of(%q) = %x, %v; want ErrForm", s, got, e)
		}
		if got, e := ids.SpanOf(s); got != 0 || e != api.ErrForm {
			t.Errorf("SpanOf(%q) = %x, %v; want ErrForm", s, got, e)
		}
	}
}

// P6.1: of all bytes just those sixteen are digits, at each place; of 0 alone it is ErrZero, of another byte ErrForm.
func TestOfBytes(t *testing.T) {
	for _, ground := range []string{"0", "1"} {
		for at := range 32 {
			for b := range 256 {
				c := string([]byte{byte(b)})
				s := strings.Repeat(ground, at) + c + strings.Repeat(ground, 31-at)
				want := api.OK
				if !strings.Contains(digits, c) {
					want = api.ErrForm
				} else if s == strings.Repeat("0", 32) {
					want = api.ErrZero
				}
				got, e := ids.Of(s)
				if e != want || (e == api.OK) == (got == api.Trace{}) || e == api.OK && ids.Text(got) != s {
					t.Fatalf("Of(%q) = %x, %v; want %v", s, got, e, want)
				}
				if at >= 16 {
					continue
				}
				s = s[:16]
				if want == api.OK && s == strings.Repeat("0", 16) {
					want = api.ErrZero
				}
				n, e := ids.SpanOf(s)
				if e != want || (e == api.OK) == (n == 0) || e == api.OK && ids.SpanText(n) != s {
					t.Fatalf("SpanOf(%q) = %x, %v; want %v", s, n, e, want)
				}
			}
		}
	}
}

// P6.1: both numbers are 0.
func TestZero(t *testing.T) {
	for _, hi := range edges() {
		for _, lo := range edges() {
			if ids.Zero(api.Trace{Hi: hi, Lo: lo}) != (hi == 0 && lo == 0) {
				t.Errorf("Zero of %d, %d", hi, lo)
			}
		}
	}
}

// P6.2: what stands there, or 2^32 and the place together.
func TestAt(t *testing.T) {
	l := []uint64{9, 0, math.MaxUint64, 1 << 32}
	for _, x := range []struct {
		l    []uint64
		n    int
		want uint64
	}{
		{l, 0, 9}, {l, 1, 0}, {l, 2, math.MaxUint64}, {l, 3, 1 << 32},
		{l, 4, 1<<32 + 4}, {l, 5, 1<<32 + 5}, {l[:2], 2, 1<<32 + 2},
		{l, -1, 1 << 32}, {l, -4, 1 << 32}, {l, math.MinInt, 1 << 32},
		{nil, 3, 4294967299}, {nil, 0, 1 << 32}, {nil, 1, 1<<32 + 1}, {nil, -1, 1 << 32}, {[]uint64{}, 0, 1 << 32},
		{l, 1 << 32, 1 << 33}, {l, 1<<32 + 1, 1<<33 + 1}, {nil, math.MaxInt, 1<<63 + 1<<32 - 1},
	} {
		if got := ids.At(x.l, x.n); got != x.want {
			t.Errorf("At(%d, %d) = %d; want %d", x.l, x.n, got, x.want)
		}
	}
}

// distinct holds all pairs against one another.
func distinct(l []uint64, n int) bool {
	for i := range n {
		for k := range i {
			if ids.At(l, i) == ids.At(l, k) {
				return false
			}
		}
		if ids.At(l, i) == 0 {
			return false
		}
	}
	return true
}

// P6.2, P6.3: all lists of few numbers, those behind the list among them; and if the first n are distinct, fewer of them are.
func TestDistinct(t *testing.T) {
	lists := [][]uint64{nil}
	for from := 0; len(lists[from]) < 4; from++ {
		for _, n := range []uint64{0, 1, 1 << 32, 1<<32 + 3, 1<<32 + 5, math.MaxUint64} {
			lists = append(lists, append(slices.Clone(lists[from]), n))
		}
	}
	for _, l := range lists {
		before := slices.Clone(l)
		for n := range 8 {
			got := ids.Distinct(l, n)
			if got != distinct(l, n) {
				t.Fatalf("Distinct(%d, %d) = %v", l, n, got)
			}
			for k := -1; got && k < n; k++ {
				if !ids.Distinct(l, k) {
					t.Fatalf("Distinct(%d, %d), but not %d", l, n, k)
				}
			}
		}
		for _, n := range []int{0, -1, -2, -4096, math.MinInt} {
			if !ids.Distinct(l, n) {
				t.Fatalf("Distinct(%d, %d) = false", l, n)
			}
		}
		if !slices.Equal(l, before) {
			t.Fatalf("Distinct changed its list: %d; was %d", l, before)
		}
	}
}

// P6.2: of more than 4096 numbers, 4096 count.
func TestDistinctMost(t *testing.T) {
	rising := make([]uint64, 5000)
	for i := range rising {
		rising[i] = uint64(i + 1)
	}
	for _, x := range []struct {
		place  int
		number uint64
		n      int
		want   bool
	}{
		{0, 1, 4096, true}, {0, 1, math.MaxInt, true}, {0, 0, math.MaxInt, false},
		{4095, 1, 4095, true}, {4095, 1, 4096, false}, {4095, 1, 4097, false}, {4095, 1, math.MaxInt, false},
		{4095, 0, 4095, true}, {4095, 0, 4096, false}, {4095, 0, 1 << 40, false},
		{4095, 4095, 4095, true}, {4095, 4095, 4096, false},
		{4096, 1, 4096, true}, {4096, 1, 4097, true}, {4096, 1, 5000, true}, {4096, 1, math.MaxInt, true},
		{4096, 0, 4097, true}, {4096, 0, math.MaxInt, true}, {4999, 0, 5000, true},
	} {
		l := slices.Clone(rising)
		l[x.place] = x.number
		if ids.Distinct(l, x.n) != x.want {
			t.Errorf("Distinct with %d at %d, %d = %v", x.number, x.place, x.n, !x.want)
		}
	}
	for _, x := range []struct {
		number uint64
		n      int
		want   bool
	}{
		{1<<32 + 4095, 4095, true}, {1<<32 + 4095, 4096, false}, {1<<32 + 4095, math.MaxInt, false},
		{1<<32 + 4096, 4096, true}, {1<<32 + 4096, 4097, true}, {1<<32 + 4096, math.MaxInt, true},
	} {
		if ids.Distinct([]uint64{x.number}, x.n) != x.want {
			t.Errorf("Distinct of %d alone, %d = %v", x.number, x.n, !x.want)
		}
	}
	if !ids.Distinct(nil, math.MaxInt) {
		t.Error("Distinct of no list = false")
	}
}

// P6.3: what Text writes is read, if it is not zero, and no two traces have one text.
func TestOfText(t *testing.T) {
	seen := map[string]api.Trace{}
	for _, hi := range edges() {
		for _, lo := range edges() {
			trace := api.Trace{Hi: hi, Lo: lo}
			s := ids.Text(trace)
			if other, twice := seen[s]; twice && other != trace {
				t.Fatalf("Text of %x and of %x is %q", trace, other, s)
			}
			seen[s] = trace
			want := api.OK
			if hi == 0 && lo == 0 {
				want = api.ErrZero
			}
			if got, e := ids.Of(s); got != trace || e != want {
				t.Fatalf("Of(%q) = %x, %v; want %x", s, got, e, trace)
			}
		}
		want := api.OK
		if hi == 0 {
			want = api.ErrZero
		}
		if got, e := ids.SpanOf(ids.SpanText(hi)); got != hi || e != want {
			t.Fatalf("SpanOf of the text of %d = %d, %v", hi, got, e)
		}
	}
}
