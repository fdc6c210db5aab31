package outline_test

import (
	"slices"
	"strings"
	"testing"

	"periscope/api"
	"periscope/outline"
)

func none(api.Rule) api.Errno {
	return api.OK
}

func held(t *testing.T, format string, may bool) {
	t.Helper()
	want := api.ErrText
	if may {
		want = api.OK
	}
	if e := outline.Check(api.Config{Format: format}, none); e != want {
		t.Errorf("Check of the format %q = %v; want %v", format, e, want)
	}
}

// P13.1, P14.1: a format has at most 120 bytes.
func TestFormatLength(t *testing.T) {
	for _, c := range []string{"a", " ", "~", "%"} {
		for size := range 300 {
			held(t, strings.Repeat(c, size), size <= 120)
		}
	}
	held(t, strings.Repeat("é", 60), false)
	held(t, strings.Repeat("a", 1<<20), false)
}

// P13.1, P14.1: each byte of a format is from 32 to 126, wherever it stands.
func TestFormatBytes(t *testing.T) {
	for b := range 256 {
		c := string([]byte{byte(b)})
		for _, size := range []int{0, 1, 2, 60, 118, 119, 120} {
			s := strings.Repeat("x", size)
			may := b >= 32 && b <= 126 && size < 120
			held(t, c+s, may)
			held(t, s+c, may)
			held(t, s[:size/2]+c+s[size/2:], may)
		}
	}
}

// P13.1, P14.1: at most 16 rules, which are asked for in their order, up to the first one with a fault.
func TestRules(t *testing.T) {
	for size := range 20 {
		for first := range size + 1 {
			var asked []int
			rule := func(r api.Rule) api.Errno {
				asked = append(asked, r.Rank)
				if r.Rank >= first {
					return api.ErrSum + api.Errno(r.Rank)
				}
				return api.OK
			}
			var l []api.Rule
			var want []int
			for rank := range size {
				l = append(l, api.Rule{Rank: rank})
				if size <= 16 && rank <= first {
					want = append(want, rank)
				}
			}
			told := api.OK
			if size > 16 {
				told = api.ErrFull
			} else if first < size {
				told = api.ErrSum + api.Errno(first)
			}
			if e := outline.Check(api.Config{Rules: l}, rule); e != told || !slices.Equal(asked, want) {
				t.Errorf("Check of %d rules = %v, having asked for %v; want %v, %v", size, e, asked, told, want)
			}
			if e := outline.Check(api.Config{Rules: l, Format: "\n"}, rule); e != api.ErrText || len(asked) != len(want) {
				t.Errorf("Check of %d rules with a bad format = %v, having asked for %v", size, e, asked)
			}
		}
	}
}
