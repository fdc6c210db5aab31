package chance_test

import (
	"math"
	"slices"
	"testing"

	"periscope/chance"
)

// lefts has draws, with what is left of each by 100, as they lie at the ends of what an int may be.
func lefts() map[int]int {
	return map[int]int{
		math.MinInt: 92, math.MinInt + 1: 93, math.MinInt + 7: 99, math.MinInt + 8: 0, math.MinInt + 9: 1,
		math.MaxInt: 7, math.MaxInt - 1: 6, math.MaxInt - 7: 0, math.MaxInt - 8: 99,
		math.MinInt32: 52, math.MaxInt32: 47, 1 << 32: 96, -1 << 32: 4,
	}
}

func held(t *testing.T, draw, pct int, want bool) {
	t.Helper()
	if chance.Fires(draw, pct) != want {
		t.Errorf("Fires(%d, %d) = %v", draw, pct, !want)
	}
}

// P15.1: draws on both sides of 0, as hundreds begin anew; parts on both sides of what they may be.
func TestFires(t *testing.T) {
	for draw, left := -1000, 0; draw <= 1000; draw, left = draw+1, left+1 {
		if left == 100 {
			left = 0
		}
		for pct := -3; pct <= 203; pct++ {
			held(t, draw, pct, left < pct)
		}
		for _, pct := range []int{math.MinInt, math.MinInt32, -100, -99} {
			held(t, draw, pct, false)
		}
		for _, pct := range []int{1000, math.MaxInt32, math.MaxInt} {
			held(t, draw, pct, true)
		}
	}
}

// P15.1: the least and the greatest draws.
func TestFiresFar(t *testing.T) {
	for draw, left := range lefts() {
		for pct := -1; pct <= 101; pct++ {
			held(t, draw, pct, left < pct)
		}
		held(t, draw, math.MinInt, false)
		held(t, draw, math.MaxInt, true)
	}
}

// P15.1: the examples.
func TestFiresExamples(t *testing.T) {
	held(t, 7, 8, true)
	held(t, 107, 7, false)
	held(t, -1, 99, false)
	held(t, -1, 100, true)
	held(t, -100, 1, true)
}

// P15.1: places of the list, and those that it does not have.
func TestAt(t *testing.T) {
	l := []int{0, 1, 98, 99, 100, 101, 199, 200, 12345, -1, -2, -99, -100, -101, -200}
	want := []int{0, 1, 98, 99, 0, 1, 99, 0, 45, 99, 98, 1, 0, 99, 0}
	for draw, left := range lefts() {
		l, want = append(l, draw), append(want, left)
	}
	for n := range l {
		if got := chance.At(l, n); got != want[n] {
			t.Errorf("At of %d = %d; want %d", l[n], got, want[n])
		}
	}
	for _, n := range []int{math.MinInt, math.MinInt + 1, -len(l) - 1, -len(l), -2, -1, len(l), len(l) + 1, 2 * len(l), 1 << 32, math.MaxInt} {
		if got := chance.At(l, n); got != 99 {
			t.Errorf("At the place %d of %d = %d", n, len(l), got)
		}
	}
	for _, n := range []int{math.MinInt, -1, 0, 1, math.MaxInt} {
		if got := chance.At(nil, n); got != 99 {
			t.Errorf("At the place %d of none = %d", n, got)
		}
		if got := chance.At([]int{}, n); got != 99 {
			t.Errorf("At the place %d of an empty list = %d", n, got)
		}
	}
}

// P15.1: what stands behind a list's end, in the same memory, is none of its draws.
func TestBehindTheEnd(t *testing.T) {
	l := []int{1, 2, 3, 4, 5, 6, 7, 8}
	for size := range l {
		if got := chance.At(l[:size], size); got != 99 {
			t.Errorf("At the end of %d = %d", size, got)
		}
	}
	if got := chance.Draws(l[:3], 0); got != [3]int{2, 3, 99} {
		t.Errorf("Draws of three = %v", got)
	}
}

// numbers has so many draws, each unlike all others, some of them below 0 or beyond 99.
func numbers(size int) (list, left []int) {
	for i := range size {
		list = append(list, i+100*(i%5-2))
		left = append(left, i)
	}
	return list, left
}

// P15.1: three a hop, behind the flow's own one; 99 for each that lacks, also where just some of a hop's do.
func TestDraws(t *testing.T) {
	for size := range 30 {
		l, left := numbers(size)
		for len(left) < 200 {
			left = append(left, 99)
		}
		rest := left[1:]
		for hop := range 50 {
			want := [3]int{rest[0], rest[1], rest[2]}
			rest = rest[3:]
			if got := chance.Draws(l, hop); got != want {
				t.Errorf("Draws of hop %d, of %d = %v; want %v", hop, size, got, want)
			}
		}
		for hop := -50; hop < 0; hop++ {
			if got := chance.Draws(l, hop); got != [3]int{99, 99, 99} {
				t.Errorf("Draws of hop %d, of %d = %v", hop, size, got)
			}
		}
	}
}

// P15.1: of hops so far away that three times their number wraps round, some of them into the list.
func TestDrawsFar(t *testing.T) {
	const third = math.MaxUint64 / 3
	for _, from := range []int{math.MinInt + 20, -third, -(1 << 62), -third / 2, -1 << 32, -100, 200, 1 << 32, third / 2, 1 << 62, third, math.MaxInt - 20} {
		for hop := from - 20; hop < from+20; hop++ {
			for _, size := range []int{0, 1, 2, 3, 4, 30, 90} {
				l, _ := numbers(size)
				if got := chance.Draws(l, hop); got != [3]int{99, 99, 99} {
					t.Errorf("Draws of hop %d, of %d = %v", hop, size, got)
				}
			}
		}
	}
}

// P15.1: each draw of a hop is that of At.
func TestDrawsAt(t *testing.T) {
	l := []int{-350, 101, -1, 777, 99, 100, -100, 5, -7, 230, 1000, 64}
	for hop := range 6 {
		got := chance.Draws(l, hop)
		for i, draw := range got {
			if want := chance.At(l, 1+3*hop+i); draw != want {
				t.Errorf("draw %d of hop %d = %d; want %d", i, hop, draw, want)
			}
		}
	}
	if got := chance.Draws(l, 0); got != [3]int{1, 99, 77} {
		t.Errorf("Draws of hop 0 = %v", got)
	}
	if got := chance.Draws(l, 3); got != [3]int{0, 64, 99} {
		t.Errorf("Draws of hop 3 = %v", got)
	}
}

// P15.2: 0 never, 100 always, and of a hundred draws just as many as the part says.
func TestParts(t *testing.T) {
	for pct := range 101 {
		count := 0
		for draw := range 100 {
			if chance.Fires(draw, pct) {
				count++
			}
		}
		if count != pct {
			t.Errorf("of a part of %d fire %d", pct, count)
		}
	}
	for draw := range lefts() {
		held(t, draw, 0, false)
		held(t, draw, 100, true)
	}
	for draw := -300; draw <= 300; draw++ {
		held(t, draw, 0, false)
		held(t, draw, 100, true)
	}
}

// P15.2: what fires with a part fires with each greater one.
func TestGreaterParts(t *testing.T) {
	parts := []int{math.MinInt, -100, -1}
	for pct := range 102 {
		parts = append(parts, pct)
	}
	parts = append(parts, 1000, math.MaxInt)
	draws := []int{}
	for draw := range lefts() {
		draws = append(draws, draw)
	}
	for draw := -150; draw <= 150; draw++ {
		draws = append(draws, draw)
	}
	for _, draw := range draws {
		for i := 1; i < len(parts); i++ {
			if chance.Fires(draw, parts[i-1]) && !chance.Fires(draw, parts[i]) {
				t.Errorf("%d fires with %d, but not with %d", draw, parts[i-1], parts[i])
			}
		}
	}
}

// P15.1 under the rules 4 and 5: a list that is handed in stays as it is, and is not kept.
func TestApart(t *testing.T) {
	l := []int{-5, 101, 102, 103, 104}
	one := chance.Draws(l, 0)
	chance.At(l, 1)
	if !slices.Equal(l, []int{-5, 101, 102, 103, 104}) {
		t.Errorf("what was handed in is %v", l)
	}
	clear(l)
	if one != [3]int{1, 2, 3} || chance.At(l, 1) != 0 || chance.Draws(l, 0) != [3]int{0, 0, 0} {
		t.Errorf("behind a change of the list: %v, %d, %v", one, chance.At(l, 1), chance.Draws(l, 0))
	}
}
