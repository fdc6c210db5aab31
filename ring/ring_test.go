package ring_test

import (
	"math"
	"slices"
	"strconv"
	"strings"
	"testing"

	"periscope/ring"
)

// numbered has so many lines, no two of which are alike.
func numbered(first, size int) []string {
	var l []string
	for i := range size {
		l = append(l, "line "+strconv.Itoa(first+i))
	}
	return l
}

// held holds all that a ring tells against what it must be.
func held(t *testing.T, r *ring.Ring, lost int, want ...string) {
	t.Helper()
	if l := r.All(); !slices.Equal(l, want) {
		t.Fatalf("All() = %q; want %q", l, want)
	}
	if r.Len() != len(want) || r.Lost() != lost {
		t.Fatalf("Len, Lost = %d, %d; want %d, %d", r.Len(), r.Lost(), len(want), lost)
	}
}

// last is what is left of all lines that were put, and how many are lost.
func last(put []string, room int) ([]string, int) {
	lost := max(0, len(put)-room)
	return put[lost:], lost
}

// rooms has what is asked for, with what there is.
func rooms() map[int]int {
	l := map[int]int{
		math.MinInt: 0, math.MinInt32: 0, -1 << 40: 0, -64: 0, -63: 0, -2: 0, -1: 0,
		65: 64, 66: 64, 128: 64, 256: 64, 257: 64, 1 << 16: 64, 1 << 32: 64, 1<<32 + 1: 64, 1 << 40: 64, math.MaxInt32: 64, math.MaxInt: 64,
	}
	for room := range 65 {
		l[room] = room
	}
	return l
}

// P21.1, P21.2: a ring has no lines at first, and none is lost, whatever the room.
func TestNew(t *testing.T) {
	for room := range rooms() {
		r := ring.New(room)
		held(t, r, 0)
		r.Put()
		r.Put(nil...)
		r.Put([]string{}...)
		held(t, r, 0)
	}
}

// P21.1, P21.3: of each room, line by line, the last ones are there, and all others are lost.
func TestRooms(t *testing.T) {
	all := numbered(1, 200)
	for asked, room := range rooms() {
		r := ring.New(asked)
		for i, line := range all {
			r.Put(line)
			want, lost := last(all[:i+1], room)
			held(t, r, lost, want...)
		}
	}
}

// P21.1: the example.
func TestExample(t *testing.T) {
	r := ring.New(2)
	r.Put("a", "b", "c")
	held(t, r, 1, "b", "c")
}

// P21.1: with room for none the line itself is lost.
func TestNone(t *testing.T) {
	for _, room := range []int{0, -1, math.MinInt} {
		r := ring.New(room)
		r.Put("a")
		held(t, r, 1)
		r.Put("b", "c", "d")
		held(t, r, 4)
		r.Put()
		held(t, r, 4)
	}
}

// P21.1, P21.3: behind all rows of calls with some lines each, all is as if they were put one after another.
func TestRows(t *testing.T) {
	const calls, most = 5, 6
	rows := 1
	for range calls {
		rows *= most
	}
	for room := range 5 {
		for row := range rows {
			r := ring.New(room)
			var put []string
			for n, call := row, 0; call < calls; n, call = n/most, call+1 {
				more := numbered(len(put), n%most)
				r.Put(more...)
				put = append(put, more...)
				want, lost := last(put, room)
				held(t, r, lost, want...)
			}
		}
	}
}

// P21.1, P21.3: one call with many more lines than there is room for, on rings that have some already.
func TestMany(t *testing.T) {
	for _, room := range []int{0, 1, 2, 3, 63, 64} {
		for before := range 2*room + 2 {
			for _, size := range []int{room, room + 1, 2 * room, 2*room + 1, 1000} {
				r := ring.New(room)
				put := numbered(0, before+size)
				r.Put(put[:before]...)
				r.Put(put[before:]...)
				want, lost := last(put, room)
				held(t, r, lost, want...)
			}
		}
	}
}

// P21.2, P21.3: each line that is not there is counted as lost, also where these are many.
func TestLost(t *testing.T) {
	size := 1 << 20
	put := numbered(0, size)
	for _, room := range []int{0, 1, 7, 64} {
		r := ring.New(room)
		r.Put(put...)
		r.Put(put...)
		held(t, r, 2*size-room, put[size-room:]...)
	}
}

// P21.1: a line is any text, and lines that are alike are lines each.
func TestTexts(t *testing.T) {
	put := []string{"", "", "a", "a", "\n", "a\nb\n", "\x00", "\xff\xfe", " ", "é", strings.Repeat("x", 120), strings.Repeat("y", 1<<16), "", ""}
	for room := range len(put) + 2 {
		one, all := ring.New(room), ring.New(room)
		for _, line := range put {
			one.Put(line)
		}
		all.Put(put...)
		want, lost := last(put, room)
		held(t, one, lost, want...)
		held(t, all, lost, want...)
	}
}

// P21.2: of a nil ring.
func TestNil(t *testing.T) {
	var r *ring.Ring
	for _, l := range [][]string{nil, {}, {"a"}, numbered(0, 100)} {
		r.Put(l...)
		held(t, r, 0)
	}
}

// P21.1, P21.2: a ring hangs on its own calls alone, and asking changes nothing.
func TestTwo(t *testing.T) {
	one, other := ring.New(2), ring.New(3)
	one.Put("a", "b", "c")
	held(t, other, 0)
	other.Put("x")
	for range 3 {
		held(t, one, 1, "b", "c")
		held(t, other, 0, "x")
	}
	one.Put("d")
	held(t, one, 2, "c", "d")
	held(t, other, 0, "x")
}

// P21.1 under the rules 4 and 5: a list that is handed in stays as it is, also behind its end, and is not kept.
func TestHandedIn(t *testing.T) {
	for _, room := range []int{2, 4, 64} {
		whole := []string{"a", "b", "c", "d", "e", "f"}
		l := whole[:4]
		r := ring.New(room)
		r.Put(l...)
		want, lost := last([]string{"a", "b", "c", "d"}, room)
		held(t, r, lost, want...)
		r.Put("g")
		if !slices.Equal(whole, []string{"a", "b", "c", "d", "e", "f"}) {
			t.Fatalf("what was handed in is %q", whole)
		}
		for i := range whole {
			whole[i] = "x"
		}
		want, lost = last([]string{"a", "b", "c", "d", "g"}, room)
		held(t, r, lost, want...)
	}
}

// P21.2 under rule 4: answers share nothing with what is held, nor with one another.
func TestAnswers(t *testing.T) {
	for before := range 7 {
		r := ring.New(3)
		put := numbered(0, before)
		r.Put(put...)
		want, lost := last(put, 3)
		one, other := r.All(), r.All()
		_ = append(one, "x")
		for i := range one {
			one[i] = "x"
		}
		if !slices.Equal(other, want) {
			t.Fatalf("answers share memory: %q", other)
		}
		held(t, r, lost, want...)
		// What is put later is not seen in an answer that was given.
		r.Put("y", "z", "y", "z")
		if !slices.Equal(other, want) {
			t.Fatalf("an answer changed: %q", other)
		}
	}
}
