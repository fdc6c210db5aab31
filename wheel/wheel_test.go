package wheel_test

import (
	"cmp"
	"math"
	"slices"
	"testing"

	"periscope/api"
	"periscope/wheel"
)

// set sets an id, which must be answered so.
func set(t *testing.T, w *wheel.Wheel, id, ticks int, want api.Errno) {
	t.Helper()
	if e := w.Set(id, ticks); e != want {
		t.Fatalf("Set(%d, %d) at %d, of %d = %v; want %v", id, ticks, w.Now(), w.Len(), e, want)
	}
}

// stepped steps once, and holds what comes against what must.
func stepped(t *testing.T, w *wheel.Wheel, want ...int) {
	t.Helper()
	if l := w.Step(); !slices.Equal(l, want) {
		t.Fatalf("Step() = %v at %d; want %v", l, w.Now(), want)
	}
}

// held holds all that a wheel tells against what it must be.
func held(t *testing.T, w *wheel.Wheel, now int, want ...api.Due) {
	t.Helper()
	if l := w.All(); !slices.Equal(l, want) {
		t.Fatalf("All() = %v at %d; want %v", l, now, want)
	}
	if w.Now() != now || w.Len() != len(want) {
		t.Fatalf("Now, Len = %d, %d; want %d, %d", w.Now(), w.Len(), now, len(want))
	}
}

// at is a wheel on which nothing is, at a time.
func at(t *testing.T, now int) *wheel.Wheel {
	t.Helper()
	w := wheel.New()
	for range now {
		stepped(t, w)
	}
	held(t, w, now)
	return w
}

// outside has ticks that may not be.
func outside() []int {
	return []int{0, -1, -2, -49, -50, -51, -100, 51, 52, 99, 100, 101, 150, 256, 257, 306, 1<<32 + 1, 1<<32 + 50, -1<<32 + 1, math.MinInt, math.MinInt + 1, math.MinInt32, math.MaxInt32, math.MaxInt - 1, math.MaxInt}
}

// P22.1, P22.2: a wheel is at time 0 at first, and nothing is on it; the time goes on, whether something comes or not.
func TestNew(t *testing.T) {
	w := wheel.New()
	held(t, w, 0)
	for now := 1; now <= 1000; now++ {
		stepped(t, w)
		held(t, w, now)
	}
}

// P22.1: the example.
func TestExample(t *testing.T) {
	w := wheel.New()
	set(t, w, 7, 2, api.OK)
	stepped(t, w)
	stepped(t, w, 7)
	stepped(t, w)
}

// P22.1, P22.3: at all times, and of all ticks that may be, what was set comes just once, just so many steps later.
func TestOnce(t *testing.T) {
	for now := range 130 {
		for ticks := 1; ticks <= 50; ticks++ {
			w := at(t, now)
			set(t, w, 9, ticks, api.OK)
			for step := 1; step <= 160; step++ {
				if step < ticks {
					held(t, w, now+step-1, api.Due{ID: 9, At: now + ticks})
					stepped(t, w)
				} else if step == ticks {
					stepped(t, w, 9)
				} else {
					stepped(t, w)
				}
			}
			held(t, w, now+160)
		}
	}
}

// P22.1: ticks that may not be are refused at all times, and nothing is changed.
func TestRange(t *testing.T) {
	for _, now := range []int{0, 1, 2, 48, 49, 50, 51, 99, 100, 101, 1000} {
		w := at(t, now)
		for _, ticks := range outside() {
			set(t, w, 1, ticks, api.ErrRange)
			held(t, w, now)
		}
		set(t, w, 2, 1, api.OK)
		set(t, w, 3, 50, api.OK)
		for _, ticks := range outside() {
			set(t, w, 1, ticks, api.ErrRange)
			held(t, w, now, api.Due{ID: 2, At: now + 1}, api.Due{ID: 3, At: now + 50})
		}
		stepped(t, w, 2)
		for range 48 {
			stepped(t, w)
		}
		stepped(t, w, 3)
	}
}

// ids has numbers of all kinds, some of them alike.
func ids() []int {
	return []int{5, 3, 5, 0, -1, math.MaxInt, math.MinInt, 4, 5, 0, 1 << 40, 3}
}

// P22.1, P22.2: those of one time come in the order in which they were set, whatever they are, also where they were set at other times.
func TestOrder(t *testing.T) {
	w := at(t, 45)
	var want []api.Due
	for i, id := range ids() {
		set(t, w, id, 20-i, api.OK)
		want = append(want, api.Due{ID: id, At: 65})
		held(t, w, 45+i, want...)
		stepped(t, w)
	}
	for range 19 - len(ids()) {
		stepped(t, w)
	}
	held(t, w, 64, want...)
	stepped(t, w, ids()...)
	held(t, w, 65)
}

// P22.2: by time, those of one time in the order in which they were set, wherever the wheel stands.
func TestAll(t *testing.T) {
	ticks := []int{3, 1, 50, 3, 49, 2, 50, 1, 25, 3, 1, 49}
	for now := range 120 {
		w := at(t, now)
		var want []api.Due
		for i, id := range ids() {
			set(t, w, id, ticks[i], api.OK)
			want = append(want, api.Due{ID: id, At: now + ticks[i]})
		}
		slices.SortStableFunc(want, byTime)
		held(t, w, now, want...)
		stepped(t, w, 3, 4, 1<<40)
		held(t, w, now+1, want[3:]...)
	}
}

func byTime(a, b api.Due) int {
	return cmp.Compare(a.At, b.At)
}

// P22.1, P22.3: there are 32 at most, all due at one time or not; of a full wheel ErrRange comes first, and what is refused changes nothing.
func TestFull(t *testing.T) {
	for _, far := range []func(i int) int{
		func(int) int { return 1 },
		func(int) int { return 50 },
		func(i int) int { return i + 1 },
		func(i int) int { return 50 - i },
		func(i int) int { return 1 + i%3 },
	} {
		for _, now := range []int{0, 1, 30, 49, 50, 77} {
			w := at(t, now)
			var want []api.Due
			for i := range 32 {
				set(t, w, i, far(i), api.OK)
				want = append(want, api.Due{ID: i, At: now + far(i)})
			}
			slices.SortStableFunc(want, byTime)
			for ticks := 1; ticks <= 50; ticks++ {
				set(t, w, 99, ticks, api.ErrFull)
			}
			for _, ticks := range outside() {
				set(t, w, 99, ticks, api.ErrRange)
			}
			held(t, w, now, want...)
			for step := 1; step <= 50; step++ {
				due := 0
				for due < len(want) && want[due].At == now+step {
					due++
				}
				stepped(t, w, idsOf(want[:due])...)
				want = want[due:]
				held(t, w, now+step, want...)
			}
			held(t, w, now+50)
		}
	}
}

func idsOf(l []api.Due) []int {
	var out []int
	for _, x := range l {
		out = append(out, x.ID)
	}
	return out
}

// P22.1, P22.3: as many as came may be set again, and no more.
func TestFreed(t *testing.T) {
	w := wheel.New()
	for i := range 32 {
		set(t, w, i, 1+i/4, api.OK)
	}
	for round := range 60 {
		set(t, w, 99, 1, api.ErrFull)
		first := round % 8 * 4
		stepped(t, w, first, first+1, first+2, first+3)
		if w.Len() != 28 {
			t.Fatalf("Len() = %d behind step %d", w.Len(), round+1)
		}
		for i := range 4 {
			set(t, w, first+i, 8, api.OK)
		}
	}
}

// P22.1: what is set behind a step into the time that is just gone by on a wheel's round comes a whole round later.
func TestRound(t *testing.T) {
	w := wheel.New()
	set(t, w, 1, 1, api.OK)
	for round := range 5 {
		stepped(t, w, 1+round)
		set(t, w, 2+round, 50, api.OK)
		held(t, w, 1+50*round, api.Due{ID: 2 + round, At: 51 + 50*round})
		for range 49 {
			stepped(t, w)
		}
	}
}

// modelled is a wheel's things in the order in which they were set.
type modelled struct {
	now int
	on  []api.Due
}

func (m *modelled) set(id, ticks int) api.Errno {
	if ticks < 1 || ticks > 50 {
		return api.ErrRange
	}
	if len(m.on) >= 32 {
		return api.ErrFull
	}
	m.on = append(m.on, api.Due{ID: id, At: m.now + ticks})
	return api.OK
}

func (m *modelled) step() []int {
	m.now++
	var due []int
	var left []api.Due
	for _, x := range m.on {
		if x.At == m.now {
			due = append(due, x.ID)
		} else {
			left = append(left, x)
		}
	}
	m.on = left
	return due
}

func (m *modelled) all() []api.Due {
	l := slices.Clone(m.on)
	slices.SortStableFunc(l, byTime)
	return l
}

// P22.1 to P22.3: behind many calls of all kinds, in a row that a short rule makes, all is as a plain list of things tells it.
func TestLong(t *testing.T) {
	for seed := range uint32(40) {
		w, m := wheel.New(), &modelled{}
		state, steps := seed, 2+seed%12
		for range 2000 {
			state = state*1664525 + 1013904223
			if state>>16%steps == 0 {
				stepped(t, w, m.step()...)
			} else {
				id, ticks := int(state>>8%7), int(state>>20%54)-1
				set(t, w, id, ticks, m.set(id, ticks))
			}
			held(t, w, m.now, m.all()...)
		}
	}
}

// P22.2: of a nil wheel.
func TestNil(t *testing.T) {
	var w *wheel.Wheel
	for range 3 {
		for _, ticks := range append(outside(), 1, 2, 50) {
			set(t, w, 1, ticks, api.ErrNil)
		}
		stepped(t, w)
		held(t, w, 0)
	}
}

// P22.1: a wheel hangs on its own calls alone, and asking changes nothing.
func TestTwo(t *testing.T) {
	one, other := wheel.New(), wheel.New()
	set(t, one, 1, 2, api.OK)
	held(t, other, 0)
	stepped(t, other)
	set(t, other, 2, 1, api.OK)
	for range 3 {
		held(t, one, 0, api.Due{ID: 1, At: 2})
		held(t, other, 1, api.Due{ID: 2, At: 2})
	}
	stepped(t, other, 2)
	stepped(t, one)
	stepped(t, one, 1)
}

// P22.1, P22.2 under rule 4: answers share nothing with what is on the wheel, nor with one another.
func TestAnswers(t *testing.T) {
	w := wheel.New()
	fill := func(first int) {
		for i := range 3 {
			set(t, w, first+i, 1, api.OK)
			set(t, w, first+10+i, 50, api.OK)
		}
	}
	fill(1)
	early := []api.Due{{ID: 1, At: 1}, {ID: 2, At: 1}, {ID: 3, At: 1}, {ID: 11, At: 50}, {ID: 12, At: 50}, {ID: 13, At: 50}}
	one, other := w.All(), w.All()
	_ = append(one[:3], api.Due{ID: 99, At: 99})
	for i := range one {
		one[i] = api.Due{ID: 99, At: 99}
	}
	if !slices.Equal(other, early) {
		t.Fatalf("answers share memory: %v", other)
	}
	held(t, w, 0, early...)
	came := w.Step()
	// These go into the slot that was just taken.
	for i := range 3 {
		set(t, w, 21+i, 50, api.OK)
	}
	if !slices.Equal(came, []int{1, 2, 3}) {
		t.Fatalf("an answer changed: %v", came)
	}
	_ = append(came[:0], 99, 99, 99, 99)
	_ = append(came, 99)
	held(t, w, 1, append(early[3:], api.Due{ID: 21, At: 51}, api.Due{ID: 22, At: 51}, api.Due{ID: 23, At: 51})...)
	for range 48 {
		stepped(t, w)
	}
	stepped(t, w, 11, 12, 13)
	stepped(t, w, 21, 22, 23)
	held(t, w, 51)
}
