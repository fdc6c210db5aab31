package net_test

import (
	"math"
	"slices"
	"strconv"
	"testing"

	"periscope/api"
	"periscope/net"
)

// letter is one in which each field says something else.
func letter(no int) api.Letter {
	return api.Letter{No: no, From: no%7 + 1, To: -1 - no%3, Bytes: "b\x00" + strconv.Itoa(no)}
}

// letters has so many, with numbers from first on.
func letters(first, size int) []api.Letter {
	var l []api.Letter
	for no := range size {
		l = append(l, letter(first+no))
	}
	return l
}

// send sends letters, for each of which there must be room.
func send(t *testing.T, n *net.Net, l []api.Letter) {
	t.Helper()
	for _, x := range l {
		if !n.Send(x.From, x.To, x.Bytes) {
			t.Fatalf("Send(%v) = false", x)
		}
	}
}

// held holds all that a net tells against what it must be.
func held(t *testing.T, n *net.Net, lost int, want ...api.Letter) {
	t.Helper()
	if l := n.All(); !slices.Equal(l, want) {
		t.Fatalf("All() = %v; want %v", l, want)
	}
	if n.Lost() != lost {
		t.Fatalf("Lost() = %d; want %d", n.Lost(), lost)
	}
}

// without is a list without the letter at a place.
func without(l []api.Letter, k int) []api.Letter {
	return slices.Concat(l[:k], l[k+1:])
}

// nowhere has places that a list of that size does not have.
func nowhere(size int) []int {
	return []int{-1, -2, -size, -256, math.MinInt32, math.MinInt, math.MinInt + 1, -1 << 32, size, size + 1, size + 256, 256, 1 << 32, 1<<32 + size, math.MaxInt32, math.MaxInt}
}

// P28.1, P28.2: nothing is on its way at first, and nothing was lost.
func TestNew(t *testing.T) {
	held(t, net.New(), 0)
}

// P28.1: the example.
func TestExample(t *testing.T) {
	n := net.New()
	send(t, n, letters(0, 3))
	if x, ok := n.Take(1); !ok || x != letter(1) {
		t.Fatalf("Take(1) = %v, %v", x, ok)
	}
	held(t, n, 0, letter(0), letter(2))
	if x, ok := n.Take(1); !ok || x != letter(2) {
		t.Fatalf("Take(1) = %v, %v", x, ok)
	}
	held(t, n, 0, letter(0))
}

// P28.1: a letter is on its way just so as it was sent, behind all others; nodes are any numbers, and bytes are any.
func TestSend(t *testing.T) {
	n := net.New()
	var want []api.Letter
	for _, from := range []int{0, 1, 7, -1, -2, 8, math.MinInt, math.MaxInt} {
		for _, to := range []int{0, -1, 3, math.MinInt, math.MaxInt} {
			for _, bytes := range []string{"", "a", "\x00\xff\n", "a"} {
				want = append(want, api.Letter{No: len(want), From: from, To: to, Bytes: bytes})
				send(t, n, want[len(want)-1:])
			}
		}
	}
	held(t, n, 0, want...)
}

// P28.1, P28.3: there is room for 256 letters; what is too many is lost, is nowhere, and uses no number.
func TestFull(t *testing.T) {
	n := net.New()
	send(t, n, letters(0, 256))
	for lost := range 5 {
		held(t, n, lost, letters(0, 256)...)
		if n.Send(1, 2, "x") {
			t.Fatal("Send = true")
		}
	}
	for _, k := range []int{0, 100, 253} {
		n.Take(k)
	}
	all := without(without(without(letters(0, 256), 0), 100), 253)
	held(t, n, 5, all...)
	send(t, n, letters(256, 3))
	held(t, n, 5, append(all, letters(256, 3)...)...)
	if n.Send(1, 2, "x") {
		t.Fatal("Send = true")
	}
	held(t, n, 6, append(all, letters(256, 3)...)...)
}

// P28.1: each place may be taken: that letter alone is no more on its way, and nothing is lost.
func TestTake(t *testing.T) {
	for size := 1; size < 20; size++ {
		for k := range size {
			n := net.New()
			send(t, n, letters(0, size))
			if x, ok := n.Take(k); !ok || x != letter(k) {
				t.Fatalf("Take(%d) of %d = %v, %v", k, size, x, ok)
			}
			rest := without(letters(0, size), k)
			held(t, n, 0, rest...)
			for i := range rest {
				if x, ok := n.Take(0); !ok || x != rest[i] {
					t.Fatalf("Take(0) = %v, %v; want %v", x, ok, rest[i])
				}
			}
			held(t, n, 0)
		}
	}
}

// P28.1, P28.2: each place may be lost: that letter alone is no more on its way, and it is counted.
func TestLose(t *testing.T) {
	for size := 1; size < 20; size++ {
		for k := range size {
			n := net.New()
			send(t, n, letters(0, size))
			if !n.Lose(k) {
				t.Fatalf("Lose(%d) of %d = false", k, size)
			}
			rest := without(letters(0, size), k)
			held(t, n, 1, rest...)
			for i := range rest {
				if !n.Lose(0) {
					t.Fatal("Lose(0) = false")
				}
				held(t, n, i+2, rest[i+1:]...)
			}
		}
	}
}

// P28.2: each place may be copied: the same once more, with the next number, behind all others.
func TestCopy(t *testing.T) {
	for size := 1; size < 20; size++ {
		for k := range size {
			n := net.New()
			all := letters(0, size)
			send(t, n, all)
			for no := size; no < size+4; no++ {
				if !n.Copy(k) {
					t.Fatalf("Copy(%d) of %d = false", k, size)
				}
				more := all[k]
				more.No = no
				all = append(all, more)
				held(t, n, 0, all...)
			}
			// The copy of a copy is one, too.
			if !n.Copy(size) {
				t.Fatal("Copy = false")
			}
			more := all[k]
			more.No = size + 4
			held(t, n, 0, append(all, more)...)
		}
	}
}

// P28.2, P28.3: what is copied on a net that is full is lost, and uses no number; what was to be copied stays.
func TestCopyFull(t *testing.T) {
	n := net.New()
	all := letters(0, 256)
	send(t, n, all)
	for lost, k := range []int{0, 100, 255} {
		if n.Copy(k) {
			t.Fatalf("Copy(%d) = true", k)
		}
		held(t, n, lost+1, all...)
	}
	for _, k := range nowhere(256) {
		if n.Copy(k) {
			t.Fatalf("Copy(%d) = true", k)
		}
	}
	held(t, n, 3, all...)
	n.Lose(0)
	if !n.Copy(0) {
		t.Fatal("Copy = false")
	}
	more := letter(1)
	more.No = 256
	held(t, n, 4, append(all[1:], more)...)
}

// P28.1, P28.2: where there is no such place nothing is answered, and nothing happens.
func TestNowhere(t *testing.T) {
	for _, size := range []int{0, 1, 2, 5, 255, 256} {
		for _, k := range nowhere(size) {
			if 0 <= k && k < size {
				continue
			}
			n := net.New()
			send(t, n, letters(0, size))
			if x, ok := n.Take(k); ok || x != (api.Letter{}) {
				t.Errorf("Take(%d) of %d = %v, %v", k, size, x, ok)
			}
			if n.Lose(k) {
				t.Errorf("Lose(%d) of %d = true", k, size)
			}
			if n.Copy(k) {
				t.Errorf("Copy(%d) of %d = true", k, size)
			}
			held(t, n, 0, letters(0, size)...)
		}
	}
}

// P28.1, P28.3: a number is not used again, also where all letters are gone.
func TestNumbers(t *testing.T) {
	n := net.New()
	for no := 0; no < 3000; no += 3 {
		send(t, n, letters(no, 3))
		held(t, n, no/3, letters(no, 3)...)
		n.Take(2)
		n.Lose(0)
		n.Take(0)
		held(t, n, no/3+1)
	}
}

// P28.2: all that is lost is counted, also where it is much.
func TestLost(t *testing.T) {
	n := net.New()
	send(t, n, letters(0, 256))
	const many = 1 << 18
	for i := range many {
		if n.Send(i, i, "") || n.Copy(i%256) {
			t.Fatal("there is room")
		}
	}
	held(t, n, 2*many, letters(0, 256)...)
}

// P28.2: of a nil net.
func TestNil(t *testing.T) {
	var n *net.Net
	for _, k := range append(nowhere(1), 0, 1, 2) {
		if n.Send(k, k, "x") || n.Lose(k) || n.Copy(k) {
			t.Errorf("Send, Lose or Copy(%d) of nil = true", k)
		}
		if x, ok := n.Take(k); ok || x != (api.Letter{}) {
			t.Errorf("Take(%d) of nil = %v, %v", k, x, ok)
		}
		held(t, n, 0)
	}
}

// P28.1, P28.2: a net hangs on its own calls alone, and asking changes nothing.
func TestTwo(t *testing.T) {
	one, other := net.New(), net.New()
	send(t, one, letters(0, 3))
	one.Lose(1)
	held(t, other, 0)
	send(t, other, letters(0, 1))
	for range 3 {
		held(t, one, 1, letter(0), letter(2))
		held(t, other, 0, letter(0))
	}
}

// spoil writes into a list, also behind its end.
func spoil(l []api.Letter) {
	l = l[:cap(l)]
	for i := range l {
		l[i] = letter(9999)
	}
}

// P28.2 under rule 4: answers share nothing with what is on its way, nor with one another.
func TestAnswers(t *testing.T) {
	for size := range 20 {
		n := net.New()
		all := letters(0, size)
		send(t, n, all)
		one, other := n.All(), n.All()
		spoil(one)
		if !slices.Equal(other, all) {
			t.Fatalf("answers share memory: %v", other)
		}
		held(t, n, 0, all...)
		send(t, n, letters(size, 1))
		n.Take(0)
		n.Lose(0)
		if !slices.Equal(other, all) {
			t.Fatalf("an answer changed: %v", other)
		}
		spoil(other)
		send(t, n, letters(size+1, 2))
		held(t, n, min(size, 1), letters(min(size+1, 2), size+3-min(size+1, 2))...)
	}
}

// plain is a net as a plain list tells it.
type plain struct {
	l    []api.Letter
	next int
	lost int
}

func (p *plain) send(x api.Letter) bool {
	if len(p.l) == 256 {
		p.lost++
		return false
	}
	x.No = p.next
	p.next++
	p.l = append(slices.Clone(p.l), x)
	return true
}

// P28.1 to P28.3: behind many calls, in a row that a short rule makes, all is as a plain list tells it.
func TestLong(t *testing.T) {
	for seed := range uint32(12) {
		n := net.New()
		var p plain
		state := seed
		for step := range 3000 {
			state = state*1664525 + 1013904223
			k := int(state>>16%uint32(len(p.l)+3)) - 1
			there := 0 <= k && k < len(p.l)
			// Now most of the calls send, and now most of them take.
			kind := state >> 9 % 8
			if step/500%2 == 0 && kind < 3 {
				kind = 7
			}
			switch kind {
			case 0, 1:
				x, ok := n.Take(k)
				if ok != there || there && x != p.l[k] || !there && x != (api.Letter{}) {
					t.Fatalf("Take(%d) = %v, %v", k, x, ok)
				}
				if there {
					p.l = without(p.l, k)
				}
			case 2:
				if n.Lose(k) != there {
					t.Fatalf("Lose(%d) = %v", k, !there)
				}
				if there {
					p.l = without(p.l, k)
					p.lost++
				}
			case 3, 4:
				want := there && p.send(p.l[k])
				if n.Copy(k) != want {
					t.Fatalf("Copy(%d) = %v", k, !want)
				}
			default:
				x := letter(step)
				want := p.send(x)
				if n.Send(x.From, x.To, x.Bytes) != want {
					t.Fatalf("Send = %v", !want)
				}
			}
			held(t, n, p.lost, p.l...)
		}
		if p.lost == 0 {
			t.Errorf("%d: nothing was lost", seed)
		}
	}
}
