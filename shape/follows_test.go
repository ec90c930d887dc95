package shape_test

import (
	"math/rand"
	"testing"

	"flagon/api"
	"flagon/shape"
)

func TestPopOfPush(t *testing.T) {
	r := rand.New(rand.NewSource(81))
	for range 5000 {
		s, more := drawn(r, 128), drawn(r, 128)
		high, e := shape.Push(s, more)
		if e != api.OK || !shape.Top(high, more) {
			t.Fatalf("what follows: Push(%q, %q): %q, %d, and it is not on top", s, more, high, e)
		}
		if got, e := shape.Pop(high, more); got != s || e != api.OK {
			t.Fatalf("what follows: Pop of Push(%q, %q): %q, %d", s, more, got, e)
		}
	}
}

func TestPushOfPop(t *testing.T) {
	r := rand.New(rand.NewSource(82))
	for range 5000 {
		s := drawn(r, 256)
		top := s[r.Intn(len(s)+1):]
		low, e := shape.Pop(s, top)
		if e != api.OK {
			t.Fatalf("what follows: Pop(%q, %q): %d", s, top, e)
		}
		if got, e := shape.Push(low, top); got != s || e != api.OK {
			t.Fatalf("what follows: Push of Pop(%q, %q): %q, %d", s, top, got, e)
		}
	}
}

func TestKeepAtTheHeightBelow(t *testing.T) {
	r := rand.New(rand.NewSource(83))
	for range 5000 {
		s := drawn(r, 256)
		below := r.Intn(len(s) + 1)
		if got, e := shape.Keep(s, below, s[below:]); got != s || e != api.OK {
			t.Fatalf("what follows: Keep(%q, %d, %q): %q, %d", s, below, s[below:], got, e)
		}
	}
}

func TestKeepTwice(t *testing.T) {
	r := rand.New(rand.NewSource(84))
	for range 5000 {
		s := drawn(r, 256)
		below := r.Intn(len(s) + 1)
		floor, top := r.Intn(below+1), s[below:]
		once, e := shape.Keep(s, floor, top)
		if e != api.OK || len(once) != floor+len(top) {
			t.Fatalf("what follows: Keep(%q, %d, %q): %q, %d", s, floor, top, once, e)
		}
		if twice, e := shape.Keep(once, floor, top); twice != once || e != api.OK {
			t.Fatalf("what follows: Keep twice(%q, %d, %q): %q, %d, not %q", s, floor, top, twice, e, once)
		}
	}
}
