package host_test

import (
	"math/rand"
	"slices"
	"testing"

	"flagon/api"
	"flagon/host"
)

// sameOn: do both answer alike from here on, for so many calls?
func sameOn(t *testing.T, r *rand.Rand, a, b *host.Host, o *model, n int) {
	t.Helper()
	for range n {
		results := drawnResults(r, o)
		x, isX := a.Call(results)
		y, isY := b.Call(results)
		want, may := o.call(results)
		if isX != isY || !slices.Equal(x, y) || a.Taken() != b.Taken() || a.Left() != b.Left() {
			t.Fatalf("what follows: Call(%q): %v, %v, Taken %d, Left %d; beside it %v, %v, %d, %d", results, x, isX, a.Taken(), a.Left(), y, isY, b.Taken(), b.Left())
		}
		if isX != may || !slices.Equal(x, want) {
			t.Fatalf("P15.2: Call(%q): %v, %v, not %v, %v", results, x, isX, want, may)
		}
		holds(t, a, o)
	}
}

// TestGoesOn: a host that is made of the script and what another one has Taken goes on as that one does, for every number of calls ahead.
func TestGoesOn(t *testing.T) {
	r := rand.New(rand.NewSource(151))
	told := 0
	for range 300 {
		script := drawnScript(r, 12)
		for ahead := range len(script) + 3 {
			taken := r.Intn(len(script)+5) - 2
			if r.Intn(2) == 0 {
				taken = 0
			}
			h, o := both(t, script, taken)
			for range ahead {
				calls(t, h, o, drawnResults(r, o))
			}
			told += h.Left()
			sameOn(t, r, h, host.New(script, h.Taken()), o, len(script)+2)
		}
	}
	if told < 1000 {
		t.Errorf("only %d replies are left to go on with", told)
	}
}

// TestEachCall: a new host is made for each call, of what the last one has Taken, beside one that makes all of them.
func TestEachCall(t *testing.T) {
	r := rand.New(rand.NewSource(152))
	for range 500 {
		script := drawnScript(r, 10)
		h, o := both(t, script, 0)
		taken := 0
		for range len(script) + 2 {
			results := drawnResults(r, o)
			x := host.New(script, taken)
			l, ok := x.Call(results)
			want, may := o.call(results)
			if ok != may || !slices.Equal(l, want) || x.Taken() != o.taken {
				t.Fatalf("what follows: of %d taken, Call(%q): %v, %v, now %d; not %v, %v, %d", taken, results, l, ok, x.Taken(), want, may, o.taken)
			}
			taken = x.Taken()
			if l, ok := h.Call(results); ok != may || !slices.Equal(l, want) {
				t.Fatalf("P15.2: Call(%q): %v, %v, not %v, %v", results, l, ok, want, may)
			}
			holds(t, h, o)
		}
	}
}

// TestDrawn: scripts, beginnings and calls as they are drawn, as the document says.
func TestDrawn(t *testing.T) {
	r := rand.New(rand.NewSource(153))
	yes, no := 0, 0
	for range 3000 {
		script := drawnScript(r, 8)
		list := takens(len(script))
		h, o := both(t, script, list[r.Intn(len(list))])
		for range len(script) + 2 {
			results := drawnResults(r, o)
			ahead := *o
			if _, ok := ahead.call(results); ok {
				yes++
			} else if o.left() > 0 {
				no++
			}
			calls(t, h, o, results)
		}
	}
	if yes < 1000 || no < 1000 {
		t.Errorf("drawn: %d calls that are answered, %d replies that are refused", yes, no)
	}
}

// TestSideBySide: hosts of one script know nothing of each other.
func TestSideBySide(t *testing.T) {
	r := rand.New(rand.NewSource(154))
	for range 300 {
		script := drawnScript(r, 10)
		var hosts []*host.Host
		var models []*model
		for range 3 {
			h, o := both(t, script, r.Intn(len(script)+2)-1)
			hosts, models = append(hosts, h), append(models, o)
		}
		for range 40 {
			at := r.Intn(3)
			calls(t, hosts[at], models[at], drawnResults(r, models[at]))
			for k, h := range hosts {
				holds(t, h, models[k])
			}
		}
	}
}

// TestTwoScripts: nor do hosts of scripts of which one is a piece of the other.
func TestTwoScripts(t *testing.T) {
	script := replies(5)
	for _, piece := range [][]api.Reply{script[:3], script[2:], script[1:4], script[:0], script} {
		a, o := both(t, script, 0)
		b, p := both(t, piece, 0)
		for range 6 {
			calls(t, a, o, "w")
			holds(t, b, p)
			calls(t, b, p, "w")
			holds(t, a, o)
		}
	}
}
