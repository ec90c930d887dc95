package host_test

import (
	"math"
	"math/rand"
	"slices"
	"testing"

	"flagon/api"
	"flagon/host"
)

// high is the first number that is no w, told once more here so that the bound is tested, too.
const high = 1 << 32

// model is the document's host: the script as it was written, and how many of its replies are taken.
type model struct {
	script []api.Reply
	taken  int
}

func modelOf(script []api.Reply, taken int) *model {
	if taken < 0 {
		taken = 0
	}
	o := &model{taken: taken}
	for _, reply := range script {
		o.script = append(o.script, api.Reply{Results: slices.Clone(reply.Results), Trap: reply.Trap})
	}
	return o
}

func (o *model) left() int {
	if o.taken > len(o.script) {
		return 0
	}
	return len(o.script) - o.taken
}

func (o *model) call(results string) ([]uint64, bool) {
	if o.left() == 0 {
		return nil, false
	}
	reply := o.script[o.taken]
	o.taken++
	switch {
	case reply.Trap, len(reply.Results) != len([]byte(results)):
		return nil, false
	}
	for at, letter := range []byte(results) {
		switch letter {
		case 'w':
			if reply.Results[at]>>32 != 0 {
				return nil, false
			}
		case 'l':
		default:
			return nil, false
		}
	}
	return slices.Clone(reply.Results), true
}

// both: a host, and the model of it.
func both(t *testing.T, script []api.Reply, taken int) (*host.Host, *model) {
	t.Helper()
	h, o := host.New(script, taken), modelOf(script, taken)
	if h == nil {
		t.Fatalf("P15.1: New(%d replies, %d): nil", len(script), taken)
	}
	holds(t, h, o)
	return h, o
}

// holds: does the host tell what the model does, asked twice?
func holds(t *testing.T, h *host.Host, o *model) {
	t.Helper()
	for range 2 {
		if h.Taken() != o.taken || h.Left() != o.left() {
			t.Fatalf("P15.3: Taken %d, Left %d, not %d, %d", h.Taken(), h.Left(), o.taken, o.left())
		}
	}
}

// calls: does the host answer what the model does, and stand as it does behind the call?
func calls(t *testing.T, h *host.Host, o *model, results string) {
	t.Helper()
	ahead := o.taken
	want, may := o.call(results)
	l, ok := h.Call(results)
	if ok != may || !slices.Equal(l, want) {
		t.Fatalf("P15.2: Call(%.20q), %d taken: %.9v, %v, not %.9v, %v", results, ahead, l, ok, want, may)
	}
	holds(t, h, o)
}

// replies is a script of one value a reply: its number, from 0 on.
func replies(n int) []api.Reply {
	var script []api.Reply
	for k := range n {
		script = append(script, api.Reply{Results: []uint64{uint64(k)}})
	}
	return script
}

// values are numbers at the edges of both letters.
func values() []uint64 {
	return []uint64{0, 1, 1<<31 - 1, 1 << 31, high - 1, high, high + 1, high << 1, 1 << 63, math.MaxUint64}
}

// takens are numbers below 0, within, at and above a script of n replies.
func takens(n int) []int {
	list := []int{math.MinInt, math.MinInt + 1, math.MinInt32, -high, -n - 1, -n, -2, -1}
	for k := 0; k <= n+2; k++ {
		list = append(list, k)
	}
	return append(list, 2*n, n+1000, math.MaxInt32, high-1, high, high+1, math.MaxInt-1, math.MaxInt)
}

// drawnScript: replies that trap, that have values or none, some of them with high bits.
func drawnScript(r *rand.Rand, most int) []api.Reply {
	var script []api.Reply
	for range r.Intn(most + 1) {
		reply := api.Reply{Trap: r.Intn(6) == 0}
		for range r.Intn(4) {
			v := values()[r.Intn(len(values()))]
			if r.Intn(3) > 0 {
				v %= high
			}
			reply.Results = append(reply.Results, v)
		}
		script = append(script, reply)
	}
	return script
}

// drawnResults: often letters that the model's next reply fits, now and then with one that is none.
func drawnResults(r *rand.Rand, o *model) string {
	n := r.Intn(4)
	if o.left() > 0 && r.Intn(4) > 0 {
		n = len(o.script[o.taken].Results)
	}
	results := make([]byte, n)
	for at := range results {
		results[at] = "wl"[r.Intn(2)]
		if r.Intn(12) == 0 {
			results[at] = byte(r.Intn(256))
		}
	}
	return string(results)
}
