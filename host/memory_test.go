package host_test

import (
	"math/rand"
	"slices"
	"testing"

	"flagon/api"
	"flagon/host"
)

// roomy is the same script, in lists that have spare room.
func roomy(script []api.Reply) []api.Reply {
	out := slices.Clone(script)
	for at, reply := range out {
		out[at].Results = append(slices.Clone(reply.Results), 77, 77, 77)[:len(reply.Results)]
	}
	spare := api.Reply{Results: []uint64{77}, Trap: true}
	return append(out, spare, spare)[:len(script)]
}

// whole is a script with all spare room, in memory of its own.
func whole(script []api.Reply) []api.Reply {
	out := slices.Clone(script[:cap(script)])
	for at, reply := range out {
		out[at].Results = slices.Clone(reply.Results[:cap(reply.Results)])
	}
	return out
}

func same(a, b []api.Reply) bool {
	return slices.EqualFunc(a, b, func(x, y api.Reply) bool { return x.Trap == y.Trap && slices.Equal(x.Results, y.Results) })
}

// spoil writes over a list, spare room too.
func spoil(list []uint64) {
	list = list[:cap(list)]
	for at := range list {
		list[at] = 99
	}
}

// spoilScript writes over a script, the lists in it first, spare room too.
func spoilScript(script []api.Reply) {
	script = script[:cap(script)]
	for at := range script {
		spoil(script[at].Results)
		script[at] = api.Reply{Results: []uint64{99}, Trap: !script[at].Trap}
	}
}

// TestHanded: the script that is handed in is not changed, nor its spare room, whatever is called and whatever is done to the answers.
func TestHanded(t *testing.T) {
	r := rand.New(rand.NewSource(155))
	for range 500 {
		script := roomy(drawnScript(r, 8))
		before := whole(script)
		h, o := both(t, script, r.Intn(len(script)+3)-1)
		for range len(script) + 2 {
			results := drawnResults(r, o)
			o.call(results)
			l, _ := h.Call(results)
			spoil(l)
		}
		if !same(whole(script), before) {
			t.Fatal("R5: the script is changed")
		}
	}
}

// TestNotKept: the script may be changed behind New, and between any two calls.
func TestNotKept(t *testing.T) {
	r := rand.New(rand.NewSource(156))
	for range 500 {
		script := roomy(drawnScript(r, 8))
		h, o := both(t, script, r.Intn(len(script)+3)-1)
		ahead := r.Intn(len(script) + 1)
		for k := range len(script) + 2 {
			if k == ahead {
				spoilScript(script)
			}
			calls(t, h, o, drawnResults(r, o))
		}
	}
}

// TestToldStays: what Call told stays as it was told, whatever is called afterwards and whatever becomes of the script.
func TestToldStays(t *testing.T) {
	r := rand.New(rand.NewSource(157))
	for range 300 {
		script := roomy(drawnScript(r, 10))
		h, o := both(t, script, 0)
		var told, wanted [][]uint64
		for range len(script) + 1 {
			results := drawnResults(r, o)
			want, _ := o.call(results)
			l, _ := h.Call(results)
			told, wanted = append(told, l), append(wanted, want)
		}
		spoilScript(script)
		if !slices.EqualFunc(told, wanted, slices.Equal[[]uint64]) {
			t.Fatalf("what Call told did not stay: %v, not %v", told, wanted)
		}
	}
}

// TestToldNew: what Call told is new memory, spare room too: to write over it changes no other answer, of this host or of another one.
func TestToldNew(t *testing.T) {
	shared := []uint64{1, 2, 3, 4}
	script := []api.Reply{{Results: shared}, {Results: shared}, {Results: shared[:2]}, {Results: shared[2:]}, {Results: shared[1:3]}, {Results: shared}}
	letters := []string{"wwww", "llll", "ww", "ww", "lw", "wwww"}
	for at := range script {
		h, o := both(t, script, 0)
		beside, p := both(t, script, 0)
		var told, wanted [][]uint64
		for k := range script {
			if k == at {
				for _, l := range told {
					spoil(l)
				}
			}
			l, ok := h.Call(letters[k])
			want, _ := o.call(letters[k])
			if !ok || !slices.Equal(l, want) {
				t.Fatalf("R5: the call %d: %v, %v", k, l, ok)
			}
			told, wanted = append(told, l), append(wanted, want)
			calls(t, beside, p, letters[k])
		}
		spoil(told[at])
		for k, l := range told {
			if k > at && !slices.Equal(l, wanted[k]) {
				t.Fatalf("R5: the answers %d and %d share memory", at, k)
			}
		}
		if !slices.Equal(shared, []uint64{1, 2, 3, 4}) {
			t.Fatalf("R5: the script is changed: %v", shared)
		}
		asked(t, host.New(script, 0), answer{"wwww", []uint64{1, 2, 3, 4}, true})
	}
}

// TestToldGrown: to put something behind an answer reaches no other one.
func TestToldGrown(t *testing.T) {
	script := roomy(replies(5))
	before := whole(script)
	h, o := both(t, script, 0)
	for range 5 {
		want, _ := o.call("w")
		l, ok := h.Call("w")
		if l2 := append(l, 55, 55, 55); !ok || !slices.Equal(l, want) || len(l2) != 4 {
			t.Fatalf("R5: %v, %v, not %v", l, ok, want)
		}
	}
	if !same(whole(script), before) {
		t.Error("R5: the script is changed")
	}
}
