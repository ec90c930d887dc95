package lower_test

import (
	"slices"
	"strconv"
	"strings"
	"testing"

	"flagon/api"
	"flagon/lower"
)

// nest writes a function of openers that lie in one another, and puts down beside it what way the label of each has.
type nest struct {
	m      api.Module
	words  []string
	height int         // of the stack
	dead   bool        // a way's end was written last
	ways   []lower.Way // of the labels, the outermost opener's first
}

func (n *nest) put(words ...string) {
	n.words = append(n.words, words...)
}

// push puts so many values on.
func (n *nest) push(count int) {
	for range count {
		n.put([]string{"w.const", "l.const"}[n.height%2])
		n.height++
	}
}

// drop takes so many off.
func (n *nest) drop(count int) {
	for range count {
		n.put("drop")
		n.height--
	}
}

// letters: of so many values that are pushed from that height on.
func letters(height, count int) string {
	return strings.Repeat("wl", 200)[height%2:][:count]
}

// open opens that one, with so many values below it, so many parameters and so many results, and lets inside write what is in it; behind its end the values below are dropped again.
func (n *nest) open(word string, below, params, results int, inside func()) {
	n.push(below)
	floor := n.height
	n.push(params)
	if word == "if" {
		n.put("w.const")
	}
	way := lower.Way{To: len(n.words) + 1, Keep: params, Floor: floor}
	n.put(word + ":" + letters(floor, params) + ">" + letters(floor, results))
	at := len(n.ways)
	n.ways = append(n.ways, way)
	if word != "loop" {
		n.ways[at] = lower.Way{Keep: results, Floor: floor}
	}
	inside()
	n.fill(floor, results)
	if word == "if" {
		n.put("else")
		n.height = floor + params
		n.fill(floor, results)
	}
	n.put("end")
	if word != "loop" {
		n.ways[at].To = len(n.words)
	}
	n.drop(n.height - floor + below)
}

// fill comes from what is there to that floor and so many values above it; behind a way's end it is there already.
func (n *nest) fill(floor, count int) {
	if n.dead {
		n.dead, n.height = false, floor+count
		return
	}
	n.drop(n.height - floor)
	n.push(count)
}

// dimension: of an opener: how many values lie below it, and how many its type has.
type dimension struct {
	word                   string
	below, params, results int
}

// around: that of the opener that lies so many deep; each word meets many counts.
func around(k, turn int) dimension {
	return dimension{[]string{"block", "loop", "if"}[(k+turn)%3], (k + turn/2) % 4, (k*5 + turn) % 4, (k*3 + turn*2 + 1) % 5}
}

// results: how many the function has.
const results = 2

// asks: the letters that the label of that number brings, by the ways that are put down so far.
func (n *nest) asks(number int) (floor, keep int) {
	if number == len(n.ways) {
		return 0, results
	}
	way := n.ways[len(n.ways)-1-number]
	return way.Floor, way.Keep
}

// branch writes a branch to that label with what it asks for, and values below that, which are dropped on the way.
func (n *nest) branch(word, numbers string, first int) (pc int) {
	floor, keep := n.asks(first)
	n.push((floor + n.height) % 2) // so that the letters fit
	n.push(2)
	n.push(keep)
	if word != "br" {
		n.put("w.const")
	}
	n.put(word + ":" + numbers)
	return len(n.words) - 1
}

// nested is a function of that depth; inside writes its innermost part.
func nested(depth, turn int, inside func(n *nest)) *nest {
	n := &nest{}
	var deeper func(k int)
	deeper = func(k int) {
		if k == depth {
			inside(n)
			return
		}
		x := around(k, turn)
		n.open(x.word, x.below, x.params, x.results, func() { deeper(k + 1) })
	}
	deeper(0)
	n.fill(0, results)
	n.put("end")
	put(&n.m, ">"+letters(0, results), "", strings.Join(n.words, " "))
	return n
}

// way: what that of the label of that number is, as it was put down.
func (n *nest) way(number int) lower.Way {
	if number == len(n.ways) {
		return lower.Way{To: -1, Keep: results}
	}
	return n.ways[len(n.ways)-1-number]
}

// TestBrifDepths: every label at every depth, to MaxNest openers and the body.
func TestBrifDepths(t *testing.T) {
	for depth := range 33 {
		for turn := range 6 {
			var at []int // of each label the pc of its brif
			n := nested(depth, turn, func(n *nest) {
				for number := range depth + 1 {
					before := n.height
					at = append(at, n.branch("brif", strconv.Itoa(number), number))
					n.drop(n.height - before)
				}
			})
			lines := asked(t, n.m, 0)
			for number, pc := range at {
				if got, want := lines[pc].Ways, []lower.Way{n.way(number), {To: pc + 1, Floor: -1}}; !slices.Equal(got, want) {
					t.Fatalf("P18.1: brif %d at depth %d: %s, not %s: %s", number, depth, show(got), show(want), told(n.m, 0))
				}
			}
			along(t, n.m)
			if turn == depth%6 {
				hold(t, n.m)
			}
		}
	}
}

// TestBrDepths: as a brif, but that it is a way's end.
func TestBrDepths(t *testing.T) {
	for depth := range 33 {
		for number := range depth + 1 {
			pc := 0
			n := nested(depth, number, func(n *nest) {
				pc = n.branch("br", strconv.Itoa(number), number)
				n.dead = true
			})
			if got, want := asked(t, n.m, 0)[pc].Ways, []lower.Way{n.way(number)}; !slices.Equal(got, want) {
				t.Fatalf("P18.1: br %d at depth %d: %s, not %s: %s", number, depth, show(got), show(want), told(n.m, 0))
			}
			along(t, n.m)
		}
	}
}

// alike: up to 16 numbers of labels that bring the same letters as that one does, from far out to near and back, so that most are there twice.
func (n *nest) alike(number int) []int {
	floor, keep := n.asks(number)
	list := []int{number}
	for k := len(n.ways); k >= 0; k-- {
		if f, c := n.asks(k); letters(f, c) == letters(floor, keep) {
			list = append(list, k)
		}
	}
	list = list[:min(len(list), 9)]
	for at := len(list) - 1; at >= 0 && len(list) < 16; at-- {
		list = append(list, list[at])
	}
	return list
}

// TestBrtableDepths: the ways of several labels, in their order, the same one more than once.
func TestBrtableDepths(t *testing.T) {
	full := 0
	for depth := range 33 {
		for number := range depth + 1 {
			pc, list := 0, []int{}
			n := nested(depth, number, func(n *nest) {
				list = n.alike(number)
				var digits []string
				for _, k := range list {
					digits = append(digits, strconv.Itoa(k))
				}
				pc = n.branch("brtable", strings.Join(digits, ","), number)
				n.dead = true
			})
			var want []lower.Way
			for _, k := range list {
				want = append(want, n.way(k))
			}
			if got := asked(t, n.m, 0)[pc].Ways; !slices.Equal(got, want) {
				t.Fatalf("P18.1: brtable %v at depth %d: %s, not %s: %s", list, depth, show(got), show(want), told(n.m, 0))
			}
			along(t, n.m)
			if len(list) == 16 {
				full++
			}
		}
	}
	if full == 0 {
		t.Error("no brtable of 16 labels")
	}
}
