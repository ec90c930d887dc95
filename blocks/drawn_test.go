package blocks_test

import (
	"math/rand"

	"flagon/api"
)

// drawer draws codes that control.Map takes.
type drawer struct {
	r    *rand.Rand
	code []api.Ins
	most int
	cut  int // one of so many instructions ends a segment
}

// drawn is a code of about that many instructions, with openers up to that depth.
func drawn(r *rand.Rand, most, depth int) []api.Ins {
	d := &drawer{r: r, most: most, cut: 1 + r.Intn(24)}
	for len(d.code) < most {
		d.inside(depth)
	}
	d.put("end")
	return d.code
}

func (d *drawer) put(name string) {
	x := api.Ins{Op: opcode(name)}
	if name == "brtable" {
		for range d.r.Intn(6) {
			x.L = append(x.L, d.r.Intn(8)-1)
		}
	} else {
		x.A = int64(d.r.Intn(8) - 1)
	}
	d.code = append(d.code, x)
}

// inside draws what stands in an opener, or in one half of an if.
func (d *drawer) inside(depth int) {
	for len(d.code) < d.most && d.r.Intn(30) != 0 {
		if depth == 0 || d.r.Intn(d.cut) != 0 {
			d.put(d.single())
			continue
		}
		name := []string{"block", "loop", "if"}[d.r.Intn(3)]
		d.put(name)
		d.inside(depth - 1)
		if name == "if" && d.r.Intn(2) == 0 {
			d.put("else")
			d.inside(depth - 1)
		}
		d.put("end")
	}
}

// single draws the word of an instruction that opens and ends nothing; some are none's.
func (d *drawer) single() string {
	if d.r.Intn(d.cut) == 0 {
		return []string{"trap", "br", "brif", "brtable", "return", "call", "host"}[d.r.Intn(7)]
	}
	return []string{"nop", "drop", "select", "get", "w.const", "l.store", "grow", "w.divs", "l.eqz", "l.ext32", "0d", "ff"}[d.r.Intn(12)]
}
