package play_test

import (
	"strconv"
	"strings"
	"testing"

	"flagon/api"
)

// fiveStands is where a play of five has begun.
const fiveStands = "suspended used 0 / frame 0 at 0 / locals / stack / globals / pages 0 0"

// sourceOf is what is told by source of the module five.
var sourceOf = []string{"flagon", "type - -> w", "memory 0 0", "func 0 -", "  w.const 5", "  end", "export main 0"}

// TestText: its error with both numbers, or nothing.
func TestText(t *testing.T) {
	p := fresh(t)
	quiet(t, p, five)
	tells(t, p, "source", sourceOf...)
	for line, want := range map[string]string{
		`text ""`:                            "error 22 at 1 0",
		`text "flagon"`:                      "error 22 at 1 0",
		`text "flagon\n"`:                    "error 22 at 2 0",
		`text "flagon\nmemory 0 0\nget 0\n"`: "error 22 at 3 0",
		`text "flagon\nmemory 0 65\n"`:       "error 17 at 0 0",
		`text "flagon\ntype - -> w\nmemory 0 0\nfunc 0 -\n  end\n"`:                                           "error 33 at 0 0",
		`text "flagon\ntype - -> w\nmemory 0 0\nfunc 0 -\n  w.const 1\n  end\nfunc 0 -\n  nop\n  nop\n  end"`: "error 33 at 1 2",
		`text "flagon\ntype - -> -\nmemory 0 0\nfunc 0 -\n  nop\n  call 7\n  end"`:                            "error 30 at 0 1",
		`text "` + strings.Repeat(" ", 1<<20+1) + `"`:                                                         "error 13 at 0 0",
		`text "` + strings.Repeat(`\n`, 1<<20+1) + `"`:                                                        "error 13 at 0 0",
	} {
		tells(t, p, line, want)
		tells(t, p, "source", sourceOf...)
	}
	quiet(t, p, `text "flagon\nmemory 0 0`+strings.Repeat(`\n`, 1<<20-17)+`"`)
	tells(t, p, "source", "flagon", "memory 0 0")
	for _, line := range []string{"text", "text flagon", five + " x", five + ` "x"`, five + " " + five, "text 00", `text "flagon`} {
		p := ready(t)
		tells(t, p, line, misfit)
		stands(t, p, fiveStands)
	}
}

// TestLoad: likewise, and what bytes tells is what load takes.
func TestLoad(t *testing.T) {
	p := ready(t)
	bytes := p.Do("bytes")
	if len(bytes) != 1 || !strings.HasPrefix(bytes[0], "464c474e01") {
		t.Fatalf("P30.2: bytes: %q", bytes)
	}
	second := fresh(t)
	quiet(t, second, "load "+bytes[0])
	tells(t, second, "source", sourceOf...)
	tells(t, second, "bytes", bytes...)
	tells(t, second, "state", "error 46")
	var badly api.Module
	put(&badly, ">w", "", "w.const:1 end")
	put(&badly, ">w", "", "nop nop end")
	for line, want := range map[string]string{
		"load 464c474e01":                        "error 10 at 5 0",
		"load 464c474e02":                        "error 14 at 0 0",
		"load 00":                                "error 14 at 0 0",
		"load " + bytes[0] + "00":                "error 19 at " + strconv.Itoa(len(bytes[0])/2) + " 0",
		"load " + bytes[0][:len(bytes[0])-2]:     "error 10 at " + strconv.Itoa(len(bytes[0])/2-1) + " 0",
		"load " + octets(t, badly):               "error 33 at 1 2",
		"load " + octets(t, of(">w", "", "end")): "error 33 at 0 0",
		"load " + strings.Repeat("00", 1<<16+1):  "error 13 at 0 0",
		"load 464c474e0101":                      "error 10 at 6 0",
	} {
		tells(t, p, line, want)
		stands(t, p, fiveStands)
		tells(t, p, "bytes", bytes...)
	}
	for _, line := range []string{"load", "load " + bytes[0] + " 00", "load " + bytes[0] + " x", `load "` + bytes[0] + `"`, "load " + strings.ToUpper(bytes[0]), "load " + bytes[0] + "0", "load x" + bytes[0]} {
		p := ready(t)
		tells(t, p, line, misfit)
		stands(t, p, fiveStands)
	}
}

// TestBoth: what is loaded and what is told as a text lead to the same, of all kinds of modules.
func TestBoth(t *testing.T) {
	for _, x := range runs() {
		m := named(x.m)
		p, second := fresh(t), fresh(t)
		quiet(t, p, "text "+source(t, m))
		quiet(t, second, "load "+octets(t, m))
		tells(t, p, "bytes", octets(t, m))
		tells(t, second, "bytes", octets(t, m))
		tells(t, second, "source", p.Do("source")...)
		quiet(t, second, "text "+quotedWord(strings.Join(p.Do("source"), "\n")))
	}
}

// TestAlone: lines of one word, of which no other may stand behind.
func TestAlone(t *testing.T) {
	for _, word := range []string{"source", "bytes", "state", "save"} {
		tells(t, fresh(t), word, "error 46")
		for _, more := range []string{" x", " 0", " 00", ` "x"`, ` ""`, " " + word, " main"} {
			tells(t, fresh(t), word+more, misfit)
			tells(t, ready(t), word+more, misfit)
		}
	}
	p := fresh(t)
	quiet(t, p, five)
	tells(t, p, "source", sourceOf...)
	m := of(">w", "", "w.const:5 end")
	m.Exports = []api.Export{{Name: "main"}}
	tells(t, p, "bytes", octets(t, m))
	tells(t, p, "state", "error 46")
	tells(t, p, "save", "error 46")
	quiet(t, p, "begin main")
	stands(t, p, fiveStands)
	tells(t, p, "save", "46534e500101000000000000000100000000")
}

// ask is a module whose export ask hands its w to a host, what that answers to it again, and so on; its export two asks a host for a w and an l, its export go one for nothing.
const ask = `text "flagon\ntype w -> w\ntype - -> wl\ntype - -> -\nextern 0\nextern 1\nextern 2\nmemory 0 0\nfunc 0 -\n  get 0\n  host 0\n  host 0\n  end\nfunc 1 -\n  host 1\n  end\nfunc 2 -\n  host 2\n  end\nexport ask 0\nexport go 2\nexport two 1\n"`

// TestScript: what its replies say, told by runs that take them.
func TestScript(t *testing.T) {
	const tail = " / globals / pages 0 0"
	for _, x := range []struct{ script, begin, want string }{
		{"script 5 6", "ask 1", "halted used 4 / results 6" + tail},
		{"script 5 6 7 8", "ask 1", "halted used 4 / results 6" + tail},
		{"script   5    6  ", "ask 1", "halted used 4 / results 6" + tail},
		{"script 5 trap", "ask 1", "trapped used 3 / trap 6" + tail},
		{"script 5", "ask 1", "trapped used 3 / trap 6" + tail},
		{"script", "ask 1", "trapped used 2 / trap 6" + tail},
		{"script trap", "ask 1", "trapped used 2 / trap 6" + tail},
		{"script none", "ask 1", "trapped used 2 / trap 6" + tail},
		{"script 4294967295 4294967295", "ask 1", "halted used 4 / results 4294967295" + tail},
		{"script 4294967296", "ask 1", "trapped used 2 / trap 6" + tail},
		{"script -1", "ask 1", "trapped used 2 / trap 6" + tail},
		{"script 5,6", "ask 1", "trapped used 2 / trap 6" + tail},
		{"script 5,6", "two", "halted used 2 / results 5 6" + tail},
		{"script 0,-1", "two", "halted used 2 / results 0 18446744073709551615" + tail},
		{"script 1,9223372036854775808", "two", "halted used 2 / results 1 9223372036854775808" + tail},
		{"script 1,18446744073709551615 7", "two", "halted used 2 / results 1 18446744073709551615" + tail},
		{"script 1,-9223372036854775808", "two", "halted used 2 / results 1 9223372036854775808" + tail},
		{"script 5,6,7", "two", "trapped used 1 / trap 6" + tail},
		{"script 5", "two", "trapped used 1 / trap 6" + tail},
		{"script none", "two", "trapped used 1 / trap 6" + tail},
		{"script none", "go", "halted used 2 / results" + tail},
		{"script 0", "go", "trapped used 1 / trap 6" + tail},
		{"script trap", "go", "trapped used 1 / trap 6" + tail},
		{"script 1,2,3,4,5,6,7,8,9,10,11,12,13,14,15,16,17,18,19,20", "go", "trapped used 1 / trap 6" + tail},
	} {
		p := fresh(t)
		quiet(t, p, ask, x.script, "begin "+x.begin)
		p.Do("run fast 9")
		stands(t, p, x.want)
	}
}

// TestScriptMisfits: the script is then the one that it was.
func TestScriptMisfits(t *testing.T) {
	for _, reply := range []string{"5,", ",", ",5", "5,,6", "5,6,", ",,", "trap,5", "5,trap", "none,none", "none,5", "5,none", "trap,", "traps", "Trap", "nones", "-0", "05", "+5", "5,05", "5;6", "x", "-", "5.0", "18446744073709551616", "-9223372036854775809", "1,18446744073709551616", `"5"`, `"trap"`, `""`, `"none"`, `5 "6"`, "5 x", "x 5", "trap none 5,", `5" 6`} {
		p := fresh(t)
		quiet(t, p, ask, "script 8 9", "begin ask 1")
		tells(t, p, "script "+reply, misfit)
		tells(t, p, "run slow 9", "executed 4 asked 4 paid 4 back 0 entered 0")
		stands(t, p, "halted used 4 / results 9 / globals / pages 0 0")
	}
	quiet(t, fresh(t), "script", "script 1", "script trap none 1,2")
}

// TestBegin: its error, or nothing.
func TestBegin(t *testing.T) {
	p := fresh(t)
	for _, line := range []string{"begin main", "begin main 1 2", "begin x", "begin main 18446744073709551615 -1"} {
		tells(t, p, line, "error 46")
	}
	quiet(t, p, ask, "begin ask 7")
	stands(t, p, "suspended used 0 / frame 0 at 0 / locals 7 / stack / globals / pages 0 0")
	quiet(t, p, "begin   two  ")
	stands(t, p, "suspended used 0 / frame 1 at 0 / locals / stack / globals / pages 0 0")
	for line, want := range map[string]string{
		"begin as":                       "error 41",
		"begin asks 1":                   "error 41",
		"begin 5":                        "error 41",
		"begin -":                        "error 41",
		"begin 5,":                       "error 41",
		"begin \\n":                      "error 41",
		"begin ask":                      "error 42",
		"begin ask 4294967296":           "error 42",
		"begin ask -1":                   "error 42",
		"begin ask 1 2":                  "error 42",
		"begin two 0":                    "error 42",
		"begin":                          misfit,
		`begin "two"`:                    misfit,
		`begin ""`:                       misfit,
		"begin ask x":                    misfit,
		"begin ask 07":                   misfit,
		"begin ask 1 x":                  misfit,
		"begin ask x 1":                  misfit,
		"begin ask 1,":                   misfit,
		"begin ask trap":                 misfit,
		`begin ask "1"`:                  misfit,
		`begin ask 1 "2"`:                misfit,
		"begin ask 18446744073709551616": misfit,
		"begin as x":                     misfit,
	} {
		tells(t, p, line, want)
		stands(t, p, "suspended used 0 / frame 1 at 0 / locals / stack / globals / pages 0 0")
	}
	quiet(t, p, "begin ask 4294967295")
	stands(t, p, "suspended used 0 / frame 0 at 0 / locals 4294967295 / stack / globals / pages 0 0")
}

// TestBeginValues: in their order.
func TestBeginValues(t *testing.T) {
	p := fresh(t)
	quiet(t, p, `text "flagon\ntype wlwl -> -\nmemory 1 1\nfunc 0 wl\n  end\nexport f 0\n"`, "begin f 1 -2 3 18446744073709551612")
	stands(t, p, "suspended used 0 / frame 0 at 0 / locals 1 18446744073709551614 3 18446744073709551612 0 0 / stack / globals / pages 1 0")
}

// TestRun: its error, or what the engine counted.
func TestRun(t *testing.T) {
	for _, engine := range []string{"slow", "fast"} {
		tells(t, fresh(t), "run "+engine+" 1", "error 46")
		tells(t, fresh(t), "run "+engine+" -1", "error 46")
		p := fresh(t)
		quiet(t, p, five)
		tells(t, p, "run "+engine+" 1", "error 46")
		quiet(t, p, "begin main")
		tells(t, p, "run "+engine+" -1", "error 40")
		stands(t, p, fiveStands)
		p.Do("run " + engine + " 9")
		stands(t, p, "halted used 2 / results 5 / globals / pages 0 0")
		tells(t, p, "run "+engine+" 9", "error 47")
		stands(t, p, "halted used 2 / results 5 / globals / pages 0 0")
	}
	for line, want := range map[string]string{
		"run slow 0": "executed 0 asked 1 paid 0 back 0 entered 0",
		"run slow 1": "executed 1 asked 2 paid 1 back 0 entered 0",
		"run slow 2": "executed 2 asked 2 paid 2 back 0 entered 0",
		"run fast 0": "executed 0 asked 2 paid 0 back 0 entered 1",
		"run fast 1": "executed 1 asked 3 paid 1 back 0 entered 1",
		"run fast 2": "executed 2 asked 1 paid 2 back 0 entered 1",
		"run fast 9": "executed 2 asked 1 paid 2 back 0 entered 1",
	} {
		tells(t, ready(t), line, want)
	}
	p := fresh(t)
	quiet(t, p, `text "flagon\ntype - -> -\nmemory 0 0\nfunc 0 -\n  trap\n  end\nexport f 0\n"`, "begin f")
	tells(t, p, "run fast 1", "executed 1 asked 1 paid 1 back 0 entered 1")
	quiet(t, p, `text "flagon\ntype - -> w\nmemory 0 0\nfunc 0 -\n  w.const 1\n  w.const 0\n  w.divs\n  nop\n  nop\n  end\nexport f 0\n"`, "begin f")
	tells(t, p, "run fast 9", "executed 3 asked 1 paid 6 back 3 entered 1")
	for _, line := range []string{"run", "run slow", "run fast", "run 1", "run slow 1 2", "run slow 1 x", `run slow 1 ""`, "run 1 slow", "run quick 1", "run Slow 1", "run slo 1", "run slow1", "run 0 1", "run slow fast", `run "slow" 1`, `run slow "1"`, "run slow x", "run slow 1,", "run fast 01", "run fast 9223372036854775808"} {
		p := ready(t)
		tells(t, p, line, misfit)
		stands(t, p, fiveStands)
	}
}

// TestSaved: what save tells restore takes, in another play of that module, too.
func TestSaved(t *testing.T) {
	p := ready(t)
	p.Do("run slow 1")
	const saved = "46534e50010100010000000000010001000105"
	tells(t, p, "save", saved)
	second := fresh(t)
	tells(t, second, "restore "+saved, "error 46 at 0")
	quiet(t, second, five)
	tells(t, second, "save", "error 46")
	quiet(t, second, "restore "+saved)
	stands(t, second, "suspended used 1 / frame 0 at 1 / locals / stack 5 / globals / pages 0 0")
	tells(t, second, "run fast 9", "executed 1 asked 1 paid 1 back 0 entered 1")
	tells(t, second, "save", "46534e500102000200010500000000")
	for line, want := range map[string]string{
		"restore " + saved + "00":                        "error 19 at 19",
		"restore " + saved[:len(saved)-2]:                "error 10 at 18",
		"restore 46534e50010400":                         "error 17 at 5",
		"restore 46534e5001":                             "error 10 at 5",
		"restore 46534e50010100010000000000010002000105": "error 44 at 9",
		"restore 00":                                     "error 14 at 0",
		"restore":                                        misfit,
		"restore " + saved + " 00":                       misfit,
		"restore " + saved + " x":                        misfit,
		`restore "` + saved + `"`:                        misfit,
		"restore " + saved + "0":                         misfit,
		"restore 4653 4e50":                              misfit,
		"restore " + strings.ToUpper(saved):              misfit,
		"restore " + strings.Repeat("00", 1<<19+1):       "error 13 at 0",
	} {
		p := ready(t)
		tells(t, p, line, want)
		stands(t, p, fiveStands)
	}
}

// TestFresh: a module that is taken leaves neither a script nor a state behind.
func TestFresh(t *testing.T) {
	p := fresh(t)
	quiet(t, p, ask, "script 8 9", "begin ask 1", ask)
	tells(t, p, "state", "error 46")
	quiet(t, p, "begin ask 1")
	p.Do("run slow 9")
	stands(t, p, "trapped used 2 / trap 6 / globals / pages 0 0")
}
