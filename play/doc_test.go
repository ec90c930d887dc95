package play_test

import (
	"strings"
	"testing"

	"flagon/play"
)

// examples are the ten of DOC.md: what goes in, an empty line, what comes out.
var examples = []string{
	`text "flagon\ntype - -> w\nmemory 1 2\nfunc 0 -\n  w.const 5\n  end\nexport main 0\n"
begin main
state
run slow 1
state
run fast 9
state

suspended used 0
frame 0 at 0
locals
stack
globals
pages 1 0
executed 1 asked 2 paid 1 back 0 entered 0
suspended used 1
frame 0 at 1
locals
stack 5
globals
pages 1 0
executed 1 asked 1 paid 1 back 0 entered 1
halted used 2
results 5
globals
pages 1 0
`,
	`text "flagon\ntype - -> w\nmemory 0 0\nfunc 0 -\n  w.const 5\n  w.const 6\n  w.add\n  end\nexport main 0\n"
begin main
run slow 9
begin main
run fast 9
begin main
run fast 2
run fast 2
state

executed 4 asked 4 paid 4 back 0 entered 0
executed 4 asked 1 paid 4 back 0 entered 1
executed 2 asked 4 paid 2 back 0 entered 1
executed 2 asked 1 paid 2 back 0 entered 1
halted used 4
results 11
globals
pages 0 0
`,
	`text "flagon\ntype - -> -\ntype w -> w\nmemory 0 0\nfunc 1 -\n  loop 0\n    get 0\n    w.const 1\n    w.sub\n    tee 0\n    brif 0\n  end\n  w.const 7\n  end\nexport down 0\n"
begin down 3
run fast 8
state
run slow 100
state

executed 8 asked 6 paid 8 back 0 entered 3
suspended used 8
frame 0 at 3
locals 2
stack 2 1
globals
pages 0 0
executed 11 asked 11 paid 11 back 0 entered 0
halted used 19
results 7
globals
pages 0 0
`,
	`text "flagon\ntype ww -> w\nmemory 0 0\nfunc 0 -\n  get 0\n  get 1\n  w.divs\n  end\nexport div 0\n"
begin div 7 -2
begin div 7 4294967294
run slow 9
state
begin div 7 0
run slow 9
state
begin div 2147483648 4294967295
run fast 9
state

error 42
executed 4 asked 4 paid 4 back 0 entered 0
halted used 4
results 4294967293
globals
pages 0 0
executed 3 asked 3 paid 3 back 0 entered 0
trapped used 3
trap 3
globals
pages 0 0
executed 3 asked 1 paid 4 back 1 entered 1
trapped used 3
trap 4
globals
pages 0 0
`,
	`text "flagon\ntype l -> l\ntype - -> l\nmemory 0 0\nfunc 0 -\n  get 0\n  l.eqz\n  if 1\n    l.const 1\n  else\n    get 0\n    get 0\n    l.const 1\n    l.sub\n    call 0\n    l.mul\n  end\n  end\nexport fact 0\n"
begin fact 5
run fast 20
state
run fast 1000
state

executed 20 asked 8 paid 20 back 0 entered 6
suspended used 20
frame 0 at 9
locals 5
stack 5
frame 0 at 9
locals 4
stack 4
frame 0 at 6
locals 3
stack 3
globals
pages 0 0
executed 42 asked 24 paid 42 back 0 entered 24
halted used 62
results 120
globals
pages 0 0
`,
	`text "flagon\ntype - -> w\nmemory 1 2\nfunc 0 -\n  w.const 8\n  w.const -2\n  w.store 4\n  w.const 1\n  grow\n  end\ndata 16 07ff\nexport main 0\n"
begin main
run slow 3
state
run slow 9
state

executed 3 asked 4 paid 3 back 0 entered 0
suspended used 3
frame 0 at 3
locals
stack
globals
pages 1 6
executed 3 asked 3 paid 3 back 0 entered 0
halted used 6
results 1
globals
pages 2 6
`,
	`text "flagon\ntype w -> w\nextern 0\nmemory 0 0\nfunc 0 -\n  get 0\n  host 0\n  host 0\n  end\nexport ask 0\n"
script 5 trap
begin ask 1
run fast 9
state
script 5 6
begin ask 1
run fast 9
state

executed 3 asked 2 paid 3 back 0 entered 2
trapped used 3
trap 6
globals
pages 0 0
executed 4 asked 3 paid 4 back 0 entered 3
halted used 4
results 6
globals
pages 0 0
`,
	`text "flagon\ntype - -> w\nmemory 0 0\nfunc 0 -\n  w.const 5\n  end\nexport main 0\n"
begin main
run slow 1
save
restore 00
state

executed 1 asked 2 paid 1 back 0 entered 0
46534e50010100010000000000010001000105
error 14 at 0
suspended used 1
frame 0 at 1
locals
stack 5
globals
pages 0 0
`,
	`text "flagon\ntype - -> w\nmemory 0 0\nfunc 0 -\n  end\n"
text "flagon\ntype - -> w\nmemory 0 0\nfunc 0 -\n  nix\n  end\n"
load 464c474e01
bytes
source

error 33 at 0 0
error 22 at 5 0
error 10 at 5 0
error 46
error 46
`,
	`nix
run slow
run quick 3
script 5,
restore 0g
begin
state

error 50
error 50
error 50
error 50
error 50
error 50
error 46
`,
}

// TestExamples: the ten of DOC.md, the last line feed there and not.
func TestExamples(t *testing.T) {
	if len(examples) != 10 {
		t.Fatal("not ten")
	}
	for at, example := range examples {
		in, want, _ := strings.Cut(example, "\n\n")
		for _, text := range []string{in + "\n", in} {
			if got := play.Run(text); got != want {
				t.Errorf("DOC.md, example %d: %q, not %q", at+1, got, want)
			}
		}
		p := fresh(t)
		told := ""
		for line := range strings.SplitSeq(in, "\n") {
			for _, next := range p.Do(line) {
				told += next + "\n"
			}
		}
		if told != want {
			t.Errorf("DOC.md, example %d by Do: %q, not %q", at+1, told, want)
		}
	}
}

// TestExamplesTogether: each text has a play of its own, but all of them may be done by one.
func TestExamplesTogether(t *testing.T) {
	in, want := "", ""
	for _, at := range []int{9, 0, 1, 2, 3, 4, 5, 6, 7} {
		text, told, _ := strings.Cut(examples[at], "\n\n")
		in, want = in+text+"\n\n", want+told
	}
	if got := play.Run(in); got != want {
		t.Errorf("P30.3: %q, not %q", got, want)
	}
}

// TestChapter: the second example of chapter 30; the first one is TestExamples, the third one TestShowNothing.
func TestChapter(t *testing.T) {
	for _, line := range []string{"nix", "run", "run slow", "run quick 3", "run slow 03", "state x", `"state"`, "restore 0", "restore 0g", "restore 0A", "text x", "begin", "script 5,", "begin main x", "load"} {
		tells(t, fresh(t), line, misfit)
	}
	for _, line := range []string{"state", "source", "bytes", "save", "run slow 1"} {
		tells(t, fresh(t), line, "error 46")
	}
	tells(t, fresh(t), "restore 00", "error 46 at 0")
}
