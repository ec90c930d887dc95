package play_test

import (
	"strings"
	"testing"

	"flagon/play"
)

// runsTo: does Run tell that?
func runsTo(t *testing.T, text, want string) {
	t.Helper()
	if got := play.Run(text); got != want {
		t.Errorf("P30.3: of %.200q: %.300q, not %.300q", text, got, want)
	}
}

func TestRunTexts(t *testing.T) {
	for _, x := range []struct{ text, want string }{
		{"", ""},
		{"\n", ""},
		{"\n\n\n", ""},
		{" ", ""},
		{" \n  \n", ""},
		{"   ", ""},
		{"nix", "error 50\n"},
		{"nix\n", "error 50\n"},
		{"\nnix", "error 50\n"},
		{"\n\nnix\n\n", "error 50\n"},
		{"nix\nstate", "error 50\nerror 46\n"},
		{"nix\n\n\nstate\n", "error 50\nerror 46\n"},
		{"nix\n \nstate\n ", "error 50\nerror 46\n"},
		{"state\nnix\n", "error 46\nerror 50\n"},
		{"state\rnix\n", "error 50\n"},
		{"state\r\nstate", "error 50\nerror 46\n"},
		{"\r\n", "error 50\n"},
		{"\r", "error 50\n"},
		{"\t\n\x00", "error 50\nerror 50\n"},
		{"state\x0bstate\x0cstate\u2028state\u0085state", "error 50\n"},
		{"restore 00\n", "error 46 at 0\n"},
		{"script 5\nscript\n", ""},
		{five, ""},
		{five + "\n", ""},
		{five + "\nsource", strings.Join(sourceOf, "\n") + "\n"},
		{five + "\nbegin main\nsave", "46534e500101000000000000000100000000\n"},
		{"text \"flagon\nmemory 0 0\n\"\n", "error 50\nerror 50\nerror 50\n"},
	} {
		runsTo(t, x.text, x.want)
	}
	runsTo(t, strings.Repeat("\n", 100000), "")
	runsTo(t, strings.Repeat("state\n", 10000), strings.Repeat("error 46\n", 10000))
}

// TestRunAlone: each Run has a play of its own, and no other play knows of it.
func TestRunAlone(t *testing.T) {
	p := ready(t)
	for range 2 {
		runsTo(t, "state\n"+five+"\nstate\nbegin main\nrun slow 9\nstate", "error 46\nerror 46\nexecuted 2 asked 2 paid 2 back 0 entered 0\nhalted used 2\nresults 5\nglobals\npages 0 0\n")
		runsTo(t, "state\nsource\n", "error 46\nerror 46\n")
		stands(t, p, fiveStands)
	}
}

// TestApart: two plays know nothing of each other.
func TestApart(t *testing.T) {
	first, second, third := ready(t), ready(t), fresh(t)
	first.Do("run slow 1")
	stands(t, second, fiveStands)
	tells(t, third, "state", "error 46")
	quiet(t, second, identity)
	stands(t, first, "suspended used 1 / frame 0 at 1 / locals / stack 5 / globals / pages 0 0")
	tells(t, first, "source", sourceOf...)
	quiet(t, third, "script 1 2 3")
	first.Do("run fast 9")
	stands(t, first, "halted used 2 / results 5 / globals / pages 0 0")
}

// TestAnswers: what is told is new memory, spare room too.
func TestAnswers(t *testing.T) {
	p := ready(t)
	for _, line := range []string{"state", "source", "bytes", "save", "nix"} {
		want := append([]string(nil), p.Do(line)...)
		got := p.Do(line)
		got = got[:cap(got)]
		for at := range got {
			got[at] = "x"
		}
		tells(t, p, line, want...)
	}
}

// TestNoPlay: of a nil play, and of one that New did not make, nothing is told.
func TestNoPlay(t *testing.T) {
	for _, p := range []*play.Play{nil, {}, new(play.Play)} {
		for _, line := range []string{"", " ", "\n", "nix", "state", "source", "bytes", "save", five, "begin main", "run slow 1", "run", "script 5", "script 5,", "load 00", "load", "restore 00", `"`, `text "`, "\t", "é"} {
			for range 2 {
				if got := p.Do(line); len(got) != 0 {
					t.Errorf("P30.4: of %q: %q", line, got)
				}
			}
		}
	}
}
