package play_test

import (
	"strings"
	"testing"
)

// begunAt is what a play of the module five tells of its state where it has begun.
var begunAt = []string{"suspended used 0", "frame 0 at 0", "locals", "stack", "globals", "pages 0 0"}

// TestNoWords: a line without a word tells nothing.
func TestNoWords(t *testing.T) {
	for _, line := range []string{"", " ", "  ", strings.Repeat(" ", 1000)} {
		quiet(t, fresh(t), line)
		quiet(t, ready(t), line)
	}
}

// TestBlanks: any number of them ahead, behind and between changes nothing, and no other byte is one.
func TestBlanks(t *testing.T) {
	p := ready(t)
	for _, line := range []string{"state", " state", "state ", "  state   ", strings.Repeat(" ", 99) + "state" + strings.Repeat(" ", 99)} {
		tells(t, p, line, begunAt...)
	}
	for _, line := range []string{"run slow 1", " run slow 1", "run slow 1 ", "run  slow 1", "run slow   1", "   run  slow    1  "} {
		tells(t, ready(t), line, "executed 1 asked 2 paid 1 back 0 entered 0")
	}
	quiet(t, p, "  "+strings.Replace(five, " ", "     ", 1)+"   ")
	for c := range 256 {
		b := string([]byte{byte(c)})
		for _, line := range []string{b + "state", "state" + b, b + " state", "state " + b, "run" + b + "slow 0", "run slow" + b + "0", "run slow 0" + b, b + "run slow 0", "st" + b + "ate"} {
			if b == " " && line != "st ate" {
				continue
			}
			if b >= "0" && b <= "9" && strings.HasPrefix(line, "run slow 0") {
				continue // 00 and such are tried below
			}
			tells(t, ready(t), line, misfit)
		}
	}
}

// TestBytes: a line has no bytes but those from 32 to 126, wherever they would stand.
func TestBytes(t *testing.T) {
	for c := range 256 {
		if ' ' <= c && c <= '~' {
			continue
		}
		b := string([]byte{byte(c)})
		for _, line := range []string{b, " " + b, b + " ", "  " + b + "  ", "state" + b, "begin main" + b, "begin " + b, "begin main 1" + b, `text "` + b + `"`, `text "flagon` + b + `\nmemory 0 0\n"`, `text "a"` + b, `text "a" ` + b, `text ` + b + `"a"`, `"` + b} {
			tells(t, fresh(t), line, misfit)
		}
	}
	for _, line := range []string{"é", "state é", "\u00a0", "state\u00a0", "\u2003state", `text "é"`, "\ufeffstate", "ſtate"} {
		tells(t, ready(t), line, misfit)
	}
}

// TestLineFeed: a line has none, wherever it would stand.
func TestLineFeed(t *testing.T) {
	for _, line := range []string{"\n", "\n\n", " \n", "\n ", "state\n", "\nstate", "state \n", "state\n ", "run\nslow 1", "run slow\n1", "run slow 1\n", "state\r\n", "state\r", "text \"flagon\nmemory 0 0\n\"", "nix\n"} {
		p := ready(t)
		tells(t, p, line, misfit)
		stands(t, p, strings.Join(begunAt, " / "))
	}
}

// TestPlainBytes: each byte from 33 to 126 but a quote may stand in a plain word.
func TestPlainBytes(t *testing.T) {
	for c := byte('!'); c <= '~'; c++ {
		name := "a" + string(c) + "b"
		want := "error 41"
		if c == '"' {
			want = misfit
		}
		tells(t, ready(t), "begin "+name, want)
		tells(t, ready(t), "begin "+string(c), want)
	}
	p := fresh(t)
	quiet(t, p, strings.Replace(five, "export main", `export a\\n\\b`, 1), `begin a\n\b`)
	stands(t, p, strings.Join(begunAt, " / "))
}

// TestFirstWord: one of the table's, plain.
func TestFirstWord(t *testing.T) {
	for _, line := range []string{"nix", "State", "STATE", "stat", "states", "state.", "x state", `"state"`, `"" state`, `""`, `"`, `state"`, `"state`, `"save"`, `"run" slow 1`, `"begin" main`, `"source"`, `"bytes"`, `"script" 5`, `"load" 00`, `"restore" 00`, `"text" "flagon"`, `""state`, "0", "-", "50", ";", "; state", "\\", "error", "error 50", "halted", "quit"} {
		p := ready(t)
		tells(t, p, line, misfit)
		stands(t, p, strings.Join(begunAt, " / "))
	}
}

// TestQuoted: what may stand between quotes, and what it says.
func TestQuoted(t *testing.T) {
	for _, x := range []struct{ line, want string }{
		{`text ""`, "error 22 at 1 0"},                       // nothing
		{`text " "`, "error 22 at 1 0"},                      // a blank
		{`text "flagon\nmemory 0 0"`, ""},                    // a line feed
		{`text "flagon\nmemory 0 0\n"`, ""},                  // two
		{`text "flagon\n; \"\\\nmemory 0 0\n"`, ""},          // a remark of a quote and a backslash
		{`text "flagon\n; \\n\nmemory 0 0\n"`, ""},           // a backslash and an n
		{`text "flagon\\nmemory 0 0"`, "error 22 at 1 0"},    // likewise: it is one line
		{`text "flagon\n\"\nmemory 0 0"`, "error 22 at 2 0"}, // a quote
		{`text "flagon\n\\\nmemory 0 0"`, "error 22 at 2 0"}, // a backslash
		{`text "\n\n\n"`, "error 22 at 4 0"},
		{`text "\\\\n"`, "error 22 at 1 0"},
		{`text "\\\n"`, "error 22 at 1 0"},
		{`text "flagon nmemory 0 0"`, "error 22 at 1 0"},
		{`text "flagon"`, "error 22 at 1 0"},
		{`text "nix"`, "error 22 at 1 0"},
		{`text "\"`, misfit},
		{`text "\\"x`, misfit},
		{`text "`, misfit},
		{`text "flagon`, misfit},
		{`text "flagon\`, misfit},
		{`text "flagon\n`, misfit},
		{`text "flagon\"`, misfit},
		{`text """`, misfit},
		{`text """"`, misfit},
		{`text "" ""`, misfit},
		{`text "a""b"`, misfit},
		{`text "a"b`, misfit},
		{`text a"b"`, misfit},
		{`text "a"b"`, misfit},
		{`text "flagon\nmemory 0 0"x`, misfit},
		{`text x"flagon\nmemory 0 0"`, misfit},
		{`text"flagon\nmemory 0 0"`, misfit},
		{`text "flagon\nmemory 0 0" x`, misfit},
		{`text "flagon\nmemory 0 0" "x"`, misfit},
		{`text "flagon\nmemory 0 0" "`, misfit},
		{`text "flagon\nmemory 0 0"  `, ""},
		{`   text    "flagon\nmemory 0 0"`, ""},
		{`text`, misfit},
		{`text flagon`, misfit},
		{`text 'flagon'`, misfit},
		{`text \"flagon\"`, misfit},
	} {
		if x.want == "" {
			quiet(t, fresh(t), x.line)
		} else {
			tells(t, fresh(t), x.line, x.want)
		}
	}
}

// TestEscapes: no other byte may stand behind a backslash.
func TestEscapes(t *testing.T) {
	for c := range 256 {
		b := string([]byte{byte(c)})
		line := `text "flagon\nmemory 0 0\n; \` + b + ` x"`
		switch b {
		case "n":
			tells(t, fresh(t), line, "error 22 at 4 0")
		case `"`:
			tells(t, fresh(t), line+` y`, misfit)
			quiet(t, fresh(t), line)
		case `\`:
			quiet(t, fresh(t), line)
		default:
			tells(t, fresh(t), line, misfit)
		}
	}
}

// TestQuotedBytes: each byte from 32 to 126 may stand there, and says itself.
func TestQuotedBytes(t *testing.T) {
	for c := byte(' '); c <= '~'; c++ {
		if c == '"' || c == '\\' {
			continue
		}
		p := fresh(t)
		quiet(t, p, `text "flagon\nmemory 0 0\n;`+string(c)+`\n"`)
		tells(t, p, "source", "flagon", "memory 0 0")
		if c == ' ' {
			continue
		}
		quiet(t, p, strings.Replace(five, "export main", "export a"+string(c), 1))
		quiet(t, p, "begin a"+string(c))
		stands(t, p, strings.Join(begunAt, " / "))
	}
}

// TestNumbers: of a run's fuel.
func TestNumbers(t *testing.T) {
	for word, want := range map[string]string{
		"0":                    "executed 0 asked 1 paid 0 back 0 entered 0",
		"1":                    "executed 1 asked 2 paid 1 back 0 entered 0",
		"2":                    "executed 2 asked 2 paid 2 back 0 entered 0",
		"10":                   "executed 2 asked 2 paid 2 back 0 entered 0",
		"1000":                 "executed 2 asked 2 paid 2 back 0 entered 0",
		"9223372036854775807":  "executed 2 asked 2 paid 2 back 0 entered 0",
		"-1":                   "error 40",
		"-10":                  "error 40",
		"-9223372036854775808": "error 40",
		"9223372036854775808":  misfit,
		"-9223372036854775809": misfit,
		"18446744073709551615": misfit,
		"18446744073709551617": misfit,
		"99999999999999999999": misfit,
		"-0":                   misfit,
		"00":                   misfit,
		"03":                   misfit,
		"-03":                  misfit,
		"-":                    misfit,
		"--1":                  misfit,
		"+1":                   misfit,
		"+0":                   misfit,
		"1-":                   misfit,
		"1.":                   misfit,
		"1e3":                  misfit,
		"1_0":                  misfit,
		"0x1":                  misfit,
		"0b1":                  misfit,
		"0o1":                  misfit,
		"a":                    misfit,
		"1,2":                  misfit,
		"1 2":                  misfit,
		"- 1":                  misfit,
		`"1"`:                  misfit,
		`""`:                   misfit,
		"":                     misfit,
	} {
		tells(t, ready(t), "run slow "+word, want)
	}
}

// identity is a module whose export id gives back an l, and whose export wid a w.
const identity = `text "flagon\ntype l -> l\ntype w -> w\nmemory 0 0\nfunc 0 -\n  get 0\n  end\nfunc 1 -\n  get 0\n  end\nexport id 0\nexport wid 1\n"`

// TestValues: of a beginning. A number below 0 says itself and 2^64.
func TestValues(t *testing.T) {
	for word, want := range map[string]string{
		"0":                     "0",
		"1":                     "1",
		"9223372036854775807":   "9223372036854775807",
		"9223372036854775808":   "9223372036854775808",
		"9223372036854775809":   "9223372036854775809",
		"18446744073709551614":  "18446744073709551614",
		"18446744073709551615":  "18446744073709551615",
		"-1":                    "18446744073709551615",
		"-2":                    "18446744073709551614",
		"-9223372036854775807":  "9223372036854775809",
		"-9223372036854775808":  "9223372036854775808",
		"18446744073709551616":  "",
		"-9223372036854775809":  "",
		"99999999999999999999":  "",
		"-0":                    "",
		"00":                    "",
		"01":                    "",
		"-01":                   "",
		"018446744073709551615": "",
		"+1":                    "",
		"+18446744073709551615": "",
		"-":                     "",
		"x":                     "",
		"1x":                    "",
		"1,":                    "",
		"1,2":                   "",
		"trap":                  "",
		"none":                  "",
		"0x10":                  "",
		"1_000":                 "",
		`"1"`:                   "",
		`""`:                    "",
	} {
		p := fresh(t)
		quiet(t, p, identity)
		if want == "" {
			tells(t, p, "begin id "+word, misfit)
			tells(t, p, "state", "error 46")
			continue
		}
		quiet(t, p, "begin id "+word)
		stands(t, p, "suspended used 0 / frame 0 at 0 / locals "+want+" / stack / globals / pages 0 0")
		p.Do("run fast 9")
		stands(t, p, "halted used 2 / results "+want+" / globals / pages 0 0")
	}
}

// TestHex: of bytes that are read.
func TestHex(t *testing.T) {
	for _, word := range []string{"0", "000", "0g", "g0", "0A", "A0", "FF", "fF", "0x00", "00:", "0/", "0:", "0`", "0@", "-1", "+1", "0.", "00,00", "00 00", `"00"`, `""`, "", "464c474e0", "zz"} {
		for _, first := range []string{"load", "restore"} {
			p := ready(t)
			tells(t, p, strings.TrimSpace(first+" "+word), misfit)
			tells(t, p, first+" "+word, misfit)
			stands(t, p, strings.Join(begunAt, " / "))
		}
	}
	for _, word := range []string{"00", "0123456789abcdef", "ffffffffff", "464c", "4653"} {
		tells(t, ready(t), "load "+word, "error 14 at 0 0")
		tells(t, ready(t), "restore "+word, "error 14 at 0")
	}
}
