package desk

import (
	"fmt"
	"maps"
	"slices"
	"strings"
	"testing"

	"rewind/api"
)

func wantText(t *testing.T, text, want string) {
	t.Helper()
	if got := Session(text); got != want {
		t.Errorf("%.100q, %d bytes: %.300q, want %.300q", text, len(text), got, want)
	}
}

// 11.1: lines are cut at line feeds; one at the text's end is left out; the empty text is one line, the empty one.
func TestLines(t *testing.T) {
	for text, want := range map[string]string{
		"":                      "ok\n",
		"\n":                    "ok\n",
		"\n\n":                  "ok\nok\n",
		"\n\n\n":                "ok\nok\nok\n",
		"where":                 "0 none\n",
		"where\n":               "0 none\n",
		"where\n\n":             "0 none\nok\n",
		"\nwhere":               "ok\n0 none\n",
		"\nwhere\n":             "ok\n0 none\n",
		"where\nx":              "0 none\nerror 3\n",
		"where\n\nx\n":          "0 none\nok\nerror 3\n",
		"where\nstep\nback":     "0 none\n1 done !\n0 none !\n",
		"where\n\nstep\nback\n": "0 none\nok\n1 done !\n0 none !\n",
		"wh\nere":               "error 3\nerror 3\n",
		"goto\n1":               "error 3\nerror 3\n",
	} {
		wantText(t, text, want)
	}
	if got := slices.Collect(lines("a\n\nb")); !slices.Equal(got, []string{"a", "", "b"}) {
		t.Errorf("lines: %q", got)
	}
	for line := range lines("a\nb\nc") {
		if line == "b" {
			break
		}
		if line != "a" {
			t.Errorf("line %q", line)
		}
	}
}

// 11.1: error 4, and nothing else, of a text of more than MaxText bytes; of MaxText bytes all lines are answered.
func TestMaxText(t *testing.T) {
	long := func(s string, many int) string { return strings.Repeat(s, many/len(s)+1)[:many] }
	for _, s := range []string{"\n", "x", " ", "where\n", "clear\nstep\nx\n", "program print(1);\n", "\x00", "é\n"} {
		for _, many := range []int{api.MaxText - 1, api.MaxText} {
			text := long(s, many)
			out := Session(text)
			if want := strings.Count(strings.TrimSuffix(text, "\n"), "\n") + 1; strings.Count(out, "\n") != want || !strings.HasSuffix(out, "\n") {
				t.Errorf("%d bytes of %q: %d answers, want %d", many, s, strings.Count(out, "\n"), want)
			}
		}
		for _, many := range []int{api.MaxText + 1, api.MaxText + 2, 1_000_000} {
			wantText(t, long(s, many), "error 4\n")
		}
	}
	wantText(t, strings.Repeat("x", api.MaxText), "error 3\n")
	wantText(t, strings.Repeat(" ", api.MaxText), "ok\n")
	wantText(t, strings.Repeat("\n", api.MaxText), strings.Repeat("ok\n", api.MaxText))
	wantText(t, strings.Repeat("x", api.MaxText)+"\n", "error 4\n")
	wantText(t, "where"+strings.Repeat(" ", api.MaxText-5), "0 none\n")
	wantText(t, strings.Repeat(" ", api.MaxText-5)+"where", "0 none\n")
	wantText(t, strings.Repeat(" ", api.MaxText-5)+"where ", "error 4\n")
}

// 11.1: words have blanks between, several, too, and at both ends; a line without words is answered ok.
func TestBlanks(t *testing.T) {
	talk(t,
		" ", "ok", "     ", "ok", "", "ok",
		"where ", "0 none", " where", "0 none", "   where   ", "0 none",
		"goto  1", "1 done", " goto   0  ", "0 none", "  goto 1", "1 done",
		" program   print(1);   ", "3", "text", "print(1);~",
		"program print(\"a   b\");", "3", "events", "stop 1; out a b; done",
		"  inputs    1  2 ", "3", "  ", "ok", " break  1 ", "break",
	)
	// Nothing else is a blank: such lines have other words.
	for _, s := range []string{"\t", "\r", "\v", "\f", "\x00", "\u00a0", "\u2003", "\u3000", "\ufeff", "\x85", "\xa0", "\xff", "~", "_"} {
		talk(t, s, "error 3", "where"+s, "error 3", s+"where", "error 3", "goto"+s+"1", "error 3", "goto 1"+s, "error 3", "where "+s, "error 3", "goto 1 "+s, "error 3", "where", "0 none")
	}
}

// 11.1: ErrForm of a first word that is none of the table's.
func TestOtherWords(t *testing.T) {
	other := []string{"x", "ok", "error", "none", "stop", "break1", "wherever", "whe", "Where", "WHERE", "go", "quit", "0", "-1", "1", "program;", "print(1);", "help,", "é", "\xff", "main", "full", "collects", "input", "frame", "object", "event", "run"}
	for word := range table {
		other = append(other, word+"s", word[:len(word)-1], strings.ToUpper(word), strings.ToTitle(word[:1])+word[1:], "-"+word, word+";", word+"\t1")
	}
	for _, word := range other {
		if _, ok := table[word]; ok {
			continue
		}
		for behind := range 3 {
			if got := last(t, word+ones(behind)); got != "error 3" {
				t.Errorf("%q: %q", word+ones(behind), got)
			}
		}
	}
}

// 11.1: ErrForm, unless as many words stand behind the first one as are told: each word with one too few, and one too many.
func TestHowManyWords(t *testing.T) {
	if len(table) != 24 {
		t.Fatalf("%d words", len(table))
	}
	for _, head := range [][]string{nil, {sample}, {sample, "goto 9", "break 1"}} {
		for word, many := range table {
			for behind := range 5 {
				line := word + ones(behind)
				got := last(t, append(slices.Clone(head), line)...)
				// 1 is no program, and the others may say what the chapters say.
				if right := many < 0 || many == behind; right == (got == "error 3") && (word != "program" || behind == 0) {
					t.Errorf("%q: %q", line, got)
				}
			}
		}
	}
}

// 11.1: a line with too many words, or too few, is not done.
func TestWrongLinesAreNotDone(t *testing.T) {
	talk(t, sample, "14", "goto 5", "5 stop 3",
		"step 1", "error 3", "where", "5 stop 3", "goto 6 7", "error 3", "goto", "error 3", "where", "5 stop 3",
		"clear all", "error 3", "where", "5 stop 3", "break 8 8", "error 3", "throws 1 1", "error 3", "continue", "14 done !")
}

// 11.1: help tells all words, sorted.
func TestHelp(t *testing.T) {
	want := "back born break came clear collect continue events finish frames goto help inputs next objects prev print program reverse size step text throws where"
	talk(t, "help", want, sample, "14", "help", want, "goto 9", "9 thrown 3 list#2", " help ", want, "where", "9 thrown 3 list#2", "help help", "error 3")
	if got := strings.Join(slices.Sorted(maps.Keys(table)), " "); got != want {
		t.Errorf("words: %s", got)
	}
}

// 11.1: the same error is answered wherever in a session a wrong line stands.
func TestLineByLine(t *testing.T) {
	var l, want []string
	for i := range 100 {
		l, want = append(l, []string{"x", "", "where", "clear"}[i%4]), append(want, []string{"error 3", "ok", "0 none", "clear"}[i%4])
	}
	if got := answers(t, l); !slices.Equal(got, want) {
		t.Errorf("%q", got)
	}
	if got := Session(fmt.Sprint(strings.Repeat("where\n", 3), "\n")); got != "0 none\n0 none\n0 none\nok\n" {
		t.Errorf("%q", got)
	}
}
