package desk

import (
	"strings"
	"testing"
)

// scopes has functions within each other, scopes within scopes, and names that stand for several variables.
const scopes = "program class A { field p; m(x) { var a = [x, this];~print(a);~return a; } }~fn f(a, b) { if (true) { var a = \"in\\nner\";~print(a); } return a; }~" +
	"var a = new A();~print(a.m(f(7, nil)));~var g = fn(u) { print(u); };~g(\"\");"

const scopesEvents = "stop 6; stop 7; stop 4; stop 4; stop 5; out in~ner; stop 5; stop 1; stop 2; out list#2; stop 3; out list#2; stop 8; stop 9; stop 8; out; done"

// 11.1: print is Print: what the last variable of that name is in the last function; error 7, if there is none.
func TestPrint(t *testing.T) {
	names := []string{"a", "b", "x", "this", "g", "u", "zz"}
	l := []string{scopes, "17", "events", scopesEvents}
	for n, want := range []string{
		"- - - - - - -", "- - - - - - -", "A#1 - - - - - -", "7 nil - - - - -", "7 nil - - - - -", "in~ner nil - - - - -", "in~ner nil - - - - -", "7 nil - - - - -",
		"- - 7 A#1 - - -", "list#2 - 7 A#1 - - -", "list#2 - 7 A#1 - - -", "list#2 - 7 A#1 - - -", "A#1 - - - - - -", "A#1 - - - - - -", "A#1 - - - fn#3 - -", "- - - - - EMPTY -", "- - - - - EMPTY -", "- - - - - - -",
	} {
		l = append(l, at(n), toldAt(scopesEvents, n))
		for i, is := range strings.Fields(want) {
			switch is {
			case "-":
				is = "error 7"
			case "EMPTY":
				is = ""
			}
			l = append(l, "print "+names[i], is)
		}
		l = append(l, "where", toldAt(scopesEvents, n))
	}
	talk(t, l...)
	// What can be no name is none.
	for _, name := range []string{"1", "var", "A", "f", "main", "a.p", "a[0]", "~", "a~", "\xff", strings.Repeat("a", 5000)} {
		talk(t, scopes, "17", "goto 14", "14 stop 9", "print "+name, "error 7", "where", "14 stop 9")
	}
}

// toldAt is what where tells behind so many events.
func toldAt(events string, n int) string {
	return strings.Join([]string{at(n)[len("goto "):], append([]string{"none"}, strings.Split(events, "; ")...)[n]}, " ")
}

// 11.1: frames: names, lines and variables of all functions under way: behind none, in functions, in methods, behind Thrown, at the end.
func TestFrames(t *testing.T) {
	l := []string{scopes, "17"}
	for n, want := range []string{
		"main 0: ", "main 6: ", "main 7: a A#1", "main 7: a A#1; f 4: a 7, b nil", "main 7: a A#1; f 4: a 7, b nil", "main 7: a A#1; f 5: a 7, b nil, a in~ner", "main 7: a A#1; f 5: a 7, b nil, a in~ner",
		"main 7: a A#1; f 5: a 7, b nil", "main 7: a A#1; A.m 1: this A#1, x 7", "main 7: a A#1; A.m 2: this A#1, x 7, a list#2", "main 7: a A#1; A.m 2: this A#1, x 7, a list#2", "main 7: a A#1; A.m 3: this A#1, x 7, a list#2",
		"main 7: a A#1", "main 8: a A#1", "main 9: a A#1, g fn#3", "main 9: a A#1, g fn#3; fn 8: u ", "main 9: a A#1, g fn#3; fn 8: u ", "",
	} {
		l = append(l, at(n), toldAt(scopesEvents, n), "frames", want, "frames", want)
	}
	talk(t, l...)
	talk(t, sample, "14", "goto 7", "7 stop 3", "frames", "main 6: a A#1; f 4: n 1; f 3: n 0", "goto 9", "9 thrown 3 list#2", "frames", "main 6: a A#1", "goto 11", "11 stop 7", "frames", "main 7: a A#1, e list#2", "goto 14", "14 done", "frames", "")
	talk(t, "program var a = 1; throw a;", "4", "goto 2", "2 stop 1", "frames", "main 1: a 1", "step", "4 dead 1 !", "frames", "", "goto 3", "3 thrown 1 1", "frames", "main 1: ", "objects", "")
	talk(t, "program while (true) { var a = [1]; }", "1500", "goto 1499", "1499 stop 1", "frames", "main 1: ", "goto 1500", "1500 stop 1", "frames", "", "objects", "", "print a", "error 7")
	talk(t, "frames", "main 0: ", "goto 1", "1 done", "frames", "")
}

// 11.1: objects: what each is, and what it has: instances, lists, functions, none; with fields, and without.
func TestObjects(t *testing.T) {
	l := []string{scopes, "17"}
	for n, want := range []string{
		"", "", "A#1: p nil", "A#1: p nil", "A#1: p nil", "A#1: p nil", "A#1: p nil", "A#1: p nil", "A#1: p nil",
		"A#1: p nil; list#2: 0 7, 1 A#1", "A#1: p nil; list#2: 0 7, 1 A#1", "A#1: p nil; list#2: 0 7, 1 A#1",
		"A#1: p nil", "A#1: p nil", "A#1: p nil; fn#3: ", "A#1: p nil; fn#3: ", "A#1: p nil; fn#3: ", "",
	} {
		l = append(l, at(n), toldAt(scopesEvents, n), "objects", want, "objects", want)
	}
	talk(t, l...)
	talk(t, "program class E {} class P { field a; field b; } var l = [[], new E(), new P(), \"x\\ny\", true, nil, fn() {}];~l[2].b = l;~print(l);", "5",
		"goto 3", "3 stop 3", "objects", "list#1: ; E#2: ; P#3: a nil, b list#5; fn#4: ; list#5: 0 list#1, 1 E#2, 2 P#3, 3 x~y, 4 true, 5 nil, 6 fn#4",
		"frames", "main 3: l list#5")
	// Texts may have what stands between.
	talk(t, "program var a = [\"b, c: d; e\"];~print(a);", "4", "goto 2", "2 stop 2", "objects", "list#1: 0 b, c: d; e", "frames", "main 2: a list#1")
	talk(t, "program var a = \"list#1\";~print(a);", "4", "goto 2", "2 stop 2", "objects", "", "frames", "main 2: a list#1")
}

// 11.1: in what is told ~ stands for each line feed, wherever it comes from.
func TestLineFeeds(t *testing.T) {
	talk(t, "program var a = \"\\n1\\n\\n2\\n\"; var l = [a];~print(a);~throw a;", "7",
		"events", "stop 1; stop 1; stop 2; out ~1~~2~; stop 3; thrown 3 ~1~~2~; dead ~1~~2~",
		"text", "var a = \"\\n1\\n\\n2\\n\";~var l = [a];~print(a);~throw a;~",
		"goto 4", "4 out ~1~~2~", "print a", "~1~~2~", "frames", "main 2: a ~1~~2~, l list#1", "objects", "list#1: 0 ~1~~2~",
		"continue", "7 dead ~1~~2~ !", "where", "7 dead ~1~~2~")
}
