package desk

import (
	"strings"
	"testing"

	"rewind/api"
)

// wrongNumbers are words that are no numbers: of another form, or of more than 64 bits.
func wrongNumbers() []string {
	return []string{
		"x", "-", "--", "--1", "+1", "+0", "-0", "00", "01", "007", "-01", "-00", "0-", "1-", "1-1", "0x1", "0b1", "1_0", "1.0", "1.", ".1", "1e1", "1,", "~", "1~", "~1", "\t1", "٣", "１", "\xff",
		"9223372036854775808", "-9223372036854775809", "18446744073709551615", "18446744073709551616", "99999999999999999999999999", "-99999999999999999999999999",
		"09223372036854775807", "nil", "true", "one", "1\r",
	}
}

// 11.1: ErrForm of a word that is no number, wherever one stands; nothing is changed.
func TestWrongNumbers(t *testing.T) {
	for _, wrong := range wrongNumbers() {
		l := []string{sample, "14", "goto 3", "3 stop 6", "break 8", "break"}
		for _, word := range numbered {
			l = append(l, word+" "+wrong, "error 3")
		}
		for _, word := range []string{"inputs", "collect"} {
			l = append(l, word+" 1 "+wrong, "error 3", word+" "+wrong+" 1", "error 3", word+ones(20)+" "+wrong+" 2", "error 3")
		}
		talk(t, append(l, "where", "3 stop 6", "continue", "12 stop 8", "continue", "14 done !", "print a", "error 7", "goto 13", "13 out A#1", "objects", "A#1: p nil, q list#2; list#2: 0 0")...)
	}
}

// 11.1: numbers of 64 bits, from -2^63 to 2^63 - 1.
func TestNumbers(t *testing.T) {
	talk(t, "program print(input()); print(input()); print(input()); print(input());", "9",
		"inputs 9223372036854775807 -9223372036854775808 0 -1", "9",
		"events", "stop 1; out 9223372036854775807; stop 1; out -9223372036854775808; stop 1; out 0; stop 1; out -1; done",
		"inputs 10 -10 100 9223372036854775806", "9",
		"events", "stop 1; out 10; stop 1; out -10; stop 1; out 100; stop 1; out 9223372036854775806; done",
	)
	for _, n := range []string{"9223372036854775807", "-9223372036854775808", "-1", "10"} {
		talk(t, sample, "14",
			"goto "+n, map[bool]string{true: "10 caught 7", false: "error 2"}[n == "10"],
			"born "+n, "error 7", "throws "+n, "throws", "goto 0", "0 none", "continue", "9 thrown 3 list#2",
			"collect "+n, "error 2", "collect 0 "+n, "error 2")
	}
}

// P3: words are counted first, then read from the left, then it is what the chapters say.
func TestWhichError(t *testing.T) {
	many := ones(api.MaxInputs)
	talk(t,
		"goto 99 x", "error 3", "goto x", "error 3", "goto 99", "error 2",
		"born 99 99", "error 3", "born x", "error 3", "born 99", "error 7",
		"break 0 0", "error 3", "break x", "error 3", "break 0", "error 2",
		"inputs"+many+" 1", "error 2", "inputs"+many+" x", "error 3", "inputs x"+many, "error 3", "inputs"+many, "1",
		"collect 3", "error 2", "collect 3 x", "error 3", "collect x 3", "error 3", "collect -1 01", "error 3",
		"print a b", "error 3", "print a", "error 7", "print 1", "error 7", "print ~", "error 7",
	)
	// Of a program: what Parse says, then what Compile says.
	talk(t,
		"program print(a); print(", "error 3", "program print(a); print(1);", "error 5", "program fn f() {} fn f() {} print(a);", "error 9",
		"program "+strings.Repeat("x", api.MaxSource)+"(", "error 4", "program "+strings.Repeat("(", api.MaxSource+1), "error 4", "program "+strings.Repeat("(", api.MaxSource), "error 4",
		"program print(a); class A < B {}", "error 7", "program print(99999999999999999999); x", "error 2", "where", "0 none", "events", "done",
	)
}
