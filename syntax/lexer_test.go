package syntax

import (
	"math"
	"strings"
	"testing"

	"rewind/api"
)

const allWords = "class field fn var if else while return throw try catch print true false nil this new super input len"

// 1.1: Name.
func TestName(t *testing.T) {
	for _, s := range []string{"a", "z", "A", "Z", "_", "__", "a0", "_9", "aB_3", "abcdefghijklmnop", "ABCDEFGHIJKLMNO9", "Class", "classs", "clas", "init", "main", "else_", "fN"} {
		if !Name(s) {
			t.Errorf("%q: not taken for a name", s)
		}
	}
	for _, s := range []string{"", " ", "0", "9a", "a b", " a", "a ", "a\n", "a-b", "a.b", "é", "aé", "a\x00", "abcdefghijklmnopq", strings.Repeat("_", 17), strings.Repeat("a", 5000)} {
		if Name(s) {
			t.Errorf("%q: taken for a name", s)
		}
	}
}

// 1.1: no word is a name; each one is a word of the language.
func TestNameWords(t *testing.T) {
	l := strings.Fields(allWords)
	if len(l) != len(words) {
		t.Errorf("%d words, want %d", len(words), len(l))
	}
	for _, s := range l {
		if Name(s) {
			t.Errorf("%s: taken for a name", s)
		}
		if !Name(s+"_") || !Name("_"+s) || !Name(strings.ToUpper(s)) {
			t.Errorf("%s: names that have it in them are not taken", s)
		}
		checkFails(t, []fails{{"var " + s + " = 1;", api.ErrForm, 4}})
	}
}

// 1.1: each byte, as a name's first one, as its second one, and as a program.
func TestBytes(t *testing.T) {
	const letters = "abcdefghijklmnopqrstuvwxyzABCDEFGHIJKLMNOPQRSTUVWXYZ_"
	const digits = "0123456789"
	for i := range 256 {
		c := string([]byte{byte(i)})
		letter, digit := strings.Contains(letters, c), strings.Contains(digits, c)
		if Name(c) != letter || Name("a"+c) != (letter || digit) {
			t.Errorf("byte %d: in names: %t, %t", i, Name(c), Name("a"+c))
		}
		_, err := Parse(c)
		switch {
		case c == " " || c == "\n":
			if err != nil {
				t.Errorf("byte %d: error %d, want none", i, api.Tell(err))
			}
		case letter || digit || strings.Contains("\"([-!", c): // the semicolon, or a part, is missing
			checkFails(t, []fails{{c, api.ErrForm, 1}})
		default:
			checkFails(t, []fails{{c, api.ErrForm, 0}})
		}
	}
}

// 1.1: tokens need nothing between, and may have any blanks and line feeds.
func TestTokensBetween(t *testing.T) {
	for _, c := range [][2]string{
		{"if(a==-1){b=2;}else{c=!d;}", " if \n ( a == - 1 ) { b = 2 ; } else { c = ! d ; } "},
		{"print(a||b&&c<d);", "\n\nprint ( a || b && c < d )\n;\n"},
		{"a=b==c;", "a = b == c ;"},
		{"a=1;", "a\n=\n1\n;"},
		{"x.y[0](1,\"s\").z(2);", "x . y [ 0 ] ( 1 , \"s\" ) . z ( 2 ) ;"},
		{"a1=_b+c_2;", "a1 = _b + c_2;"},
	} {
		if a, b := sketch(mustParse(t, c[0]), false), sketch(mustParse(t, c[1]), false); a != b {
			t.Errorf("%q: %s, but %q: %s", c[0], a, c[1], b)
		}
	}
}

// 1.1: a token is as long as it may be.
func TestTokensLong(t *testing.T) {
	checkFails(t, []fails{
		{"1a;", api.ErrForm, 1},      // a number, then a name
		{"a === b;", api.ErrForm, 4}, // == and =
		{"a = = b;", api.ErrForm, 4}, // no ==
		{"a | | b;", api.ErrForm, 2}, // no ||
		{"a ||| b;", api.ErrForm, 4}, // || and what is nothing
		{"a & b;", api.ErrForm, 2},
		{"a &", api.ErrForm, 2},
		{"a != b;", api.ErrForm, 2}, // ! can't stand behind a value
		{"a <= b;", api.ErrForm, 3},
		{"a > b;", api.ErrForm, 2},
		{"varx = 1", api.ErrForm, 8},  // a name
		{"return1;2", api.ErrForm, 9}, // likewise
		{"a\t;", api.ErrForm, 1},      // no blank
		{"a;\r\n", api.ErrForm, 2},
		{"a; // b", api.ErrForm, 3}, // no remarks
		{"print('a');", api.ErrForm, 6},
		{"a = 1.5;", api.ErrForm, 6}, // a number behind a dot
		{"\xff", api.ErrForm, 0},
		{"a;\x00", api.ErrForm, 2},
		{"a = \xc3\xa9;", api.ErrForm, 4},
		{"a = b\xc3\xa9;", api.ErrForm, 5},
	})
}

// 1.1: names of 16 bytes, and of one more.
func TestLongNames(t *testing.T) {
	most := "abcdefghijklmnop"
	checkParses(t, most+";", "class "+most+" < "+most+" { field "+most+"; "+most+"("+most+") {} }")
	checkFails(t, []fails{
		{most + "q;", api.ErrLimit, 0},
		{"  " + most + "_", api.ErrLimit, 2},
		{"var a = " + most + "7;", api.ErrLimit, 8},
		{"var " + most + "q = $", api.ErrLimit, 4},
		{"a." + strings.Repeat("_", 2000) + ";", api.ErrLimit, 2},
	})
}

// 1.1: numbers up to 2^63, which is the least one there is.
func TestNumbers(t *testing.T) {
	for _, c := range []struct {
		text string
		n    int
	}{
		{"0", 0}, {"7", 7}, {"10", 10}, {"007", 7}, {"000", 0}, {"9223372036854775807", math.MaxInt64},
		{"9223372036854775808", math.MinInt64}, {strings.Repeat("0", 2000) + "9223372036854775808", math.MinInt64},
		{strings.Repeat("0", 2000) + "3", 3},
	} {
		n := mustParse(t, c.text+";").Kids[0].Kids[0]
		if n.Kind != api.Int || n.N != c.n || n.Text != "" {
			t.Errorf("%.30s: %s, want %d", c.text, sketch(n, false), c.n)
		}
	}
	checkFails(t, []fails{
		{"9223372036854775809;", api.ErrRange, 0},
		{" 9223372036854775810", api.ErrRange, 1},
		{"a = 18446744073709551616;", api.ErrRange, 4},
		{"a = 18446744073709551617;", api.ErrRange, 4},
		{"a = 0" + strings.Repeat("9", 2000) + ";", api.ErrRange, 4},
	})
}

// 1.1: what strings say.
func TestStrings(t *testing.T) {
	most := strings.Repeat("a", api.MaxString)
	for _, c := range [][2]string{
		{`""`, ""}, {`"a"`, "a"}, {`"a b"`, "a b"}, {`"\n"`, "\n"}, {`"\""`, `"`}, {`"\\"`, `\`}, {`"\\n"`, `\n`}, {`"\\\""`, `\"`},
		{`"fn ( ; $ #"`, "fn ( ; $ #"}, {"\"\t\r\x00\xff\xc3\xa9\"", "\t\r\x00\xff\xc3\xa9"}, {`"` + most + `"`, most},
		{`"` + strings.Repeat(`\n`, api.MaxString) + `"`, strings.Repeat("\n", api.MaxString)},
	} {
		n := mustParse(t, c[0]+";").Kids[0].Kids[0]
		if n.Kind != api.Str || n.Text != c[1] {
			t.Errorf("%.30q: says %q, want %q", c[0], n.Text, c[1])
		}
	}
}

// 1.1: what is wrong with strings, and where.
func TestStringsWrong(t *testing.T) {
	most := strings.Repeat("a", api.MaxString)
	checkFails(t, []fails{
		{`"`, api.ErrForm, 1},
		{`"abc`, api.ErrForm, 4},
		{`a = "abc;`, api.ErrForm, 9},
		{"\"ab\n\";", api.ErrForm, 3},
		{`"\`, api.ErrForm, 2},
		{`"a\`, api.ErrForm, 3},
		{`"\x";`, api.ErrForm, 2},
		{`"a\t";`, api.ErrForm, 3},
		{`"\N";`, api.ErrForm, 2},
		{"\"\\\n\";", api.ErrForm, 2},
		{`"\"`, api.ErrForm, 3},
		{`"a" "`, api.ErrForm, 5}, // a token's own error, ahead of its not belonging there
		{`  "` + most + `a";`, api.ErrLimit, 2},
		{`"` + most + `\n";`, api.ErrLimit, 0},
		{`"` + most + `a`, api.ErrForm, api.MaxString + 2},      // no string yet
		{`"` + most + `a\x";`, api.ErrForm, api.MaxString + 3},  // likewise
		{`"` + most + "a\n\";", api.ErrForm, api.MaxString + 2}, // likewise
		{`"` + strings.Repeat("a", 2000) + `" $`, api.ErrLimit, 0},
		{`f("` + strings.Repeat(`\\`, 301) + `");`, api.ErrLimit, 2},
	})
}
