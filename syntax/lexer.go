package syntax

import (
	"strconv"
	"strings"

	"rewind/api"
)

const (
	maxName   = 16
	maxNumber = 1 << 63 // one more than an int has: it is the least one, by wrapping
	loneSigns = "(){}[];,.=<+-*/%!"
)

var words = [20]string{
	"class", "field", "fn", "var", "if", "else", "while", "return", "throw", "try",
	"catch", "print", "true", "false", "nil", "this", "new", "super", "input", "len",
}

var twinSigns = [3]string{"||", "&&", "=="}

// Kinds of tokens. Words and signs are of one kind, as both are asked for by what they are.
const (
	endToken = iota // the text's end: it can stand nowhere but behind the program
	markToken
	nameToken
	numberToken
	stringToken
)

// token has its mark, its text (of a name, of a string what it says) or its number.
type token struct {
	kind  int
	place int
	line  int
	mark  string
	text  string
	n     int
}

// lexer is come to one token, now, and no further: what is wrong behind it is not known yet.
type lexer struct {
	source string
	place  int
	line   int
	now    token
}

func isWord(s string) bool {
	for _, w := range words {
		if w == s {
			return true
		}
	}
	return false
}

func isDigit(c byte) bool { return '0' <= c && c <= '9' }

func isLetter(c byte) bool { return 'a' <= c && c <= 'z' || 'A' <= c && c <= 'Z' || c == '_' }

func isNameByte(c byte) bool { return isLetter(c) || isDigit(c) }

// is says whether a word or sign is come to.
func (l *lexer) is(mark string) bool { return l.now.kind == markToken && l.now.mark == mark }

// take is the token that was come to, and comes to the next one.
func (l *lexer) take() token {
	was := l.now
	l.advance()
	return was
}

// accept takes a word or sign, if it is there.
func (l *lexer) accept(mark string) bool {
	if !l.is(mark) {
		return false
	}
	l.take()
	return true
}

// want takes a word or sign that must be there.
func (l *lexer) want(mark string) {
	if !l.accept(mark) {
		l.fail(api.ErrForm)
	}
}

// name takes a name that must be there.
func (l *lexer) name() string {
	if l.now.kind != nameToken {
		l.fail(api.ErrForm)
	}
	return l.take().text
}

// fail throws an error at the token that is come to.
func (l *lexer) fail(err api.Errno) { panic(fault{err, l.now.place}) }

func (l *lexer) advance() {
	l.skipBlanks()
	l.now = token{place: l.place, line: l.line}
	if l.place == len(l.source) {
		return
	}
	switch c := l.source[l.place]; {
	case isLetter(c):
		l.readWord()
	case isDigit(c):
		l.readNumber()
	case c == '"':
		l.readString()
	default:
		l.readSign()
	}
}

func (l *lexer) skipBlanks() {
	for ; l.place < len(l.source); l.place++ {
		switch l.source[l.place] {
		case '\n':
			l.line++
		case ' ':
		default:
			return
		}
	}
}

// run is all from here on that belongs.
func (l *lexer) run(belongs func(byte) bool) string {
	from := l.place
	for l.place < len(l.source) && belongs(l.source[l.place]) {
		l.place++
	}
	return l.source[from:l.place]
}

func (l *lexer) readWord() {
	s := l.run(isNameByte)
	switch {
	case isWord(s):
		l.now.kind, l.now.mark = markToken, s
	case len(s) > maxName:
		l.fail(api.ErrLimit)
	default:
		l.now.kind, l.now.text = nameToken, strings.Clone(s) // a node must not hold on to the whole source
	}
}

func (l *lexer) readNumber() {
	u, err := strconv.ParseUint(l.run(isDigit), 10, 64)
	if err != nil || u > maxNumber {
		l.fail(api.ErrRange)
	}
	l.now.kind, l.now.n = numberToken, int(u)
}

func (l *lexer) readString() {
	var said []byte
	l.place++
	for c := l.inString(); c != '"'; c = l.inString() {
		if c == '\\' {
			c = l.escaped()
		}
		said = append(said, c)
	}
	if len(said) > api.MaxString {
		l.fail(api.ErrLimit)
	}
	l.now.kind, l.now.text = stringToken, string(said)
}

// inString is the next byte of a string, which neither the text's end nor a line feed may be.
func (l *lexer) inString() byte {
	if l.place == len(l.source) || l.source[l.place] == '\n' {
		panic(fault{api.ErrForm, l.place})
	}
	l.place++
	return l.source[l.place-1]
}

// escaped is what the byte behind a \ stands for.
func (l *lexer) escaped() byte {
	switch c := l.inString(); c {
	case 'n':
		return '\n'
	case '"', '\\':
		return c
	}
	panic(fault{api.ErrForm, l.place - 1})
}

func (l *lexer) readSign() {
	n := l.signSize()
	if n == 0 {
		l.fail(api.ErrForm)
	}
	l.now.kind, l.now.mark = markToken, l.source[l.place:l.place+n]
	l.place += n
}

// signSize looks for the longer signs first, since = begins ==.
func (l *lexer) signSize() int {
	for _, s := range twinSigns {
		if strings.HasPrefix(l.source[l.place:], s) {
			return len(s)
		}
	}
	if strings.IndexByte(loneSigns, l.source[l.place]) >= 0 {
		return 1
	}
	return 0
}
