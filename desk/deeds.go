package desk

import (
	"math"
	"strconv"
	"strings"

	"rewind/api"
	"rewind/debug"
	"rewind/inspect"
	"rewind/syntax"
)

const help = "back born break came clear collect continue events finish frames goto help inputs next objects prev print program reverse size step text throws where"

// number is a word's.
func number(word string) int {
	n, err := strconv.Atoi(word)
	// Atoi takes +7, 07 and -0, too; a number is written in one way alone.
	if err != nil || strconv.Itoa(n) != word {
		panic(fault{api.ErrForm})
	}
	return n
}

func numbers(words []string) (l []int) {
	for _, word := range words {
		l = append(l, number(word))
	}
	return l
}

// start makes another run the one that there is, and tells how many events it has.
func (s *session) start(r run) string {
	s.run = r
	return strconv.Itoa(len(r.events))
}

func (s *session) setProgram(words []string) string {
	text := strings.ReplaceAll(strings.Join(words, " "), "~", "\n")
	return s.start(runOf(text, s.run.inputs, s.run.collect))
}

func (s *session) setInputs(words []string) string {
	return s.start(runOf(s.run.text, numbers(words), s.run.collect))
}

func (s *session) setCollect(words []string) string {
	return s.start(runOf(s.run.text, s.run.inputs, numbers(words)))
}

func (s *session) tellText([]string) string { return syntax.Text(s.run.program) }

func (s *session) tellSize([]string) string {
	return strconv.Itoa(len(s.run.image.Funcs)) + " " + strconv.Itoa(len(s.run.image.Classes))
}

func (s *session) tellEvents([]string) string { return listed(s.run.events, "; ", toldEvent) }

func (s *session) tellWhere([]string) string { return s.where() }

// where is behind how many events the debugger stands, and the last one of these.
func (s *session) where() string {
	n, e := s.run.debugger.Where()
	return strconv.Itoa(n) + " " + toldEvent(e)
}

// along leads the debugger along a way.
func (s *session) along(way func(*debug.Debugger) bool) func([]string) string {
	return func([]string) string {
		if way(s.run.debugger) {
			return s.where()
		}
		return s.where() + " !"
	}
}

func (s *session) standAt(words []string) string {
	must(s.run.debugger.Goto(number(words[0])))
	return s.where()
}

func (s *session) standAtBirth(words []string) string {
	must(s.run.debugger.Born(number(words[0])))
	return s.where()
}

func (s *session) setBreak(words []string) string {
	line := number(words[0])
	on := line >= 1
	if line == math.MinInt {
		// There is no number that is as far above 0.
		line = -api.MaxText
	}
	must(s.run.debugger.Break(max(line, -line), on))
	return "break"
}

func (s *session) setThrows(words []string) string {
	s.run.debugger.Throws(number(words[0]) != 0)
	return "throws"
}

func (s *session) tellVariable(words []string) string {
	return good(s.run.debugger.Print(words[0]))
}

func (s *session) tellFrames([]string) string {
	return listed(good(inspect.Frames(good(s.run.debugger.Machine()))), "; ", toldFrame)
}

func (s *session) tellObjects([]string) string {
	return listed(good(inspect.Objects(good(s.run.debugger.Machine()))), "; ", toldObject)
}

func (s *session) clear([]string) string {
	s.run = runOf("", nil, nil)
	return "clear"
}

func (s *session) tellHelp([]string) string { return help }
