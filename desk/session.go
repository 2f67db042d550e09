package desk

import (
	"strings"

	"rewind/api"
	"rewind/debug"
)

// session is what there is between two lines, and what lines do with it.
type session struct {
	run   run
	deeds map[string]deed
}

// deed is what a line does, by the words behind its first one, of which there must be so many.
type deed struct {
	words int
	does  func(words []string) string
}

// anyMany stands for any number of words.
const anyMany = -1

func newSession() *session {
	s := &session{run: runOf("", nil, nil)}
	s.deeds = s.allDeeds()
	return s
}

// allDeeds are what lines do, by their first words.
func (s *session) allDeeds() map[string]deed {
	all := map[string]deed{
		"program": {anyMany, s.setProgram},
		"inputs":  {anyMany, s.setInputs},
		"collect": {anyMany, s.setCollect},
		"text":    {0, s.tellText},
		"size":    {0, s.tellSize},
		"events":  {0, s.tellEvents},
		"where":   {0, s.tellWhere},
		"goto":    {1, s.standAt},
		"born":    {1, s.standAtBirth},
		"break":   {1, s.setBreak},
		"throws":  {1, s.setThrows},
		"print":   {1, s.tellVariable},
		"frames":  {0, s.tellFrames},
		"objects": {0, s.tellObjects},
		"clear":   {0, s.clear},
		"help":    {0, s.tellHelp},
	}
	for word, way := range ways() {
		all[word] = deed{0, s.along(way)}
	}
	return all
}

// ways are where a debugger goes, by the lines that ask for it.
func ways() map[string]func(*debug.Debugger) bool {
	return map[string]func(*debug.Debugger) bool{
		"step":     (*debug.Debugger).Step,
		"back":     (*debug.Debugger).Back,
		"next":     (*debug.Debugger).Next,
		"prev":     (*debug.Debugger).Prev,
		"finish":   (*debug.Debugger).Finish,
		"came":     (*debug.Debugger).Came,
		"continue": (*debug.Debugger).Continue,
		"reverse":  (*debug.Debugger).Reverse,
	}
}

// answer does what a line asks for, and tells what is to be told of it, as one line.
func (s *session) answer(line string) (told string) {
	defer func() {
		if thrown := recover(); thrown != nil {
			told = toldError(caught(thrown))
		}
	}()
	words := strings.FieldsFunc(line, isBlank)
	if len(words) == 0 {
		return "ok"
	}
	d, ok := s.deeds[words[0]]
	behind := words[1:]
	if !ok || d.words != anyMany && d.words != len(behind) {
		panic(fault{api.ErrForm})
	}
	return strings.ReplaceAll(d.does(behind), "\n", "~")
}
