package desk

import (
	"fmt"
	"math/big"
	"strings"

	"rewind/api"
	"rewind/code"
	"rewind/compile"
	"rewind/debug"
	"rewind/inspect"
	"rewind/replay"
	"rewind/syntax"
	"rewind/vm"
)

// model answers as a session must, one case a word; what a layer says it asks that layer.
type model struct {
	text            string
	inputs, collect []int
	node            *api.Node
	image           *code.Image
	events          []api.Event
	at              *debug.Debugger
}

// modelled is a whole session.
func modelled(text string) string {
	if len(text) > 20_000 {
		return "error 4\n"
	}
	m := &model{}
	m.set("", nil, nil)
	out := ""
	for _, line := range strings.Split(strings.TrimSuffix(text, "\n"), "\n") {
		is, err := m.line(line)
		if err != nil {
			is = fmt.Sprintf("error %d", api.Tell(err))
		}
		out += strings.ReplaceAll(is, "\n", "~") + "\n"
	}
	return out
}

// set runs a program; with an error all is as it was.
func (m *model) set(text string, inputs, collect []int) (string, error) {
	n, err := syntax.Parse(text)
	if err != nil {
		return "", err
	}
	image, err := compile.Compile(n)
	if err != nil {
		return "", err
	}
	r, err := replay.Record(image, vm.Config{Nursery: 600, Old: 60_000, Collect: collect}, inputs, 1500)
	if err != nil {
		return "", err
	}
	d, err := debug.New(r)
	*m = model{text, inputs, collect, n, image, r.Events(), d}
	return fmt.Sprint(len(m.events)), err
}

// line answers one.
func (m *model) line(line string) (string, error) {
	words := []string{}
	for _, w := range strings.Split(line, " ") {
		if w != "" {
			words = append(words, w)
		}
	}
	if len(words) == 0 {
		return "ok", nil
	}
	first, words := words[0], words[1:]
	many, ok := table[first]
	if !ok || many >= 0 && many != len(words) {
		return "", api.ErrForm
	}
	numbers := []int{}
	if strings.Contains(" inputs collect goto born break throws ", " "+first+" ") {
		for _, w := range words {
			n, ok := parsed(w)
			if !ok {
				return "", api.ErrForm
			}
			numbers = append(numbers, n)
		}
	}
	switch first {
	case "program":
		return m.set(strings.ReplaceAll(strings.Join(words, " "), "~", "\n"), m.inputs, m.collect)
	case "inputs":
		return m.set(m.text, numbers, m.collect)
	case "collect":
		return m.set(m.text, m.inputs, numbers)
	case "goto":
		return m.where(true, m.at.Goto(numbers[0]))
	case "born":
		return m.where(true, m.at.Born(numbers[0]))
	case "break":
		return m.breaks(numbers[0])
	case "throws":
		m.at.Throws(numbers[0] != 0)
		return "throws", nil
	case "print":
		return m.at.Print(words[0])
	case "clear":
		m.set("", nil, nil)
		return "clear", nil
	}
	return m.alone(first)
}

// alone answers a word behind which there is none.
func (m *model) alone(word string) (string, error) {
	switch word {
	case "text":
		return syntax.Text(m.node), nil
	case "size":
		return fmt.Sprint(len(m.image.Funcs), " ", len(m.image.Classes)), nil
	case "events":
		s := ""
		for _, e := range m.events {
			s += "; " + shown(e)
		}
		return strings.TrimPrefix(s, "; "), nil
	case "step":
		return m.where(m.at.Step(), nil)
	case "back":
		return m.where(m.at.Back(), nil)
	case "next":
		return m.where(m.at.Next(), nil)
	case "prev":
		return m.where(m.at.Prev(), nil)
	case "finish":
		return m.where(m.at.Finish(), nil)
	case "came":
		return m.where(m.at.Came(), nil)
	case "continue":
		return m.where(m.at.Continue(), nil)
	case "reverse":
		return m.where(m.at.Reverse(), nil)
	case "where":
		return m.where(true, nil)
	case "frames", "objects":
		return m.looked(word)
	}
	return "back born break came clear collect continue events finish frames goto help inputs next objects prev print program reverse size step text throws where", nil
}

func (m *model) where(found bool, err error) (string, error) {
	n, e := m.at.Where()
	s := fmt.Sprint(n, " ", shown(e))
	if !found {
		s += " !"
	}
	return s, err
}

func (m *model) breaks(n int) (string, error) {
	switch {
	case n == -1<<63:
		return "break", m.at.Break(20_000, false)
	case n < 1:
		return "break", m.at.Break(-n, false)
	}
	return "break", m.at.Break(n, true)
}

func (m *model) looked(word string) (string, error) {
	x, err := m.at.Machine()
	if err != nil {
		return "", err
	}
	var l []string
	if word == "frames" {
		frames, _ := inspect.Frames(x)
		for _, f := range frames {
			l = append(l, fmt.Sprintf("%s %d: %s", f.Func, f.Line, variables(f.Vars)))
		}
	} else {
		objects, _ := inspect.Objects(x)
		for _, o := range objects {
			l = append(l, fmt.Sprintf("%s: %s", o.Is, variables(o.Has)))
		}
	}
	return strings.Join(l, "; "), nil
}

func variables(l []inspect.Var) string {
	s := ""
	for i, v := range l {
		if i > 0 {
			s += ", "
		}
		s += v.Name + " " + v.Is
	}
	return s
}

func shown(e api.Event) string {
	s := strings.Fields("none stop out thrown caught done dead")[e.Kind]
	if e.Line != 0 {
		s = fmt.Sprint(s, " ", e.Line)
	}
	if e.Text != "" {
		s = s + " " + e.Text
	}
	return s
}

// parsed is a number of 64 bits: digits, the first one a nought only if it is all there is, with - ahead below 0.
func parsed(word string) (int, bool) {
	digits := strings.TrimPrefix(word, "-")
	if digits == "" || strings.Trim(digits, "0123456789") != "" || digits[0] == '0' && word != "0" {
		return 0, false
	}
	n, ok := new(big.Int).SetString(word, 10)
	if !ok || !n.IsInt64() {
		return 0, false
	}
	return int(n.Int64()), true
}
