package replay

import (
	"math"
	"slices"
	"testing"

	"rewind/api"
	"rewind/code"
	"rewind/vm"
)

// 7.1, P3: what vm.New says of the image, the room, Collect and the inputs is told ahead of every; nothing else comes then.
func TestRecordErrors(t *testing.T) {
	right := byHand(code.Instr{Op: code.Nil}, code.Instr{Op: code.Return})
	wrong := byHand(code.Instr{Op: code.Nil}, code.Instr{Op: code.Return})
	wrong.Funcs = append(wrong.Funcs, code.Func{Code: []code.Instr{{Op: code.Nil}}})
	unsound := byHand(code.Instr{Op: code.Push, A: 1}, code.Instr{Op: code.Return})
	room := vm.Config{Nursery: 1, Old: 1}
	most, many := make([]int, api.MaxInputs), make([]int, api.MaxInputs+1)
	const last = api.MaxEvents
	for what, c := range map[string]struct {
		image  *code.Image
		config vm.Config
		inputs []int
		every  int
		err    api.Errno
		place  int
	}{
		"no image":                      {nil, room, nil, 1, api.ErrMissing, -1},
		"no image, all else wrong":      {nil, vm.Config{Collect: []int{7}}, many, 0, api.ErrMissing, -1},
		"no functions":                  {&code.Image{}, room, nil, 1, api.ErrLimit, -1},
		"no functions, every":           {&code.Image{}, room, nil, 0, api.ErrLimit, -1},
		"a wrong function":              {wrong, room, nil, 1, api.ErrForm, 1},
		"a wrong function, every":       {wrong, room, nil, 0, api.ErrForm, 1},
		"a wrong function, room":        {wrong, vm.Config{}, nil, 1, api.ErrForm, 1},
		"a wrong function, Collect":     {wrong, vm.Config{Nursery: 1, Old: 1, Collect: []int{3}}, nil, 1, api.ErrForm, 1},
		"a wrong function, inputs":      {wrong, room, many, last + 1, api.ErrForm, 1},
		"a constant that is not there":  {unsound, room, nil, -1, api.ErrRange, 0},
		"no nursery":                    {right, vm.Config{Nursery: 0, Old: 1}, nil, 1, api.ErrRange, -1},
		"a nursery below none":          {right, vm.Config{Nursery: -1, Old: 1}, nil, 1, api.ErrRange, -1},
		"a nursery that is great":       {right, vm.Config{Nursery: 65_537, Old: 1}, nil, 1, api.ErrRange, -1},
		"no old part":                   {right, vm.Config{Nursery: 1, Old: 0}, nil, 1, api.ErrRange, -1},
		"an old part that is great":     {right, vm.Config{Nursery: 1, Old: 1_048_577}, nil, 1, api.ErrRange, -1},
		"Collect below 0":               {right, vm.Config{Nursery: 1, Old: 1, Collect: []int{0, -1}}, nil, 1, api.ErrRange, -1},
		"Collect above 2":               {right, vm.Config{Nursery: 1, Old: 1, Collect: []int{3, 0}}, nil, 1, api.ErrRange, -1},
		"too many inputs":               {right, room, many, 1, api.ErrRange, -1},
		"every of 0":                    {right, room, nil, 0, api.ErrRange, -1},
		"every below 0":                 {right, room, nil, -1, api.ErrRange, -1},
		"every far below 0":             {right, room, nil, math.MinInt, api.ErrRange, -1},
		"every of one more":             {right, room, nil, last + 1, api.ErrRange, -1},
		"every, great":                  {right, room, nil, math.MaxInt, api.ErrRange, -1},
		"every of 1":                    {right, room, nil, 1, api.OK, -1},
		"every of MaxEvents":            {right, room, nil, last, api.OK, -1},
		"as many inputs as may be":      {right, room, most, last - 1, api.OK, -1},
		"the greatest room":             {right, roomy(0, 1, 2), nil, 2, api.OK, -1},
		"every of 0, and a room":        {right, vm.Config{}, nil, 0, api.ErrRange, -1},
		"every of 0, and many inputs":   {right, room, many, 0, api.ErrRange, -1},
		"every, and a wrong in Collect": {right, roomy(5), nil, last + 1, api.ErrRange, -1},
	} {
		r, err := Record(c.image, c.config, c.inputs, c.every)
		if api.Tell(err) != c.err || place(err) != c.place {
			t.Errorf("%s: error %d at %d, want %d at %d", what, api.Tell(err), place(err), c.err, c.place)
		}
		if (r == nil) != (c.err != api.OK) {
			t.Errorf("%s: %v beside error %d", what, r, api.Tell(err))
		}
	}
}

// everies are such that a run of so many events is kept often, now and then, at its end alone, and never behind its beginning.
func everies(events int) (l []int) {
	for _, every := range []int{1, 2, 3, 7, 16, events/2 + 1, events - 1, events, events + 1, api.MaxEvents - 1, api.MaxEvents} {
		if every >= 1 && every <= api.MaxEvents && !slices.Contains(l, every) {
			l = append(l, every)
		}
	}
	return l
}

// 7.1: a run to its end; Events and Full are the machine's, whatever every is.
func TestEvents(t *testing.T) {
	for name, u := range samples(t) {
		want, x := u.end(t)
		for _, every := range everies(len(want)) {
			r := u.recorded(t, every)
			if got := r.Events(); !slices.Equal(got, want) || r.Full() != x.Full() {
				t.Errorf("%s, every %d: full %v, %.300s, want %v, %.300s", name, every, r.Full(), told(got...), x.Full(), told(want...))
			}
		}
	}
}

// 7.1: programs, and the events that they must have.
func TestPrograms(t *testing.T) {
	for text, want := range map[string]string{
		"":                           "D",
		"print(1 + 2);":              "S1 O:3 D",
		"print([1]);":                "S1 O:list#1 D",
		"print(1 / 0);":              "S1 T1:zero X:zero",
		"print(1);\nprint(2);":       "S1 O:1 S2 O:2 D",
		"print(input());":            "S1 O:4 D",
		"throw [1];":                 "S1 T1:list#1 X:list#1",
		"fn f() {\nthrow 1; }\nf();": "S3 S2 T2:1 X:1",
		"try {\nthrow 1; }\ncatch (e) {\nprint(e); }": "S1 S2 T2:1 C3 S4 O:1 D",
	} {
		for _, every := range []int{1, 2, api.MaxEvents} {
			r := run{compiled(t, text), roomy(2), []int{4}}.recorded(t, every)
			if got := told(r.Events()...); got != want || r.Full() {
				t.Errorf("%q, every %d: %s, want %s, full %v", text, every, got, want, r.Full())
			}
		}
	}
}

// 7.1: a run of MaxEvents events is not over for want of room, even if there would be none a little later.
func TestMaxEvents(t *testing.T) {
	cells := 0
	for old := 1; old < 400_000; old *= 2 {
		u := run{compiled(t, grows), vm.Config{Nursery: 5, Old: old}, nil}
		r := u.recorded(t, 100)
		if many := len(r.Events()); many > api.MaxEvents || r.Full() != (many < api.MaxEvents) {
			t.Errorf("an old part of %d: %d events, full %v", old, many, r.Full())
		}
		if r.Full() {
			cells = old
		}
	}
	if cells == 0 || cells > 100_000 {
		t.Errorf("the last room that was full: %d", cells)
	}
	// Just the room for what is made up to the last event, and a cell less: 749 lists of 5 cells, of which the last one may be in the nursery.
	for old, full := range map[int]bool{5 * 748: false, 5*748 - 1: true} {
		r := run{compiled(t, grows), vm.Config{Nursery: 5, Old: old}, nil}.recorded(t, 1)
		if r.Full() != full || (len(r.Events()) == api.MaxEvents) == full {
			t.Errorf("an old part of %d: %d events, full %v", old, len(r.Events()), r.Full())
		}
	}
}

// 6.1, 7.1: when the heap is collected, and how small the nursery is, is seen in nothing that is recorded, and in no identity.
func TestCollectionsAreNotSeen(t *testing.T) {
	for _, text := range []string{sample, "var i = 0; var l = []; while (i < 30) { l = [l, fn() { return l; }]; print(l); i = i + 1; }"} {
		image := compiled(t, text)
		first := run{image, roomy(), []int{7, 8}}
		want := first.recorded(t, 5)
		var see []string
		for n := range len(want.Events()) + 1 {
			see = append(see, seen(at(t, want, n)))
		}
		for _, c := range rooms() {
			r := run{image, c, []int{7, 8}}.recorded(t, 7)
			if got := r.Events(); !slices.Equal(got, want.Events()) || r.Full() {
				t.Fatalf("%+v: %.300s, want %.300s, full %v", c, told(got...), told(want.Events()...), r.Full())
			}
			for n, want := range see {
				if got := seen(at(t, r, n)); got != want {
					t.Fatalf("%+v, behind %d events:\n%s, want\n%s", c, n, got, want)
				}
			}
		}
	}
}

// rooms are those that are enough, with collections of all kinds.
func rooms() (l []vm.Config) {
	for _, nursery := range []int{59, 60, 61, 600} {
		for _, collect := range [][]int{nil, {0}, {1}, {2}, {0, 1}, {1, 2}, {0, 1, 2, 1}, {2, 0, 0, 0, 0, 1, 0}} {
			l = append(l, vm.Config{Nursery: nursery, Old: 5000, Collect: collect})
		}
	}
	return l
}
