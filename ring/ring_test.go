package ring_test

import (
	"math"
	"runtime"
	"slices"
	"strings"
	"testing"

	"marquee/api"
	"marquee/label"
	"marquee/ring"
	"marquee/row"
)

const (
	low  = api.Low
	high = api.High
)

// Attributes to tell cells by.
var (
	red  = api.Attr{Fg: api.Color{Kind: 1, R: 1}, Bg: api.Color{Kind: 1, R: 4}, Flags: api.Bold}
	grey = api.Attr{Fg: api.Color{Kind: 2, R: 9, G: 8, B: 7}, Flags: api.Underline}
)

// lines: rows of cells.
type lines = [][]api.Cell

func narrow(r rune, l api.Level) api.Cell { return api.Cell{Rune: r, Label: l} }

// wide: the two cells of a wide one.
func wide(r rune, a api.Attr, l api.Level) []api.Cell {
	return []api.Cell{{Rune: r, Kind: api.Left, Attr: a, Label: l}, {Kind: api.Right, Attr: a, Label: l}}
}

// word: a line of a text's runes, each Low.
func word(s string) []api.Cell {
	own := []api.Cell{}
	for _, r := range s {
		own = append(own, narrow(r, low))
	}
	return own
}

// pool: whole lines of several lengths, no two alike, the last one without cells.
func pool() lines {
	return lines{
		{narrow('a', low)},
		slices.Concat(wide('v', red, high), []api.Cell{narrow('b', low)}),
		{{Rune: 'e', Marks: [2]rune{0x301, 0x302}, Attr: grey, Label: high}, {}, {Attr: red}, narrow('c', high)},
		slices.Concat(wide('w', grey, low), wide('x', red, high)),
		{{Label: high}, {}},
		{},
	}
}

// odd: lines that are not whole, and cells of no kind.
func odd() lines {
	return lines{
		{{Rune: 'l', Kind: api.Left}, {Rune: 'r', Kind: api.Right}, {Rune: 'n', Label: 9}},
		{{Rune: -5, Marks: [2]rune{-1, 0}, Kind: 7}, {Rune: 'l', Kind: api.Left}},
		{{Rune: 'r', Kind: api.Right, Label: 255}, {Rune: math.MaxInt32}},
	}
}

func copied(l lines) lines {
	own := lines{}
	for _, x := range l {
		own = append(own, slices.Clone(x))
	}
	return own
}

func equal(a, b lines) bool { return slices.EqualFunc(a, b, slices.Equal) }

// labelled: lines, all cells of which have this label.
func labelled(l lines, to api.Level) lines {
	own := copied(l)
	for _, x := range own {
		for i := range x {
			x[i].Label = to
		}
	}
	return own
}

// spoil changes all that a list of lines has, and what may lie behind them.
func spoil(l lines) {
	for n, x := range l {
		for i := range x {
			x[i] = narrow('!', 77)
		}
		x = append(x, narrow('!', 77))
		l[n] = x[:cap(x)]
	}
	_ = append(l, nil)
}

// said: what a ring should be: its room, its label, and all that came since it was cleared.
type said struct {
	room  int
	label api.Level
	came  lines
}

// has: the last ones of those that came, as many as there is room for.
func (s said) has() lines {
	if len(s.came) <= s.room {
		return s.came
	}
	return s.came[len(s.came)-s.room:]
}

// places: those within small rings, and around them.
func places() []int {
	return []int{math.MinInt, -5, -2, -1, 0, 1, 2, 3, 4, 5, 6, 7, 999, 1000, 1001, math.MaxInt}
}

// check holds everything that a ring tells against what it should be.
func check(t *testing.T, what string, r *ring.Ring, s said) {
	t.Helper()
	want := s.has()
	if r.Len() != len(want) || r.Label() != s.label {
		t.Fatalf("%s: %d lines, labelled %d, not %d, %d", what, r.Len(), r.Label(), len(want), s.label)
	}
	if all := r.All(); !equal(all, want) {
		t.Fatalf("%s: %v, not %v", what, all, want)
	}
	for _, i := range places() {
		line, is := r.Line(i)
		there := i >= 0 && i < len(want)
		if is != there || there && !slices.Equal(line, want[i]) || !there && line != nil {
			t.Fatalf("%s: line %d: %v, %v", what, i, line, is)
		}
	}
	texts := r.Text()
	if len(texts) != len(want) {
		t.Fatalf("%s: %q", what, texts)
	}
	for i, x := range want {
		if texts[i] != row.Text(x) {
			t.Fatalf("%s: text %d: %q", what, i, texts[i])
		}
	}
}

// tried: what is done to a ring, and what it should be then.
type tried struct {
	name string
	act  func(r *ring.Ring)
	want func(s said) said
}

// pushing: lines that come in one call.
func pushing(l ...[]api.Cell) tried {
	return tried{"push", func(r *ring.Ring) { r.Push(l...) },
		func(s said) said { s.came = slices.Concat(s.came, l); return s }}
}

// acts: all that changes a ring.
func acts() []tried {
	p := pool()
	all := []tried{pushing(), pushing(p...), pushing(p[1], p[1], p[0]), pushing(p[2], p[4])}
	for _, x := range p {
		all = append(all, pushing(x), pushing(x))
	}
	for _, l := range []api.Level{low, high, 2, 255} {
		all = append(all,
			tried{"raise", func(r *ring.Ring) { r.Raise(l) },
				func(s said) said { s.label = label.Join(s.label, l); return s }},
			tried{"lower", func(r *ring.Ring) { r.Lower(l) },
				func(s said) said { s.label, s.came = l, labelled(s.came, l); return s }})
	}
	return append(all,
		tried{"clear", func(r *ring.Ring) { r.Clear(low) }, func(s said) said { return said{s.room, low, nil} }},
		tried{"clear", func(r *ring.Ring) { r.Clear(high) }, func(s said) said { return said{s.room, high, nil} }})
}

// begun: rings of each small room, without lines, with some, full, and gone round to each place.
func begun(do func(fresh func() *ring.Ring, s said)) {
	for room := range 5 {
		for many := range 3*room + 2 {
			for _, l := range []api.Level{low, high} {
				s := said{room, l, nil}
				for i := range many {
					s.came = append(s.came, pool()[i%6])
				}
				do(func() *ring.Ring {
					r := ring.New(room, l)
					r.Push(s.came...)
					return r
				}, s)
			}
		}
	}
}

// P13.1: there are rings with room for 0 to 1000 lines, and no others; they have their label, no lines, and that room.
func TestNew(t *testing.T) {
	for _, most := range []int{math.MinInt, -1000, -2, -1, 0, 1, 2, 3, 80, 998, 999, 1000, 1001, 1002, 2000, 65536, math.MaxInt} {
		for _, l := range []api.Level{low, high, 2, 255} {
			r := ring.New(most, l)
			if can := most >= 0 && most <= 1000; can != (r != nil) {
				t.Fatal(most, r != nil)
			}
			if r == nil {
				continue
			}
			s := said{most, l, nil}
			check(t, "new", r, s)
			for i := range most + 2 {
				s.came = append(s.came, word(string(rune('a'+i%26))))
				r.Push(s.came[i])
				if r.Len() != min(i+1, most) {
					t.Fatal(most, i, r.Len())
				}
			}
			check(t, "full", r, s)
		}
	}
}

// P13.1, P13.2: each act makes of each ring what the chapter's words say, and nothing else; what is handed in stays as it is.
func TestActs(t *testing.T) {
	for _, a := range acts() {
		begun(func(fresh func() *ring.Ring, s said) {
			r, was := fresh(), copied(s.came)
			a.act(r)
			check(t, a.name, r, a.want(s))
			if !equal(s.came, was) {
				t.Fatal(a.name, "handed in", s.came)
			}
			r.Push(pool()...)
			want := a.want(s)
			want.came = slices.Concat(want.came, pool())
			check(t, a.name+", push", r, want)
		})
	}
}

// P13.1, P13.3: two acts, one behind the other, and however many: the ring is what all of them make of it.
func TestRowsOfActs(t *testing.T) {
	all := acts()
	for _, a := range all {
		for _, b := range all {
			for room := range 4 {
				r := ring.New(room, low)
				r.Push(pool()...)
				a.act(r)
				b.act(r)
				check(t, a.name+", "+b.name, r, b.want(a.want(said{room, low, pool()})))
			}
		}
	}
	for room := range 9 {
		r, s := ring.New(room, high), said{room, high, nil}
		for i := range 3000 {
			a := all[i*i*7919/3%len(all)]
			a.act(r)
			s = a.want(s)
			s.came = s.has()
			check(t, a.name, r, s)
		}
	}
}

// P13.3: the lines that there are, are the last ones of all that came, in whatever calls they came.
func TestLastLines(t *testing.T) {
	var all lines
	for i := range 2600 {
		all = append(all, []api.Cell{narrow(rune(0x4e00+i), low)})
	}
	for _, room := range []int{0, 1, 2, 3, 7, 64, 999, 1000} {
		for _, step := range []int{1, 2, 3, 64, 65, 999, 1000, 1001, 2600} {
			r := ring.New(room, low)
			for from := 0; from < len(all); from += step {
				to := min(from+step, len(all))
				r.Push(all[from:to]...)
				if got := r.All(); !equal(got, said{room, low, all[:to]}.has()) {
					t.Fatal(room, step, to, len(got))
				}
			}
			check(t, "full", r, said{room, low, all})
		}
	}
}

// P13.1: the lines of one call are those of as many calls, wherever these are cut.
func TestPushCut(t *testing.T) {
	p := slices.Concat(pool(), pool()[:3])
	for room := range 11 {
		whole := ring.New(room, low)
		whole.Push(p...)
		for cuts := range 1 << (len(p) - 1) {
			r, from := ring.New(room, low), 0
			for i := range p {
				if cuts>>i&1 == 1 || i == len(p)-1 {
					r.Push(p[from : i+1]...)
					from = i + 1
				}
			}
			if !ring.Same(r, whole) {
				t.Fatal(room, cuts, r.Text())
			}
		}
	}
}

// P13.2: Raise joins the ring's label alone, as chapter 1 joins, with each number that a level can be.
func TestRaise(t *testing.T) {
	for was := range 256 {
		for l := range 256 {
			r := ring.New(2, api.Level(was))
			r.Push(pool()...)
			r.Raise(api.Level(l))
			want := label.Join(api.Level(was), api.Level(l))
			if r.Label() != want || !equal(r.All(), pool()[4:]) {
				t.Fatal(was, l, r.Label(), r.All())
			}
		}
	}
}

// P13.2: Lower and Clear make the label what they are told, whatever that was; Lower that of each cell, too.
func TestLowerAndClear(t *testing.T) {
	for was := range 256 {
		for l := range 256 {
			r := ring.New(3, api.Level(was))
			r.Push(pool()[:5]...)
			r.Lower(api.Level(l))
			if r.Label() != api.Level(l) || !equal(r.All(), labelled(pool()[2:5], api.Level(l))) {
				t.Fatal(was, l, r.Label(), r.All())
			}
			r = ring.New(3, api.Level(was))
			r.Push(pool()...)
			r.Clear(api.Level(l))
			check(t, "clear", r, said{3, api.Level(l), nil})
		}
	}
}

// P13.2: what comes behind Lower and Raise keeps its labels.
func TestLabelsOfNewLines(t *testing.T) {
	for _, l := range []api.Level{low, high} {
		r := ring.New(4, low)
		r.Push(pool()[1])
		r.Lower(l)
		r.Raise(l)
		r.Push(pool()[1])
		if all := r.All(); !equal(all, lines{labelled(pool()[1:2], l)[0], pool()[1]}) || r.Label() != l {
			t.Error(l, all, r.Label())
		}
	}
}

// P13.2: a copy is alike, and neither changes with the other one.
func TestCopy(t *testing.T) {
	for _, a := range acts() {
		begun(func(fresh func() *ring.Ring, s said) {
			r := fresh()
			c := r.Copy()
			if r == c || !ring.Same(r, c) || !ring.Same(c, r) {
				t.Fatal(s)
			}
			a.act(r)
			check(t, a.name+": copy", c, s)
			check(t, a.name+": copied", r, a.want(s))
			r = fresh()
			c = r.Copy()
			a.act(c)
			check(t, a.name+": copied", r, s)
			check(t, a.name+": copy", c, a.want(s))
		})
	}
}

// P13.2: the same are just those whose lines in order, label, and room are, however they came to them.
func TestSame(t *testing.T) {
	type one struct {
		r *ring.Ring
		s said
	}
	var all []one
	begun(func(fresh func() *ring.Ring, s said) { all = append(all, one{fresh(), s}) })
	for _, a := range all {
		for _, b := range all {
			want := a.s.room == b.s.room && a.s.label == b.s.label && equal(a.s.has(), b.s.has())
			if got := ring.Same(a.r, b.r); got != want {
				t.Fatal(a.s, b.s, got)
			}
		}
	}
}

// with: a ring of these lines.
func with(room int, l ...[]api.Cell) *ring.Ring {
	r := ring.New(room, low)
	r.Push(l...)
	return r
}

// P13.2: the smallest that may differ, is told.
func TestSameSmall(t *testing.T) {
	plain := with(3, word("a"), word("bc"))
	for i, r := range []*ring.Ring{
		with(2, word("a"), word("bc")), with(4, word("a"), word("bc")), with(3, word("bc"), word("a")),
		with(3, word("a")), with(3, word("bc")), with(3), with(3, word("ab"), word("c")), with(3, word("abc")),
		with(3, word("a"), word("bc"), nil), with(3, nil, word("a"), word("bc")), with(3, word("a"), word("b")),
		with(3, word("a"), word("bc"), word("bc")), with(3, word("a"), word("bd")), with(3, word("a"), word("bcd")),
	} {
		if ring.Same(r, plain) || ring.Same(plain, r) {
			t.Error(i)
		}
	}
	for _, c := range []api.Cell{
		{Rune: 'a'}, {Marks: [2]rune{1, 0}}, {Marks: [2]rune{0, 1}}, {Kind: api.Right}, {Label: high},
		{Attr: api.Attr{Flags: 1}}, {Attr: api.Attr{Fg: api.Color{B: 1}}}, {Attr: api.Attr{Bg: api.Color{Kind: 1}}},
	} {
		other, blanks := with(1, []api.Cell{{}, c}), with(1, []api.Cell{{}, {}})
		if ring.Same(other, blanks) || ring.Same(blanks, other) || !ring.Same(other, with(1, []api.Cell{{}, c})) {
			t.Error(c)
		}
	}
	raised := plain.Copy()
	raised.Raise(high)
	if ring.Same(raised, plain) || ring.Same(plain, raised) || !ring.Same(plain, with(3, word("a"), word("bc"))) {
		t.Error("raised")
	}
}

// P13.2: of a ring that is none there is nothing, whatever is done to it; it is the same as another one that is none, alone.
func TestNoRing(t *testing.T) {
	for _, r := range []*ring.Ring{nil, ring.New(-1, low), ring.New(1001, high)} {
		for _, a := range acts() {
			a.act(r)
			check(t, a.name, r, said{0, low, nil})
		}
		if r.All() != nil || r.Text() != nil || r.Copy() != nil {
			t.Error("something")
		}
		if !ring.Same(r, nil) || !ring.Same(nil, r) || !ring.Same(r, r) {
			t.Error("not the same")
		}
		for _, some := range []*ring.Ring{ring.New(0, low), {}, ring.New(3, low), with(2, nil)} {
			if ring.Same(r, some) || ring.Same(some, r) {
				t.Error("the same as one")
			}
		}
	}
}

// P1: a Ring of zero value is a ring without room.
func TestZero(t *testing.T) {
	for _, a := range acts() {
		r := &ring.Ring{}
		check(t, "zero", r, said{0, low, nil})
		if !ring.Same(r, ring.New(0, low)) {
			t.Error("not the same")
		}
		a.act(r)
		check(t, a.name, r, a.want(said{0, low, nil}))
	}
}

// P13.1: a line without cells is a line, nil or not.
func TestEmptyLines(t *testing.T) {
	r := ring.New(3, low)
	r.Push(nil, []api.Cell{}, nil, []api.Cell{})
	check(t, "empty", r, said{3, low, lines{{}, {}, {}}})
	if !ring.Same(r, with(3, nil, nil, nil)) || ring.Same(r, with(3, nil, nil)) {
		t.Error("lines without cells")
	}
	r.Push()
	r.Push(nil...)
	if r.Len() != 3 {
		t.Error(r.Len())
	}
}

// P1: lines that are not whole, and cells of no kind, are kept as they are.
func TestAnyLines(t *testing.T) {
	for room := range 5 {
		r, s := ring.New(room, 9), said{room, 9, odd()}
		r.Push(odd()...)
		check(t, "odd", r, s)
		check(t, "copy", r.Copy(), s)
		r.Lower(high)
		check(t, "lower", r, said{room, high, labelled(odd(), high)})
	}
}

// P1: no line that was handed in, or told, is the ring's own, or another one.
func TestOwnLines(t *testing.T) {
	begun(func(_ func() *ring.Ring, s said) {
		r, in := ring.New(s.room, s.label), copied(s.came)
		r.Push(in...)
		spoil(in)
		check(t, "handed in", r, s)
		spoil(r.All())
		check(t, "all", r, s)
		for i := range r.Len() {
			line, _ := r.Line(i)
			spoil(lines{line})
			clear(r.Text())
		}
		check(t, "line", r, s)
	})
}

// P1: one line that comes twice is two lines, each told by itself.
func TestOneLineTwice(t *testing.T) {
	line := word("ab")
	r := ring.New(4, low)
	r.Push(line, line)
	r.Push(line)
	line[0].Rune = 'x'
	r.Push(line)
	if got := strings.Join(r.Text(), " "); got != "ab ab ab xb" {
		t.Error(got)
	}
	all := r.All()
	for i, x := range all {
		if got := row.Text(x); got != strings.Fields("ab ab ab xb")[i] {
			t.Error(i, got)
		}
		spoil(lines{x})
	}
	if got := strings.Join(r.Text(), " "); got != "ab ab ab xb" {
		t.Error(got)
	}
	r.Lower(high)
	if line[0].Label != low || line[1].Label != low {
		t.Error("what was handed in is High")
	}
}

// held: how many bytes there are in all, behind what is no longer asked for.
func held() uint64 {
	var m runtime.MemStats
	runtime.GC()
	runtime.ReadMemStats(&m)
	return m.HeapAlloc
}

// P13.3: what a ring keeps is its lines: neither those that went, nor what they were cut from.
func TestKeeps(t *testing.T) {
	const size = 1 << 20 // cells
	from := held()
	r := ring.New(3, low)
	for range 4 {
		big := make([]api.Cell, size)
		r.Push(big, big, big)
		r.Push(big[:0], big[:1], big[size:])
	}
	other := ring.New(3, low)
	other.Push(make([]api.Cell, size))
	other.Clear(low)
	if now := held(); now > from+size {
		t.Error("bytes kept:", now-from)
	}
	runtime.KeepAlive(r)
	runtime.KeepAlive(other)
}

// seen: lines as Low sees them: all labels, and the cells that are Low.
func seen(l lines) lines {
	own := copied(l)
	for _, x := range own {
		for i := range x {
			if x[i].Label != low {
				x[i] = api.Cell{Label: x[i].Label}
			}
		}
	}
	return own
}

// P13.3: two rings with the same label, whose lines look alike to Low, do so again behind the same lines (and behind Raise and Clear).
func TestLabelsAlone(t *testing.T) {
	alike := lines{
		slices.Concat(wide('w', red, high), []api.Cell{narrow('h', high), narrow('a', low)}),
		slices.Concat([]api.Cell{narrow('i', high)}, wide('x', grey, high), []api.Cell{narrow('a', low)}),
		{{Label: high}, {Label: high}, {Rune: 'c', Marks: [2]rune{1, 2}, Attr: grey, Label: high}, narrow('a', low)},
	}
	p := pool()
	for room := range 5 {
		for _, a := range acts() {
			if a.name == "lower" { // that declassifies
				continue
			}
			for _, x := range alike {
				for _, y := range alike {
					first, other := with(room, alike[0], p[3], alike[1]), with(room, x, p[3], y)
					for range 4 {
						if !equal(seen(first.All()), seen(other.All())) || first.Label() != other.Label() {
							t.Fatal(room, a.name, x, y)
						}
						a.act(first)
						a.act(other)
					}
				}
			}
		}
	}
}

// The chapter's examples.
func TestExamples(t *testing.T) {
	text := func(r *ring.Ring) string { return strings.Join(r.Text(), ", ") }
	r := ring.New(2, low)
	r.Push(word("a"), word("b"), word("c"))
	if line, is := r.Line(0); text(r) != "b, c" || !is || row.Text(line) != "b" {
		t.Error(text(r), line, is)
	}
	r.Push(word("d"))
	if text(r) != "c, d" {
		t.Error(text(r))
	}
	for _, i := range []int{2, -1} {
		if line, is := r.Line(i); is || line != nil {
			t.Error(i, line)
		}
	}
	r.Clear(low)
	if r.Len() != 0 {
		t.Error(r.Len())
	}
	r.Push(word("e"))
	if text(r) != "e" {
		t.Error(text(r))
	}
	r = ring.New(0, low)
	r.Push(word("a"))
	if r.Len() != 0 {
		t.Error(r.Len())
	}
}
