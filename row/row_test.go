package row_test

import (
	"math"
	"slices"
	"testing"

	"marquee/api"
	"marquee/row"
)

const (
	low  = api.Low
	high = api.High
)

// Attributes to tell cells by.
var (
	red  = api.Attr{Fg: api.Color{Kind: 1, R: 1}, Bg: api.Color{Kind: 1, R: 4}, Flags: api.Bold}
	grey = api.Attr{Fg: api.Color{Kind: 2, R: 9, G: 8, B: 7}, Flags: api.Underline}
)

func narrow(r rune, l api.Level) api.Cell { return api.Cell{Rune: r, Label: l} }

// wide: the two cells of a wide one.
func wide(r rune, a api.Attr, l api.Level) []api.Cell {
	return []api.Cell{
		{Rune: r, Kind: api.Left, Attr: a, Label: l},
		{Kind: api.Right, Attr: a, Label: l},
	}
}

// lone: what is left of a wide one's half.
func lone(a api.Attr, l api.Level) api.Cell { return api.Cell{Attr: a, Label: l} }

// example: the chapter's row a, b, a wide c, d.
func example() []api.Cell {
	return slices.Concat([]api.Cell{narrow('a', low), narrow('b', high)}, wide('c', red, high), []api.Cell{{Rune: 'd', Attr: grey}})
}

// wholes: all rows, of at most so many cells, that are made of these pieces.
func wholes(most int, pieces [][]api.Cell) [][]api.Cell {
	all := [][]api.Cell{{}}
	for i := 0; i < len(all); i++ {
		for _, p := range pieces {
			if len(all[i])+len(p) <= most {
				all = append(all, slices.Concat(all[i], p))
			}
		}
	}
	return all
}

// rows: whole rows of all kinds of cells.
func rows() [][]api.Cell {
	marked := wide(0x4e2d, grey, low)
	marked[0].Marks = [2]rune{0x301}
	return wholes(5, [][]api.Cell{
		{{Rune: 'a', Attr: red, Marks: [2]rune{0x302, 0x303}}},
		{{Label: high, Attr: api.Attr{Bg: api.Color{Kind: 1, R: 2}}}},
		wide(0x65e5, red, high),
		marked,
	})
}

// places: those within a row of at most six cells, and around it.
func places() []int {
	return []int{math.MinInt, -2, -1, 0, 1, 2, 3, 4, 5, 6, 7, math.MaxInt}
}

// blanks: cells to fill with.
func blanks() []api.Cell {
	return []api.Cell{{}, row.Blank(red, high), {Rune: 'z', Marks: [2]rune{0x308}, Attr: grey}}
}

func bound(n, end int) int {
	if n < 0 {
		return 0
	}
	if n > end {
		return end
	}
	return n
}

// from: a row's cells by their places, where those at a negative place are blanks, and wide ones are in two halves at each of the cuts.
func from(r []api.Cell, blank api.Cell, cuts []int, src ...int) []api.Cell {
	own := []api.Cell{}
	for _, i := range src {
		if i < 0 {
			own = append(own, blank)
			continue
		}
		c := r[i]
		for _, at := range cuts {
			if c.Kind == api.Left && at == i+1 || c.Kind == api.Right && at == i {
				c = lone(c.Attr, c.Label)
			}
		}
		own = append(own, c)
	}
	return own
}

// count: the numbers from a up to, without, b.
func count(a, b int) []int {
	l := []int{}
	for ; a < b; a++ {
		l = append(l, a)
	}
	return l
}

func none(n int) []int {
	l := []int{}
	for ; n > 0; n-- {
		l = append(l, -1)
	}
	return l
}

func check(t *testing.T, what string, got, want []api.Cell) {
	t.Helper()
	if !slices.Equal(got, want) {
		t.Fatalf("%s: %v, not %v", what, got, want)
	}
}

// acts: each function that answers a row, at all places and numbers, with what the chapter's words make of it.
func acts(do func(name string, act func(r []api.Cell) []api.Cell, want func(r []api.Cell) []api.Cell)) {
	for _, x := range places() {
		do("break at one place", func(r []api.Cell) []api.Cell { return row.Break(r, x) },
			func(r []api.Cell) []api.Cell { return from(r, api.Cell{}, []int{x}, count(0, len(r))...) })
		for _, y := range places() {
			do("break", func(r []api.Cell) []api.Cell { return row.Break(r, x, y) },
				func(r []api.Cell) []api.Cell { return from(r, api.Cell{}, []int{x, y}, count(0, len(r))...) })
			for _, blank := range blanks() {
				three(do, x, y, blank)
			}
		}
		for _, blank := range blanks() {
			putAndMark(do, x, blank)
		}
		if x > 10 {
			continue
		}
		do("resize", func(r []api.Cell) []api.Cell { return row.Resize(r, x, row.Blank(red, high)) },
			func(r []api.Cell) []api.Cell {
				stay := bound(x, len(r))
				return from(r, row.Blank(red, high), []int{x}, slices.Concat(count(0, stay), none(x-stay))...)
			})
	}
	for _, l := range []api.Level{low, high} {
		do("raise", func(r []api.Cell) []api.Cell { return row.Raise(r, l) },
			func(r []api.Cell) []api.Cell {
				own := slices.Clone(r)
				for i := range own {
					if l == high {
						own[i].Label = high
					}
				}
				return own
			})
	}
}

// three: Insert, Delete and Erase.
func three(do func(name string, act, want func(r []api.Cell) []api.Cell), x, y int, blank api.Cell) {
	do("insert", func(r []api.Cell) []api.Cell { return row.Insert(r, x, y, blank) },
		func(r []api.Cell) []api.Cell {
			at := bound(x, len(r))
			n := bound(y, len(r)-at)
			end := len(r) - n
			return from(r, blank, []int{at, end}, slices.Concat(count(0, at), none(n), count(at, end))...)
		})
	do("delete", func(r []api.Cell) []api.Cell { return row.Delete(r, x, y, blank) },
		func(r []api.Cell) []api.Cell {
			at := bound(x, len(r))
			n := bound(y, len(r)-at)
			return from(r, blank, []int{at, at + n}, slices.Concat(count(0, at), count(at+n, len(r)), none(n))...)
		})
	do("erase", func(r []api.Cell) []api.Cell { return row.Erase(r, x, y, blank) },
		func(r []api.Cell) []api.Cell {
			a, b := bound(x, len(r)), bound(y, len(r))
			if b <= a {
				return from(r, blank, []int{a, b}, count(0, len(r))...)
			}
			return from(r, blank, []int{a, b}, slices.Concat(count(0, a), none(b-a), count(b, len(r)))...)
		})
}

// putAndMark: Put of a cell, narrow and wide, and Mark by its label.
func putAndMark(do func(name string, act, want func(r []api.Cell) []api.Cell), x int, c api.Cell) {
	do("put narrow", func(r []api.Cell) []api.Cell { return row.Put(r, x, c, false) },
		func(r []api.Cell) []api.Cell {
			at := bound(x, len(r))
			if at == len(r) {
				return r
			}
			return from(r, c, []int{at, at + 1}, slices.Concat(count(0, at), none(1), count(at+1, len(r)))...)
		})
	do("put wide", func(r []api.Cell) []api.Cell { return row.Put(r, x, c, true) },
		func(r []api.Cell) []api.Cell {
			at := bound(x, len(r))
			if at+1 >= len(r) {
				return r
			}
			own := from(r, c, []int{at, at + 2}, slices.Concat(count(0, at), none(2), count(at+2, len(r)))...)
			own[at].Kind = api.Left
			own[at+1] = api.Cell{Kind: api.Right, Attr: c.Attr, Label: c.Label}
			return own
		})
	do("mark", func(r []api.Cell) []api.Cell { return row.Mark(r, x, 0x301, c.Label) },
		func(r []api.Cell) []api.Cell {
			own := slices.Clone(r)
			at := x
			if at < 0 || at >= len(r) {
				return own
			}
			if own[at].Kind == api.Right {
				at--
			}
			if own[at].Rune == 0 {
				return own
			}
			m := &own[at].Marks
			if m[0] == 0 {
				m[0] = 0x301
			} else if m[1] == 0 {
				m[1] = 0x301
			}
			if c.Label == high {
				own[at].Label = high
				if own[at].Kind == api.Left {
					own[at+1].Label = high
				}
			}
			return own
		})
}

// P10.1: New is so many blanks, none if there are to be less than one.
func TestNew(t *testing.T) {
	for _, blank := range blanks() {
		for _, cols := range []int{math.MinInt, -1, 0, 1, 2, 5, 512, 3000} {
			r := row.New(cols, blank)
			if len(r) != max(cols, 0) {
				t.Fatal(cols, len(r))
			}
			for _, c := range r {
				if c != blank {
					t.Fatal(cols, c)
				}
			}
		}
	}
}

// P10.1: a blank has the ground and the label alone.
func TestBlank(t *testing.T) {
	for _, l := range []api.Level{low, high} {
		for _, a := range []api.Attr{{}, red, grey, {Bg: api.Color{Kind: 2, R: 1, G: 2, B: 3}, Flags: 511}} {
			if c := row.Blank(a, l); c != (api.Cell{Attr: api.Attr{Bg: a.Bg}, Label: l}) {
				t.Error(a, l, c)
			}
		}
	}
}

// P10.1: a row is whole only if each half has its other one, and a Right is alike but for what it shows.
func TestWhole(t *testing.T) {
	for _, r := range rows() {
		if !row.Whole(r) {
			t.Error(r)
		}
	}
	w := wide('w', red, high)
	change := func(do func(left, right *api.Cell)) []api.Cell {
		r := slices.Clone(w)
		do(&r[0], &r[1])
		return r
	}
	n := narrow('n', low)
	for _, r := range [][]api.Cell{
		{w[0]}, {w[1]}, {w[1], w[0]}, {w[0], n}, {n, w[1]}, {w[0], w[0], w[1]}, {w[0], w[1], w[1]},
		{w[0], n, w[1]}, {w[0], w[1], w[0]}, {w[1], w[0], w[1]},
		change(func(_, r *api.Cell) { r.Rune = 'x' }),
		change(func(_, r *api.Cell) { r.Rune = ' ' }),
		change(func(_, r *api.Cell) { r.Marks[0] = 0x301 }),
		change(func(_, r *api.Cell) { r.Marks[1] = 0x301 }),
		change(func(_, r *api.Cell) { r.Label = low }),
		change(func(l, _ *api.Cell) { l.Label = low }),
		change(func(_, r *api.Cell) { r.Attr = grey }),
		change(func(_, r *api.Cell) { r.Attr.Flags ^= api.Blink }),
		change(func(l, _ *api.Cell) { l.Attr.Fg = api.Color{} }),
		change(func(l, _ *api.Cell) { l.Attr.Bg.R++ }),
	} {
		if row.Whole(r) {
			t.Error(r)
		}
	}
	blank := wide(0, grey, low) // a Left may be without a rune, and have marks
	if !row.Whole(nil) || !row.Whole(w) || !row.Whole(blank) || !row.Whole(change(func(l, _ *api.Cell) { l.Marks[0] = 0x301 })) {
		t.Error("a whole row")
	}
}

// P10.1, P10.2, P10.3, P10.4: each act on all short rows makes what the chapter's words say, which is whole (P10.5), and leaves what was handed in as it was.
func TestActs(t *testing.T) {
	all := rows()
	acts(func(name string, act, want func([]api.Cell) []api.Cell) {
		for _, r := range all {
			was := slices.Clone(r)
			got := act(r)
			check(t, name, r, was)
			check(t, name, got, want(was))
			if !row.Whole(got) {
				t.Fatal(name, r, got)
			}
		}
	})
}

// P10.1: broken at several boundaries, or at none; the halves keep attributes and labels.
func TestBreak(t *testing.T) {
	w, x := wide('w', red, high), wide('x', grey, low)
	r := slices.Concat(w, x, w)
	check(t, "at none", row.Break(r), r)
	check(t, "between", row.Break(r, 0, 2, 4, 6), r)
	check(t, "twice", row.Break(r, 5, 1, 5), slices.Concat([]api.Cell{lone(red, high), lone(red, high)}, x, []api.Cell{lone(red, high), lone(red, high)}))
	check(t, "in the middle", row.Break(r, 3), slices.Concat(w, []api.Cell{lone(grey, low), lone(grey, low)}, w))
	check(t, "of nothing", row.Break(nil, 0, 1, -1), nil)
}

// P10.2: the cell that is put takes its kind by how wide it is, not by what it says; the Right has nothing of it but attributes and label.
func TestPut(t *testing.T) {
	c := api.Cell{Rune: 'x', Marks: [2]rune{1, 2}, Attr: red, Label: high}
	for _, kind := range []uint8{api.Narrow, api.Left, api.Right} {
		c.Kind = kind
		r := row.Put(row.New(3, api.Cell{}), 1, c, false)
		c.Kind = api.Narrow
		check(t, "narrow", r, []api.Cell{{}, c, {}})
		c.Kind = kind
		r = row.Put(row.New(3, api.Cell{}), 1, c, true)
		c.Kind = api.Left
		check(t, "wide", r, []api.Cell{{}, c, {Kind: api.Right, Attr: red, Label: high}})
	}
	// A wide one over the halves of two others breaks both, and needs not break itself.
	r := slices.Concat(wide('v', red, high), wide('w', grey, low))
	check(t, "over two", row.Put(r, 1, narrow('x', low), true), slices.Concat(
		[]api.Cell{lone(red, high)}, wide('x', api.Attr{}, low), []api.Cell{lone(grey, low)}))
	// Without room nothing is broken.
	check(t, "no room", row.Put(r, 3, narrow('x', low), true), r)
	check(t, "no place", row.Put(r, 4, narrow('x', low), false), r)
	check(t, "none", row.Put(nil, 0, narrow('x', low), false), nil)
}

// P10.3: what is named holds for none, too: the row is broken where it would be cut.
func TestNone(t *testing.T) {
	want := slices.Concat(example()[:2], []api.Cell{lone(red, high), lone(red, high)}, example()[4:])
	check(t, "insert", row.Insert(example(), 3, 0, api.Cell{}), want)
	check(t, "delete", row.Delete(example(), 3, -1, api.Cell{}), want)
	check(t, "erase", row.Erase(example(), 3, 3, api.Cell{}), want)
	check(t, "erase backwards", row.Erase(example(), 3, 1, api.Cell{}), want)
	check(t, "erase backwards to the middle", row.Erase(example(), 4, 3, api.Cell{}), want)
}

// P10.4: marks come one behind the other, and a label is joined even where none is free.
func TestMark(t *testing.T) {
	r := example()
	for n, want := range [][2]rune{{0x301}, {0x301, 0x302}, {0x301, 0x302}} {
		r = row.Mark(r, 3, 0x301+rune(n), low)
		if r[2].Marks != want || r[3].Marks != [2]rune{} {
			t.Fatal(n, r)
		}
	}
	r = row.Mark(example(), 4, 0x301, low)
	r = row.Mark(r, 4, 0x302, low)
	if r[4].Label != low || r[4].Attr != grey {
		t.Error(r[4])
	}
	r = row.Mark(r, 4, 0x303, high)
	if r[4] != (api.Cell{Rune: 'd', Marks: [2]rune{0x301, 0x302}, Attr: grey, Label: high}) {
		t.Error(r[4])
	}
	w := wide('w', api.Attr{}, low)
	for at := range 2 {
		got := row.Mark(w, at, 0x301, high)
		if got[0].Label != high || got[1].Label != high || got[0].Marks[0] != 0x301 || !row.Whole(got) {
			t.Error(at, got)
		}
	}
	// Nothing comes to a cell without a rune, not even a label.
	for _, r := range [][]api.Cell{{{}}, {{Marks: [2]rune{0x301}}}, wide(0, red, low), wide('w', red, low)[1:], nil} {
		for at := -1; at < 3; at++ {
			check(t, "without a rune", row.Mark(r, at, 0x301, high), r)
		}
	}
}

// P10.4: Level joins the labels of the cells between two places, and Low is that of none.
func TestLevel(t *testing.T) {
	for _, r := range rows() {
		for _, a := range places() {
			for _, b := range places() {
				want := low
				for i, c := range r {
					if i >= a && i < b && c.Label == high {
						want = high
					}
				}
				if got := row.Level(r, a, b); got != want {
					t.Fatal(r, a, b, got)
				}
			}
		}
	}
}

// P10.4: Raise joins all labels; a number that is no level counts as chapter 1 says.
func TestRaise(t *testing.T) {
	for _, l := range []api.Level{low, high, 2, 255} {
		r := row.Raise(example(), l)
		for i, c := range example() {
			if l != low {
				c.Label = high
			}
			if r[i] != c {
				t.Error(l, i, r[i])
			}
		}
	}
	if l := row.Level([]api.Cell{{Label: 7}}, 0, 1); l != high {
		t.Error(l)
	}
}

// P10.4: a row that is resized is cut, or has blanks behind.
func TestResize(t *testing.T) {
	b := row.Blank(red, high)
	check(t, "longer", row.Resize(example(), 7, b), append(example(), b, b))
	check(t, "cut in a wide one", row.Resize(example(), 3, b), append(example()[:2], lone(red, high)))
	check(t, "cut behind it", row.Resize(example(), 4, b), example()[:4])
	check(t, "as long", row.Resize(example(), 5, b), example())
	check(t, "nothing", row.Resize(example(), 0, b), nil)
	check(t, "less than nothing", row.Resize(example(), math.MinInt, b), nil)
	check(t, "of nothing", row.Resize(nil, 2, b), []api.Cell{b, b})
}

// P10.4: the text has the runes with their marks, blanks for those that are none, and nothing for Rights.
func TestText(t *testing.T) {
	marked := wide(0x8a9e, red, low)
	marked[0].Marks = [2]rune{0x301, 0x302}
	for _, c := range []struct {
		r    []api.Cell
		want string
	}{
		{nil, ""},
		{example(), "abcd"},
		{row.New(3, api.Cell{}), "   "},
		{wide(0, red, high), " "},
		{marked, "語\u0301\u0302"},
		{[]api.Cell{{Rune: 'e', Marks: [2]rune{0x301}}, {Rune: 0x10ffff}}, "e\u0301\U0010ffff"},
		{[]api.Cell{{Marks: [2]rune{0x301}}, {Rune: 'x', Marks: [2]rune{0, 0x302}}}, " \u0301x\u0302"},
		{[]api.Cell{{Rune: ' '}, {Rune: -1}, {Rune: 0xd800}}, " \ufffd\ufffd"},
	} {
		if s := row.Text(c.r); s != c.want {
			t.Errorf("%v: %q, not %q", c.r, s, c.want)
		}
	}
}

// P10.2, P10.3, P10.4: the chapter's examples.
func TestExamples(t *testing.T) {
	for _, c := range []struct {
		what string
		got  []api.Cell
		want string
	}{
		{"put", row.Put(example(), 3, narrow('x', low), false), "ab xd"},
		{"insert 1", row.Insert(example(), 1, 1, api.Cell{}), "a bc"},
		{"insert 2", row.Insert(example(), 1, 2, api.Cell{}), "a  b "},
		{"delete", row.Delete(example(), 3, 1, api.Cell{}), "ab d "},
		{"mark", row.Mark(example(), 3, 0x301, low), "abc\u0301d"},
		{"text", example(), "abcd"},
	} {
		if s := row.Text(c.got); s != c.want || len(c.got) != 5 || !row.Whole(c.got) {
			t.Errorf("%s: %q", c.what, s)
		}
	}
}

// seen: a row's labels, and those of its cells that are Low.
func seen(r []api.Cell) [5]api.Cell {
	var s [5]api.Cell
	for i := range s {
		switch {
		case i >= len(r):
			s[i].Rune = -1
		case r[i].Label == low:
			s[i] = r[i]
		default:
			s[i].Label = r[i].Label
		}
	}
	return s
}

// P10.5: two rows with the same labels, whose Low cells are alike, are so again behind the same acts.
func TestLabelsAlone(t *testing.T) {
	alike := map[[5]api.Cell][][]api.Cell{}
	for _, r := range wholes(4, [][]api.Cell{
		{narrow('a', low)}, {{Attr: red}}, wide('v', api.Attr{}, low),
		{narrow('b', high)}, {{Label: high}}, {{Rune: 'c', Marks: [2]rune{1, 2}, Attr: grey, Label: high}}, wide('w', red, high),
	}) {
		alike[seen(r)] = append(alike[seen(r)], r)
	}
	acts(func(name string, act, _ func([]api.Cell) []api.Cell) {
		for _, rows := range alike {
			for _, r := range rows[1:] {
				first, other := act(rows[0]), act(r)
				if len(first) <= 5 && seen(first) != seen(other) {
					t.Fatal(name, rows[0], r, first, other)
				}
				if row.Level(first, 0, 9) != row.Level(other, 0, 9) {
					t.Fatal(name, rows[0], r)
				}
			}
		}
	})
}

// P1: nothing panics at rows that are not whole, cells of no kind, and blanks that are not Narrow, and the answers have their lengths.
func TestAnyRows(t *testing.T) {
	odd := wholes(4, [][]api.Cell{
		{{Rune: 'l', Kind: api.Left}}, {{Rune: 'r', Kind: api.Right}}, {{Rune: 'n', Label: 9}}, {{Rune: -5, Marks: [2]rune{-1, 0}, Kind: 7}},
	})
	acts(func(name string, act, want func([]api.Cell) []api.Cell) {
		for _, r := range odd {
			was := slices.Clone(r)
			if got := act(r); name != "mark" && len(got) != len(want(r)) || name == "mark" && len(got) != len(r) {
				t.Fatal(name, r, got)
			}
			check(t, name, r, was)
			row.Whole(r)
			row.Text(r)
			row.Level(r, -1, 9)
		}
	})
	for _, blank := range []api.Cell{{Kind: api.Left}, {Kind: api.Right, Rune: 'x'}, {Kind: 200, Label: 200}} {
		if len(row.New(3, blank)) != 3 || len(row.Insert(example(), 3, 2, blank)) != 5 || len(row.Delete(example(), 3, 2, blank)) != 5 ||
			len(row.Erase(example(), 3, 5, blank)) != 5 || len(row.Resize(example(), 9, blank)) != 9 {
			t.Error(blank)
		}
	}
}

// P1: sizes beyond the document's bound end, too.
func TestBeyondBound(t *testing.T) {
	row.New(math.MaxInt, api.Cell{})
	row.Resize(example(), math.MaxInt, api.Cell{})
}

// P10 (its own row), P1: what is answered is the caller's, even where nothing was to do.
func TestOwnRow(t *testing.T) {
	acts(func(name string, act, _ func([]api.Cell) []api.Cell) {
		r := append(example(), narrow('e', low))[:5:6] // one that has room behind
		got := act(r)
		for i := range got {
			got[i] = narrow('!', high)
		}
		_ = append(got, narrow('!', high))
		check(t, name, r[:6], append(example(), narrow('e', low)))
		check(t, name, act(r), act(example()))
	})
}
