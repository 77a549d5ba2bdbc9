package tabs_test

import (
	"math"
	"slices"
	"testing"

	"marquee/api"
	"marquee/label"
	"marquee/tabs"
)

const (
	low  = api.Low
	high = api.High
)

// said: what tab stops should be: how many columns, base, label, and the columns at which tabs stop, rising.
type said struct {
	cols        int
	base, label api.Level
	stops       []int
}

// first: as at first.
func first(cols int, base api.Level) said {
	s := said{cols: cols, base: base, label: base}
	for col := range cols {
		if col != 0 && col%8 == 0 {
			s.stops = append(s.stops, col)
		}
	}
	return s
}

// stopping: the same, but that tabs stop, or do not, at a column.
func (s said) stopping(is bool, col int) said {
	rest := slices.DeleteFunc(slices.Clone(s.stops), func(x int) bool { return x == col })
	if is && col >= 0 && col < s.cols {
		rest = append(rest, col)
		slices.Sort(rest)
	}
	s.stops = rest
	return s
}

func (s said) labelled(l api.Level) said { s.label = l; return s }

func (s said) raised(l api.Level) said { return s.labelled(label.Join(s.label, l)) }

func (s said) resized(cols int) said {
	own := first(cols, s.base).labelled(s.label)
	for col := range min(cols, s.cols) {
		own = own.stopping(slices.Contains(s.stops, col), col)
	}
	return own
}

// last: the last column; 0 without columns.
func (s said) last() int {
	if s.cols == 0 {
		return 0
	}
	return s.cols - 1
}

// within: a column, brought within the columns.
func (s said) within(col int) int {
	switch {
	case col < 0:
		return 0
	case col > s.last():
		return s.last()
	}
	return col
}

// next: the n-th of the tab stops behind a column.
func (s said) next(col, n int) int {
	if n < 1 {
		return s.within(col)
	}
	var behind []int
	for _, x := range s.stops {
		if x > col {
			behind = append(behind, x)
		}
	}
	if n > len(behind) {
		return s.last()
	}
	return behind[n-1]
}

// back: the n-th of the tab stops ahead of a column.
func (s said) back(col, n int) int {
	if n < 1 {
		return s.within(col)
	}
	var ahead []int
	for _, x := range s.stops {
		if x < col {
			ahead = append(ahead, x)
		}
	}
	if n > len(ahead) {
		return 0
	}
	return ahead[len(ahead)-n]
}

// ends: numbers that are far from all columns.
func ends() []int {
	return []int{math.MinInt, math.MinInt + 1, -1 << 32, -513, 513, 65536, 1 << 32, math.MaxInt - 1, math.MaxInt}
}

// around: the columns, those beside them, and numbers far from them; of many columns only some.
func around(cols int) []int {
	own := append(ends(), -64, -9, -8, -2, -1, cols, cols+1, cols+64)
	for col := range cols {
		if cols <= 40 || col%64 < 2 || col%64 == 63 || col%7 == 0 || col >= cols-2 {
			own = append(own, col)
		}
	}
	return own
}

// check holds what tab stops are against what they should be: columns, label, list, and each column's.
func check(t *testing.T, what string, x tabs.Tabs, s said) {
	t.Helper()
	if x.Cols() != s.cols || x.Label() != s.label {
		t.Fatalf("%s: %d columns, labelled %d, not %d, %d", what, x.Cols(), x.Label(), s.cols, s.label)
	}
	if got := x.List(); !slices.Equal(got, s.stops) {
		t.Fatalf("%s: %v, not %v", what, got, s.stops)
	}
	stops := map[int]bool{}
	for _, col := range s.stops {
		stops[col] = true
	}
	for _, col := range around(s.cols) {
		if x.Has(col) != stops[col] {
			t.Fatalf("%s: Has(%d): %v", what, col, x.Has(col))
		}
	}
}

// checkMoves holds Next and Back against what they should be, from all columns and numbers of stops.
func checkMoves(t *testing.T, what string, x tabs.Tabs, s said) {
	t.Helper()
	many := len(s.stops)
	for _, col := range around(s.cols) {
		for _, n := range append(ends(), -2, -1, 0, 1, 2, 3, many-1, many, many+1) {
			if got, want := x.Next(col, n), s.next(col, n); got != want {
				t.Fatalf("%s: %v of %d: Next(%d, %d): %d, not %d", what, s.stops, s.cols, col, n, got, want)
			}
			if got, want := x.Back(col, n), s.back(col, n); got != want {
				t.Fatalf("%s: %v of %d: Back(%d, %d): %d, not %d", what, s.stops, s.cols, col, n, got, want)
			}
		}
	}
}

// levels: the two, and numbers that count as High.
func levels() []api.Level { return []api.Level{low, high, 2, 255} }

// sizes: small ones, those at which the first tab stops come, and those around numbers of bits.
func sizes() []int {
	return []int{0, 1, 2, 7, 8, 9, 10, 16, 17, 20, 63, 64, 65, 72, 73, 80, 127, 128, 129, 192, 193, 448, 449, 504, 505, 511, 512}
}

// tried: what is done to tab stops, and what they should be then.
type tried struct {
	name string
	act  func(x tabs.Tabs) tabs.Tabs
	want func(s said) said
}

func setting(by api.Level, cols ...int) tried {
	return tried{"set", func(x tabs.Tabs) tabs.Tabs { return x.Set(by, cols...) }, func(s said) said {
		for _, col := range cols {
			s = s.stopping(true, col)
		}
		return s.raised(by)
	}}
}

func clearing(by api.Level, cols ...int) tried {
	return tried{"clear", func(x tabs.Tabs) tabs.Tabs { return x.Clear(by, cols...) }, func(s said) said {
		for _, col := range cols {
			s = s.stopping(false, col)
		}
		return s.raised(by)
	}}
}

func raising(l api.Level) tried {
	return tried{"raise", func(x tabs.Tabs) tabs.Tabs { return x.Raise(l) }, func(s said) said { return s.raised(l) }}
}

// resizing: to a number of columns, which comes to another one if there can't be as many.
func resizing(cols, come int) tried {
	return tried{"resize", func(x tabs.Tabs) tabs.Tabs { return x.Resize(cols) }, func(s said) said { return s.resized(come) }}
}

func none() tried {
	return tried{"none", tabs.Tabs.None, func(s said) said { s.stops, s.label = nil, s.base; return s }}
}

func declassifying() tried {
	return tried{"declassify", tabs.Tabs.Declassify, func(s said) said { return s.labelled(s.base) }}
}

// columns: lists of columns, some of them there, some not, some twice.
func columns() [][]int {
	return [][]int{
		nil, {}, {0}, {1}, {8}, {-1}, {512}, {3, 5, 3}, {0, 8, 16, 24, 32, 64}, {511, 64, 63, 0}, {7, 9, 15, 17, 7},
		{2, -1, 600, 6}, {math.MaxInt, math.MinInt, 4, -64, 64}, {128, 191, 192, 256, 320, 447},
	}
}

// acts: all that makes other tab stops.
func acts() []tried {
	all := []tried{none(), declassifying()}
	for _, l := range levels() {
		all = append(all, raising(l))
		for _, cols := range columns() {
			all = append(all, setting(l, cols...), clearing(l, cols...))
		}
	}
	for _, n := range sizes() {
		all = append(all, resizing(n, n))
	}
	for _, n := range []int{-1, -8, -512, math.MinInt} {
		all = append(all, resizing(n, 0))
	}
	for _, n := range []int{513, 520, 1024, 65536, math.MaxInt} {
		all = append(all, resizing(n, 512))
	}
	return all
}

// P14.1: at first each 8th column but 0 is a tab stop, of as many columns as there can be, and the label is the base.
func TestNew(t *testing.T) {
	for cols := range 513 {
		for _, base := range levels() {
			check(t, "new", tabs.New(cols, base), first(cols, base))
		}
		checkMoves(t, "new", tabs.New(cols, low), first(cols, low))
	}
	for _, base := range levels() {
		for _, cols := range []int{-1, -2, -512, math.MinInt} {
			check(t, "few", tabs.New(cols, base), first(0, base))
		}
		for _, cols := range []int{513, 514, 520, 576, 1024, 1 << 32, math.MaxInt} {
			check(t, "many", tabs.New(cols, base), first(512, base))
		}
	}
}

// P14.1, P14.3: each act makes of tab stops what the chapter's words say, and leaves those that were.
func TestActs(t *testing.T) {
	for _, a := range acts() {
		for _, cols := range sizes() {
			for _, base := range levels() {
				x, s := tabs.New(cols, base), first(cols, base)
				y := a.act(x)
				check(t, a.name, y, a.want(s))
				check(t, a.name+": those that were", x, s)
				if x != tabs.New(cols, base) {
					t.Fatal(a.name, "changed those that were")
				}
			}
		}
	}
}

// P14.1, P14.3: two acts, one behind the other.
func TestPairsOfActs(t *testing.T) {
	all := acts()
	for _, cols := range []int{0, 1, 9, 20, 64, 65, 130, 512} {
		for i, a := range all {
			for j, b := range all {
				x, s := b.act(a.act(tabs.New(cols, low))), b.want(a.want(first(cols, low)))
				if (i+j)%5 != 0 { // the list tells all stops; the rest is asked of some
					if !slices.Equal(x.List(), s.stops) || x.Label() != s.label || x.Cols() != s.cols {
						t.Fatal(a.name, b.name, cols, x.List(), x.Label(), x.Cols(), s)
					}
					continue
				}
				check(t, a.name+", "+b.name, x, s)
			}
		}
	}
}

// P14.1, P14.3: however many acts: the tab stops are what all of them make of them.
func TestRowsOfActs(t *testing.T) {
	all := acts()
	for _, base := range levels() {
		x, s := tabs.New(80, base), first(80, base)
		for i := range 4000 {
			a := all[i*i*7919/3%len(all)]
			x, s = a.act(x), a.want(s)
			check(t, a.name, x, s)
			if i%50 == 0 {
				checkMoves(t, a.name, x, s)
			}
			if i%7 == 0 { // few acts set many: so that there is something to see
				a = setting(low, i%512, i*3%512, i*7%80, i*5%80)
				x, s = a.act(x), a.want(s)
			}
		}
	}
}

// P14.1, P14.2: each column is set and cleared by itself.
func TestEachColumn(t *testing.T) {
	for _, cols := range []int{1, 64, 65, 80, 128, 511, 512} {
		for col := range cols {
			s := first(cols, low)
			check(t, "set", tabs.New(cols, low).Set(low, col), s.stopping(true, col))
			check(t, "clear", tabs.New(cols, low).Clear(low, col), s.stopping(false, col))
			s.stops = []int{col}
			x := tabs.New(cols, low).None().Set(low, col)
			check(t, "alone", x, s)
			for from := range cols {
				if x.Next(from, 1) != s.next(from, 1) || x.Back(from, 1) != s.back(from, 1) {
					t.Fatal(cols, col, from, x.Next(from, 1), x.Back(from, 1))
				}
			}
		}
	}
}

// P14.2: Next and Back among all sets of stops of few columns, and of the columns beside where one number of bits ends.
func TestMoves(t *testing.T) {
	for cols := range 9 {
		for set := range 1 << cols {
			x, s := tabs.New(cols, low).None(), said{cols: cols}
			for col := range cols {
				if set>>col&1 == 1 {
					x, s.stops = x.Set(low, col), append(s.stops, col)
				}
			}
			checkMoves(t, "small", x, s)
		}
	}
	edge := []int{0, 62, 63, 64, 65, 127, 128}
	for set := range 1 << len(edge) {
		x, s := tabs.New(129, low).None(), said{cols: 129}
		for i, col := range edge {
			if set>>i&1 == 1 {
				x, s.stops = x.Set(low, col), append(s.stops, col)
			}
		}
		checkMoves(t, "edge", x, s)
	}
}

// P14.2: of all columns, each a tab stop, the n-th one is n columns away.
func TestAllStop(t *testing.T) {
	x := tabs.New(512, low)
	for col := range 512 {
		x = x.Set(low, col)
	}
	for col := range 512 {
		for n := range 514 {
			if x.Next(col, n) != min(col+n, 511) || x.Back(col, n) != max(col-n, 0) {
				t.Fatal(col, n, x.Next(col, n), x.Back(col, n))
			}
		}
	}
	if x.Next(-1, 1) != 0 || x.Back(512, 1) != 511 || x.Back(math.MaxInt, 512) != 0 || x.Next(math.MinInt, 512) != 511 {
		t.Error("from beside the columns")
	}
}

// P14.2: without columns all is 0, and there is no tab stop, whatever is asked.
func TestNoColumns(t *testing.T) {
	for _, x := range []tabs.Tabs{{}, tabs.New(0, low), tabs.New(-7, low), tabs.New(80, low).Resize(0), tabs.New(0, low).Set(low, 0, 1, 8)} {
		check(t, "none", x, said{})
		checkMoves(t, "none", x, said{})
		if x != (tabs.Tabs{}) {
			t.Error("not those of zero value")
		}
	}
}

// P14.1, P14.3: Raise, Set and Clear join as chapter 1 does, with each number that a level can be, whatever is set or cleared; Declassify and None make the label the base again.
func TestLabels(t *testing.T) {
	for was := range 256 {
		base := api.Level(was)
		x := tabs.New(20, base)
		for l := range 256 {
			by := api.Level(l)
			want := label.Join(base, by)
			for i, y := range []tabs.Tabs{
				x.Raise(by), x.Set(by), x.Clear(by), x.Set(by, 3), x.Clear(by, 8), x.Set(by, 8), x.Clear(by, 3),
				x.Set(by, -1), x.Clear(by, 20), x.None().Clear(by, 8), x.Resize(9).Set(by, 9), x.Resize(0).Clear(by, 0),
			} {
				if y.Label() != want {
					t.Fatal(was, l, i, y.Label())
				}
				if d := y.Declassify(); d.Label() != base || !slices.Equal(d.List(), y.List()) || d.Cols() != y.Cols() {
					t.Fatal(was, l, i, d.Label(), d.List())
				}
				if none := y.None(); none.Label() != base || none.List() != nil || none.Cols() != y.Cols() {
					t.Fatal(was, l, i, none.Label(), none.List())
				}
				if y.Resize(300).Label() != want || y.Resize(300).Declassify().Label() != base {
					t.Fatal(was, l, i, "resized")
				}
			}
		}
	}
}

// P14.3: of all numbers of columns to all others: those that were stay as they are, new ones are as at first, also where there were some once.
func TestResize(t *testing.T) {
	turned := func(cols int) (tabs.Tabs, said) { // no column as at first
		x, s := tabs.New(cols, low), first(cols, low)
		for col := range cols {
			if is := slices.Contains(s.stops, col); is {
				x = x.Clear(low, col)
			} else {
				x = x.Set(low, col)
			}
		}
		turned := said{cols: cols}
		for col := range cols {
			if !slices.Contains(s.stops, col) {
				turned.stops = append(turned.stops, col)
			}
		}
		return x, turned
	}
	all := sizes()
	for n := range 34 {
		all = append(all, n)
	}
	for _, from := range all {
		x, s := turned(from)
		for _, to := range all {
			check(t, "resize", x.Resize(to), s.resized(to))
			for _, again := range []int{0, 8, 9, from, 65, 512} {
				if y, want := x.Resize(to).Resize(again), s.resized(to).resized(again); !slices.Equal(y.List(), want.stops) {
					t.Fatal(from, to, again, y.List())
				}
			}
		}
	}
}

// P14.3: tab stops that are not there any more are gone: those that come again are as at first, and nothing of them is in what is alike.
func TestResizeForgets(t *testing.T) {
	x := tabs.New(512, low).Set(low, 100, 300, 511).Clear(low, 80, 504)
	for _, cols := range []int{0, 1, 9, 63, 64, 65, 80} {
		if y := x.Resize(cols); y != tabs.New(cols, low) || y.Resize(512) != tabs.New(512, low) {
			t.Error(cols, y.List(), y.Resize(512).List())
		}
	}
}

// Those that are alike are ==, however they came to be so; the others are not.
func TestAlike(t *testing.T) {
	type one struct {
		x tabs.Tabs
		s said
	}
	var all []one
	for _, cols := range []int{0, 8, 9, 65, 512} {
		for _, base := range []api.Level{low, high} {
			for _, a := range acts() {
				all = append(all, one{a.act(tabs.New(cols, base)), a.want(first(cols, base))})
			}
		}
	}
	for _, a := range all {
		for _, b := range all {
			want := a.s.cols == b.s.cols && a.s.base == b.s.base && a.s.label == b.s.label && slices.Equal(a.s.stops, b.s.stops)
			if got := a.x == b.x; got != want {
				t.Fatal(a.s, b.s, got)
			}
		}
	}
}

// The smallest that may differ, makes tab stops others; what is done and undone, does not.
func TestAlikeSmall(t *testing.T) {
	for _, cols := range []int{64, 512} {
		x := tabs.New(cols, low)
		for col := range cols {
			if y := x.Set(low, col); (y == x) != x.Has(col) {
				t.Error("set", cols, col)
			}
			if y := x.Clear(low, col); (y == x) == x.Has(col) {
				t.Error("cleared", cols, col)
			}
			if !x.Has(col) && x.Set(low, col).Clear(low, col) != x || x.Has(col) && x.Clear(low, col).Set(low, col) != x {
				t.Error("undone", cols, col)
			}
			if col < cols-1 && (x.Resize(col) == x.Resize(col+1)) {
				t.Error("resized", col)
			}
		}
		if x.Set(low, -1, cols, 600) != x || x.Clear(low, -8, cols, 600) != x || x.Set(low) != x || x.Clear(low) != x {
			t.Error("columns that are not there")
		}
		if x.Raise(high) == x || tabs.New(cols, high) == x || tabs.New(cols, high) == x.Raise(high) || x.Raise(high).Declassify() != x {
			t.Error("labels")
		}
	}
}

// What is handed in stays as it is; what is told is the caller's.
func TestOwn(t *testing.T) {
	in := []int{5, -3, 5, 900, 0}
	x := tabs.New(80, low)
	y := x.Set(low, in...).Clear(low, in...).Set(low, in...)
	if !slices.Equal(in, []int{5, -3, 5, 900, 0}) {
		t.Error(in)
	}
	clear(in)
	for range 2 {
		l := y.List()
		if !slices.Equal(l, []int{0, 5, 8, 16, 24, 32, 40, 48, 56, 64, 72}) {
			t.Fatal(l)
		}
		clear(append(l, 1)[:cap(l)])
	}
	if l := x.None().List(); l != nil || !slices.Equal(x.List(), first(80, low).stops) {
		t.Error(l, x.List())
	}
}

// flow: what levels do to one of two rows of tab stops, High at columns of its own.
type flow func(x tabs.Tabs, own []int) tabs.Tabs

// flows: the acts of P14.4; Declassify is not among them, since what it tells is High's.
func flows() []flow {
	return []flow{
		func(x tabs.Tabs, own []int) tabs.Tabs { return x.Set(high, own...) },
		func(x tabs.Tabs, own []int) tabs.Tabs { return x.Clear(high, own...) },
		func(x tabs.Tabs, _ []int) tabs.Tabs { return x.Set(low, 3, 70) },
		func(x tabs.Tabs, _ []int) tabs.Tabs { return x.Clear(low, 8, 3) },
		func(x tabs.Tabs, _ []int) tabs.Tabs { return x.None() },
		func(x tabs.Tabs, _ []int) tabs.Tabs { return x.Raise(high) },
		func(x tabs.Tabs, _ []int) tabs.Tabs { return x.Raise(low) },
		func(x tabs.Tabs, _ []int) tabs.Tabs { return x.Resize(12) },
		func(x tabs.Tabs, _ []int) tabs.Tabs { return x.Resize(96) },
	}
}

// P14.4: of two rows of tab stops with one label, that are alike if it is Low, so it is behind the same acts, of which those of High are at other columns.
func TestLabelsAlone(t *testing.T) {
	all := flows()
	begun := [][2]tabs.Tabs{
		{tabs.New(80, low), tabs.New(80, low)},
		{tabs.New(80, high), tabs.New(80, high).Set(high, 1, 2)},
		{tabs.New(80, low).Set(high, 5), tabs.New(80, low).Clear(high, 8, 16)},
		{tabs.New(80, low).Raise(high), tabs.New(80, low).None().Set(high)},
	}
	const long = 4
	for row := range len(all) * len(all) * len(all) * len(all) {
		for i, both := range begun {
			x, y := both[0], both[1]
			for left, n := row, 0; n < long; left, n = left/len(all), n+1 {
				act := all[left%len(all)]
				x, y = act(x, []int{1, 8, 9}), act(y, []int{n, 16, 79, 600})
				if x.Label() != y.Label() || x.Cols() != y.Cols() || x.Label() == low && x != y {
					t.Fatal(row, i, n, x.List(), x.Label(), y.List(), y.Label())
				}
			}
		}
	}
}

// The chapter's examples.
func TestExamples(t *testing.T) {
	x := tabs.New(20, low)
	if l := x.List(); !slices.Equal(l, []int{8, 16}) {
		t.Error(l)
	}
	for _, c := range [][3]int{{0, 1, 8}, {8, 1, 16}, {16, 1, 19}, {3, 2, 16}} {
		if got := x.Next(c[0], c[1]); got != c[2] {
			t.Error(c, got)
		}
	}
	for _, c := range [][3]int{{19, 1, 16}, {8, 1, 0}, {19, 3, 0}} {
		if got := x.Back(c[0], c[1]); got != c[2] {
			t.Error(c, got)
		}
	}
	y := x.Set(high, 3)
	if y.Label() != high || !slices.Equal(y.List(), []int{3, 8, 16}) {
		t.Error(y.Label(), y.List())
	}
	if y = y.None(); y.Label() != low || len(y.List()) != 0 {
		t.Error(y.Label(), y.List())
	}
	if l := x.Clear(low, 16).Resize(30).List(); !slices.Equal(l, []int{8, 24}) {
		t.Error(l)
	}
}
