package cursor_test

import (
	"math"
	"slices"
	"testing"

	"marquee/api"
	"marquee/cursor"
	"marquee/label"
)

const (
	low  = api.Low
	high = api.High
)

// levels: the two, and numbers that count as High.
func levels() []api.Level { return []api.Level{low, high, 2, 255} }

// ends: numbers that are far from all places.
func ends() []int {
	return []int{math.MinInt, math.MinInt + 1, -1 << 32, math.MinInt32, -65536, -513, 513, 65535, 65536, math.MaxInt32, 1 << 32, math.MaxInt - 1, math.MaxInt}
}

// upTo: the numbers around those from 0 up to one, and those that are far.
func upTo(n int) []int {
	all := ends()
	for x := -n - 2; x <= n+2; x++ {
		all = append(all, x)
	}
	return all
}

// sized: what a number of rows, or columns, comes to.
func sized(n int) int {
	switch {
	case n < 1:
		return 1
	case n > 512:
		return 512
	}
	return n
}

// param: which place a parameter names, counted from 0.
func param(n int) int {
	if n < 1 {
		return 0
	}
	return n - 1
}

// area: one that may be, as the document's words say of what it is made.
func area(rows, cols, top, bottom int, origin bool, base api.Level) cursor.Area {
	return cursor.Area{Rows: rows, Cols: cols, Top: top, Bottom: bottom, Origin: origin, Base: base}
}

// margined: areas of these sizes, with all margins that they may have, in origin mode or not.
func margined(rows, cols int, base api.Level) []cursor.Area {
	all := []cursor.Area{area(rows, cols, 0, rows-1, false, base), area(rows, cols, 0, rows-1, true, base)}
	for top := range rows {
		for bottom := top + 1; bottom < rows; bottom++ {
			all = append(all, area(rows, cols, top, bottom, false, base), area(rows, cols, top, bottom, true, base))
		}
	}
	return all
}

// small: areas of few rows and columns, with all margins.
func small() []cursor.Area {
	var all []cursor.Area
	for rows := 1; rows <= 6; rows++ {
		for cols := 1; cols <= 3; cols++ {
			all = append(all, margined(rows, cols, levels()[(rows+cols)%4])...)
		}
	}
	return all
}

// great: areas at the limits, with margins at their ends and in their middle.
func great() []cursor.Area {
	var all []cursor.Area
	for _, origin := range []bool{false, true} {
		all = append(all,
			area(512, 512, 0, 511, origin, low), area(512, 512, 0, 1, origin, high), area(512, 1, 510, 511, origin, low),
			area(512, 2, 200, 300, origin, 7), area(1, 512, 0, 0, origin, low), area(10, 20, 2, 5, origin, low), area(24, 80, 4, 9, origin, high))
	}
	return all
}

// at: a cursor in each way in which it may stand at a place: waiting or not, with each label.
func at(row, col int) []cursor.Cursor {
	var all []cursor.Cursor
	for _, wrap := range []bool{false, true} {
		for _, l := range levels() {
			all = append(all, cursor.Cursor{Row: row, Col: col, Wrap: wrap, Label: l})
		}
	}
	return all
}

// places: the numbers from 0 up to one, without it; of many only those at the ends, and some between.
func places(n int, more ...int) []int {
	var all []int
	for x := range n {
		if n < 30 || x < 2 || x >= n-2 || x%101 == 0 || slices.Contains(more, x) {
			all = append(all, x)
		}
	}
	return all
}

// cursors: those within an area, those beside its margins among them.
func cursors(a cursor.Area) []cursor.Cursor {
	var all []cursor.Cursor
	for _, row := range places(a.Rows, a.Top-1, a.Top, a.Top+1, a.Bottom-1, a.Bottom, a.Bottom+1) {
		for _, col := range places(a.Cols) {
			all = append(all, at(row, col)...)
		}
	}
	return all
}

// known: the cursors of an area; of a great one only some of the labels and of waiting at each place.
func known(a cursor.Area) []cursor.Cursor {
	all := cursors(a)
	if a.Rows*a.Cols < 30 {
		return all
	}
	var some []cursor.Cursor
	for i, c := range all {
		if i%3 == 0 {
			some = append(some, c)
		}
	}
	return some
}

// named: all rows that can be named, in order.
func named(a cursor.Area) []int {
	var rows []int
	for row := range a.Rows {
		if !a.Origin || row >= a.Top && row <= a.Bottom {
			rows = append(rows, row)
		}
	}
	return rows
}

// nth: the row, or column, of a parameter, among those that can be named; the last one, if there are not as many.
func nth(all []int, n int) int {
	if n = param(n); n < len(all) {
		return all[n]
	}
	return all[len(all)-1]
}

// columns: all columns of an area.
func columns(a cursor.Area) []int {
	var all []int
	for col := range a.Cols {
		all = append(all, col)
	}
	return all
}

// placed: a cursor at another place, that does not wait.
func placed(c cursor.Cursor, row, col int) cursor.Cursor {
	return cursor.Cursor{Row: row, Col: col, Label: c.Label}
}

// steps: where a number comes to that goes so far one by one, till it may go no further.
func steps(from, far int, may func(n int) bool) int {
	step := 1
	if far < 0 {
		step = -1
	}
	for n := 0; n != far && may(from); n += step {
		from += step
	}
	return from
}

// walked: a cursor moved row by row, then column by column.
func walked(a cursor.Area, c cursor.Cursor, rows, cols int) cursor.Cursor {
	began := c.Row
	row := steps(c.Row, rows, func(at int) bool {
		if rows > 0 {
			return at < a.Rows-1 && !(at == a.Bottom && began <= a.Bottom)
		}
		return at > 0 && !(at == a.Top && began >= a.Top)
	})
	col := steps(c.Col, cols, func(at int) bool {
		if cols > 0 {
			return at < a.Cols-1
		}
		return at > 0
	})
	return placed(c, row, col)
}

// stands tells whether a cursor is within an area.
func stands(a cursor.Area, c cursor.Cursor) bool {
	return c.Row >= 0 && c.Row < a.Rows && c.Col >= 0 && c.Col < a.Cols
}

// P16.1: an area has the sizes that it is told, brought within 1 and 512, the first and the last row as margins, and no origin mode.
func TestNew(t *testing.T) {
	for rows := -2; rows <= 515; rows++ {
		for _, base := range levels() {
			for _, cols := range []int{rows, 513 - rows, 80} {
				want := area(sized(rows), sized(cols), 0, sized(rows)-1, false, base)
				if a := cursor.New(rows, cols, base); a != want {
					t.Fatal(rows, cols, base, a)
				}
			}
		}
	}
	for _, rows := range append(ends(), 24) {
		for _, cols := range append(ends(), 80) {
			if a := cursor.New(rows, cols, high); a != area(sized(rows), sized(cols), 0, sized(rows)-1, false, high) {
				t.Fatal(rows, cols, a)
			}
		}
	}
}

// margins: what margins of these parameters make of an area.
func margins(a cursor.Area, top, bottom int) (cursor.Area, bool) {
	last := a.Rows - 1
	if bottom >= 1 && bottom <= a.Rows {
		last = bottom - 1
	}
	if param(top) >= last {
		return a, false
	}
	return area(a.Rows, a.Cols, param(top), last, a.Origin, a.Base), true
}

// P16.1: margins are those of the parameters, whichever there were, or those that were, if Bottom would not be below Top.
func TestMargins(t *testing.T) {
	for _, a := range append(small(), great()...) {
		was := a
		tops := append(upTo(7), a.Rows-2, a.Rows-1, a.Rows, a.Rows+1)
		for _, top := range tops {
			for _, bottom := range tops {
				want, can := margins(a, top, bottom)
				if own, is := a.Margins(top, bottom); own != want || is != can {
					t.Fatal(a, top, bottom, own, is)
				}
			}
		}
		if a != was {
			t.Fatal("changed", was, a)
		}
	}
}

// P16.1: a row that is alone can have no other margins; of two rows none but both.
func TestFewMargins(t *testing.T) {
	one, two := cursor.New(1, 9, low), cursor.New(2, 9, low)
	for _, top := range upTo(3) {
		for _, bottom := range upTo(3) {
			if a, is := one.Margins(top, bottom); is || a != one {
				t.Error(top, bottom, a)
			}
			if a, is := two.Margins(top, bottom); a != two || is != (top <= 1 && bottom != 1) {
				t.Error(top, bottom, a, is)
			}
		}
	}
}

// P16.1: of other sizes an area has the margins as at first; origin mode and base stay.
func TestResize(t *testing.T) {
	for _, a := range append(small(), great()...) {
		was := a
		for _, rows := range append(ends(), -1, 0, 1, 2, 3, 7, 24, 511, 512) {
			for _, cols := range append(ends(), -1, 0, 1, 2, 80, 511, 512) {
				want := area(sized(rows), sized(cols), 0, sized(rows)-1, a.Origin, a.Base)
				if own := a.Resize(rows, cols); own != want {
					t.Fatal(a, rows, cols, own)
				}
			}
		}
		if own := a.Resize(a.Rows, a.Cols); own != area(a.Rows, a.Cols, 0, a.Rows-1, a.Origin, a.Base) || a != was {
			t.Fatal("the same sizes", a, own)
		}
	}
}

// P16.2: home is the first row that can be named, and column 0, with the base as label.
func TestHome(t *testing.T) {
	for _, a := range append(small(), great()...) {
		if c := a.Home(); c != (cursor.Cursor{Row: named(a)[0], Label: a.Base}) {
			t.Fatal(a, c)
		}
	}
}

// numbers: parameters of places of an area, and others.
func numbers(a cursor.Area) []int {
	return append(upTo(8), a.Top, a.Top+1, a.Bottom-a.Top, a.Bottom-a.Top+1, a.Bottom-a.Top+2, a.Bottom+1, a.Rows-1, a.Rows, a.Rows+1, a.Cols-1, a.Cols, a.Cols+1)
}

// P16.2: Goto is the place that is named, as far as there is one, with the base as label.
func TestGoto(t *testing.T) {
	for _, a := range append(small(), great()...) {
		for _, row := range numbers(a) {
			for _, col := range numbers(a) {
				want := cursor.Cursor{Row: nth(named(a), row), Col: nth(columns(a), col), Label: a.Base}
				if c := a.Goto(row, col); c != want {
					t.Fatal(a, row, col, c)
				}
			}
		}
	}
}

// P16.3: Move goes down and right, or up and left, till it may not go further, from each place; down no further than Bottom from above it, up no further than Top from below it.
func TestMove(t *testing.T) {
	for _, a := range small() {
		far := []int{-9, -6, -5, -4, -3, -2, -1, 0, 1, 2, 3, 4, 5, 6, 9}
		for _, c := range known(a) {
			for _, rows := range far {
				for _, cols := range far {
					if got, want := a.Move(c, rows, cols), walked(a, c, rows, cols); got != want {
						t.Fatal(a, c, rows, cols, got, want)
					}
				}
			}
		}
	}
	for _, a := range great() {
		for _, c := range known(a) {
			for _, rows := range []int{-512, -511, -300, -100, -1, 0, 1, 2, 201, 510, 511, 512} {
				for _, cols := range []int{rows, -rows} {
					if got, want := a.Move(c, rows, cols), walked(a, c, rows, cols); got != want {
						t.Fatal(a, c, rows, cols, got, want)
					}
				}
			}
		}
	}
}

// P16.3: however far a cursor is moved, it comes as far as it may, no further.
func TestMoveFar(t *testing.T) {
	cut := func(n int) int { return max(min(n, 600), -600) }
	for _, a := range append(small(), great()...) {
		for i, c := range known(a) {
			for j, rows := range ends() {
				for _, cols := range []int{rows, ends()[(i+j)%len(ends())], 0} {
					if got, want := a.Move(c, rows, cols), walked(a, c, cut(rows), cut(cols)); got != want {
						t.Fatal(a, c, rows, cols, got, want)
					}
				}
			}
		}
	}
}

// P16.3: Line is the row that Goto comes to, Column the column; the other one, and the label, stay; waiting ends.
func TestLineColumn(t *testing.T) {
	for _, a := range append(small(), great()...) {
		all := numbers(a)
		rows, cols := named(a), columns(a)
		for _, c := range known(a) {
			for _, n := range all {
				if got := a.Line(c, n); got != placed(c, nth(rows, n), c.Col) {
					t.Fatal("line", a, c, n, got)
				}
				if got := a.Column(c, n); got != placed(c, c.Row, nth(cols, n)) {
					t.Fatal("column", a, c, n, got)
				}
			}
		}
	}
}

// index: what Index makes of a cursor, case by case.
func index(a cursor.Area, c cursor.Cursor) (cursor.Cursor, bool) {
	switch {
	case c.Row == a.Bottom:
		return placed(c, c.Row, c.Col), true
	case c.Row == a.Rows-1:
		return placed(c, c.Row, c.Col), false
	}
	return placed(c, c.Row+1, c.Col), false
}

// reverse: what Reverse makes of it.
func reverse(a cursor.Area, c cursor.Cursor) (cursor.Cursor, bool) {
	switch {
	case c.Row == a.Top:
		return placed(c, c.Row, c.Col), true
	case c.Row == 0:
		return placed(c, c.Row, c.Col), false
	}
	return placed(c, c.Row-1, c.Col), false
}

// P16.3: Index is one row down, Reverse one row up; at the margins they tell that is to be scrolled, at the ends they stay.
func TestIndexReverse(t *testing.T) {
	for _, a := range append(small(), great()...) {
		for _, c := range cursors(a) {
			want, scroll := index(a, c)
			if got, is := a.Index(c); got != want || is != scroll {
				t.Fatal("index", a, c, got, is)
			}
			want, scroll = reverse(a, c)
			if got, is := a.Reverse(c); got != want || is != scroll {
				t.Fatal("reverse", a, c, got, is)
			}
		}
	}
}

// brought: a number, brought within 0 and one ahead of an end.
func brought(n, end int) int {
	switch {
	case n < 0:
		return 0
	case n >= end:
		return end - 1
	}
	return n
}

// P16.4: Within brings each cursor within the area, wherever it is; only one that was there may still wait; the label is joined with the base.
func TestWithin(t *testing.T) {
	for _, a := range append(small(), great()...) {
		rows := append(ends(), -3, -1, 0, 1, a.Top, a.Bottom, a.Rows/2, a.Rows-1, a.Rows, a.Rows+1)
		cols := append(ends(), -1, 0, a.Cols/2, a.Cols-1, a.Cols, a.Cols+2)
		for _, row := range rows {
			for _, col := range cols {
				for _, c := range at(row, col) {
					want := cursor.Cursor{Row: brought(row, a.Rows), Col: brought(col, a.Cols), Wrap: c.Wrap && stands(a, c), Label: label.Join(c.Label, a.Base)}
					if got := a.Within(c); got != want {
						t.Fatal(a, c, got)
					}
				}
			}
		}
	}
}

// P16.4: what is brought within by one number alone, does not wait.
func TestWithinWaits(t *testing.T) {
	a := cursor.New(3, 4, low)
	for _, x := range []struct {
		row, col int
		waits    bool
	}{{2, 3, true}, {0, 0, true}, {1, 2, true}, {3, 3, false}, {2, 4, false}, {-1, 0, false}, {0, -1, false}, {9, 9, false}} {
		if c := a.Within(cursor.Cursor{Row: x.row, Col: x.col, Wrap: true}); c.Wrap != x.waits {
			t.Error(x, c)
		}
		if c := a.Within(cursor.Cursor{Row: x.row, Col: x.col}); c.Wrap {
			t.Error("began to wait", x, c)
		}
	}
}

// P16.4: rows and columns are reported from 1 on, in origin mode rows from Top on, and those above it as 1.
func TestReport(t *testing.T) {
	for _, a := range append(small(), great()...) {
		for _, c := range cursors(a) {
			want := c.Row + 1
			if a.Origin && c.Row < a.Top {
				want = 1
			} else if a.Origin {
				want = c.Row - a.Top + 1
			}
			if row, col := a.Report(c); row != want || col != c.Col+1 {
				t.Fatal(a, c, row, col)
			}
		}
	}
}

// P16.4: Raise joins the label with all levels of a row, and leaves the rest.
func TestRaise(t *testing.T) {
	rows := [][]api.Level{nil, {}, {low}, {high}, {low, low}, {low, high}, {high, low}, {low, low, 9}, {2}, {255, low, low}}
	for n := range 256 {
		rows = append(rows, []api.Level{api.Level(n)}, []api.Level{low, api.Level(n), low})
	}
	for _, c := range append(at(3, 4), at(0, 0)...) {
		for _, l := range rows {
			in := slices.Clone(l)
			want := c
			want.Label = label.Join(append(slices.Clone(l), c.Label)...)
			if got := c.Raise(in...); got != want {
				t.Fatal(c, l, got)
			}
			if !slices.Equal(in, l) {
				t.Fatal("what was handed in is", in, "not", l)
			}
		}
	}
}

// act: what makes another cursor of one.
type act struct {
	name string
	do   func(a cursor.Area, c cursor.Cursor, n int) cursor.Cursor
}

// moves: acts that end waiting, and leave the label.
func moves() []act {
	return []act{
		{"down", func(a cursor.Area, c cursor.Cursor, n int) cursor.Cursor { return a.Move(c, n, -n/2) }},
		{"right", func(a cursor.Area, c cursor.Cursor, n int) cursor.Cursor { return a.Move(c, -n/3, n) }},
		{"line", func(a cursor.Area, c cursor.Cursor, n int) cursor.Cursor { return a.Line(c, n) }},
		{"column", func(a cursor.Area, c cursor.Cursor, n int) cursor.Cursor { return a.Column(c, n) }},
		{"index", func(a cursor.Area, c cursor.Cursor, _ int) cursor.Cursor { c, _ = a.Index(c); return c }},
		{"reverse", func(a cursor.Area, c cursor.Cursor, _ int) cursor.Cursor { c, _ = a.Reverse(c); return c }},
	}
}

// raises: acts that join the label, and leave where it is.
func raises() []act {
	return []act{
		{"within", func(a cursor.Area, c cursor.Cursor, _ int) cursor.Cursor { return a.Within(c) }},
		{"raise", func(_ cursor.Area, c cursor.Cursor, n int) cursor.Cursor { return c.Raise(low, api.Level(n&1)) }},
	}
}

// lowers: acts that make the label the base.
func lowers() []act {
	return []act{
		{"home", func(a cursor.Area, _ cursor.Cursor, _ int) cursor.Cursor { return a.Home() }},
		{"goto", func(a cursor.Area, _ cursor.Cursor, n int) cursor.Cursor { return a.Goto(n, -n) }},
		{"goto a column", func(a cursor.Area, _ cursor.Cursor, n int) cursor.Cursor { return a.Goto(n/7, n) }},
	}
}

// P16.5: whatever moves a cursor that is within an area, it stays within; moves leave its label, and no act but Home and Goto makes it lower.
func TestStaysWithin(t *testing.T) {
	for _, a := range append(small(), great()...) {
		for _, c := range known(a) {
			for _, n := range append(ends(), -7, -1, 0, 1, 2, 5, a.Rows, a.Cols+1) {
				for _, m := range moves() {
					if got := m.do(a, c, n); !stands(a, got) || got.Label != c.Label || got.Wrap {
						t.Fatal(m.name, a, c, n, got)
					}
				}
				for _, m := range raises() {
					if got := m.do(a, c, n); !stands(a, got) || !label.Flows(c.Label, got.Label) || got.Row != c.Row || got.Col != c.Col || got.Wrap != c.Wrap {
						t.Fatal(m.name, a, c, n, got)
					}
				}
				for _, m := range lowers() {
					if got := m.do(a, c, n); !stands(a, got) || got.Label != a.Base || got.Wrap {
						t.Fatal(m.name, a, c, n, got)
					}
				}
			}
		}
	}
}

// P16.5: the same of long rows of acts, while margins, sizes and origin mode change.
func TestRowsOfActs(t *testing.T) {
	all := slices.Concat(moves(), moves(), raises(), lowers()) // twice the moves, so that there is something to lose
	for _, base := range levels() {
		a := cursor.New(6, 9, base)
		c := a.Home()
		for i := range 20000 {
			n := i * i % 97 % 23
			switch {
			case i%11 == 0:
				a, _ = a.Margins(n%7, n/2)
			case i%17 == 0:
				a.Origin = !a.Origin
			case i%29 == 0:
				a = a.Resize(n%8, n%12)
				c = a.Within(c)
			}
			m := all[(i*7+i*i/3)%len(all)]
			was := c
			c = m.do(a, c, n-7)
			if !stands(a, c) || !stands(a, cursor.Cursor{Row: a.Bottom}) || a.Top > a.Bottom || a.Base != base {
				t.Fatal(i, m.name, a, was, c)
			}
			if label.Join(c.Label) != label.Join(was.Label) && (m.name != "home" && m.name[:2] != "go") && label.Join(c.Label) == low {
				t.Fatal(i, m.name, "made lower", was, c)
			}
		}
	}
}

// P16.5: in origin mode Goto reaches just the rows within margins, else just all.
func TestReached(t *testing.T) {
	for _, a := range append(small(), great()...) {
		got, cols := map[int]bool{}, map[int]bool{}
		for n := -3; n <= 520; n++ {
			got[a.Goto(n, 1).Row] = true
			cols[a.Goto(1, n).Col] = true
			if line := a.Line(cursor.Cursor{Row: a.Rows - 1}, n); !got[line.Row] {
				t.Fatal(a, n, line)
			}
		}
		if len(got) != len(named(a)) || len(cols) != a.Cols {
			t.Fatal(a, len(got), len(cols))
		}
		for _, row := range named(a) {
			if !got[row] {
				t.Fatal(a, row)
			}
		}
	}
}

// P16.5: what is reported of a place is what it was named by; what is reported of a place that can be named, names it.
func TestReportedAsNamed(t *testing.T) {
	for _, a := range append(small(), great()...) {
		rows := named(a)
		for _, n := range places(len(rows)) {
			for _, col := range places(a.Cols) {
				c := a.Goto(n+1, col+1)
				if r, k := a.Report(c); r != n+1 || k != col+1 {
					t.Fatal(a, n+1, col+1, r, k)
				}
				c = cursor.Cursor{Row: rows[n], Col: col, Label: a.Base}
				if r, k := a.Report(c); a.Goto(r, k) != c {
					t.Fatal(a, c, r, k)
				}
			}
		}
	}
}

// Labels hang on labels alone: of two cursors of one label, and of one area, so it is behind the same act, wherever each of them was.
func TestLabelsAlone(t *testing.T) {
	for _, a := range []cursor.Area{area(5, 4, 1, 3, false, low), area(5, 4, 1, 3, true, high), area(1, 1, 0, 0, true, low)} {
		for _, m := range slices.Concat(moves(), raises(), lowers()) {
			for n := -3; n < 9; n++ {
				for _, l := range levels() {
					want := m.do(a, cursor.Cursor{Label: l}, n).Label
					for _, c := range cursors(a) {
						c.Label = l
						if got := m.do(a, c, n); got.Label != want {
							t.Fatal(m.name, a, c, n, got)
						}
					}
				}
			}
		}
	}
}

// odd: areas that can't be.
func odd() []cursor.Area {
	all := []cursor.Area{{}, {Origin: true}, area(-1, -1, -1, -1, true, 9), area(5, 5, 4, 1, true, low), area(5, 5, -3, 9, true, high)}
	for _, n := range []int{math.MinInt, -1, math.MaxInt} {
		for _, k := range []int{math.MinInt, 0, math.MaxInt} {
			for _, origin := range []bool{false, true} {
				all = append(all, area(n, k, k, n, origin, low), area(5, n, k, n, origin, high), area(k, 5, n, k, origin, 3))
			}
		}
	}
	return all
}

// P1: all calls end, none panics, whatever the area, the cursor and the numbers are.
func TestWhatever(t *testing.T) {
	far := []int{math.MinInt, math.MinInt + 1, -1, 0, 1, 4, 600, math.MaxInt - 1, math.MaxInt}
	all := append(odd(), area(10, 20, 2, 5, true, low))
	for _, a := range all {
		for _, n := range far {
			for _, k := range far {
				cursor.New(n, k, 200)
				a.Margins(n, k)
				a.Resize(n, k)
				a.Goto(n, k)
				a.Home()
				for _, c := range []cursor.Cursor{{}, {Row: n, Col: k, Wrap: true, Label: 77}, {Row: k, Col: n}} {
					a.Move(c, n, k)
					a.Line(c, n)
					a.Column(c, k)
					a.Index(c)
					a.Reverse(c)
					a.Within(c)
					a.Report(c)
					c.Raise()
				}
			}
		}
	}
}

// The chapter's examples.
func TestExamples(t *testing.T) {
	a, is := cursor.New(10, 20, low).Margins(3, 6)
	if !is || a != area(10, 20, 2, 5, false, low) {
		t.Fatal(a, is)
	}
	o := a
	o.Origin = true
	cur := func(row, col int) cursor.Cursor { return cursor.Cursor{Row: row, Col: col} }
	for i, x := range [][2]cursor.Cursor{
		{a.Goto(3, 5), cur(2, 4)},
		{o.Goto(3, 5), cur(4, 4)},
		{o.Goto(9, 99), cur(5, 19)},
		{a.Move(cur(4, 0), 9, 0), cur(5, 0)},
		{a.Move(cur(7, 0), 9, 0), cur(9, 0)},
		{a.Move(cur(3, 0), -9, 0), cur(2, 0)},
		{a.Move(cur(1, 0), -9, 0), cur(0, 0)},
	} {
		if x[0] != x[1] {
			t.Error(i, x)
		}
	}
	for _, x := range []struct {
		row    int
		do     func(cursor.Cursor) (cursor.Cursor, bool)
		scroll bool
	}{{5, a.Index, true}, {9, a.Index, false}, {2, a.Reverse, true}, {0, a.Reverse, false}} {
		if c, scroll := x.do(cur(x.row, 3)); c != cur(x.row, 3) || scroll != x.scroll {
			t.Error(x.row, c, scroll)
		}
	}
	if row, col := o.Report(cur(4, 4)); row != 3 || col != 5 {
		t.Error(row, col)
	}
}
