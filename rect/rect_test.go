package rect_test

import (
	"math"
	"math/big"
	"slices"
	"strings"
	"testing"

	"marquee/api"
	"marquee/rect"
	"marquee/row"
	"marquee/width"
)

const (
	low  = api.Low
	high = api.High
)

// Attributes to tell cells by.
var (
	red  = api.Attr{Fg: api.Color{Kind: 1, R: 1}, Bg: api.Color{Kind: 1, R: 4}, Flags: api.Bold}
	grey = api.Attr{Fg: api.Color{Kind: 2, R: 9, G: 8, B: 7}, Flags: api.Twice | api.Underline}
)

// rows: a grid.
type rows = [][]api.Cell

func of(top, left, many, wide int) api.Rect {
	return api.Rect{Top: top, Left: left, Rows: many, Cols: wide}
}

func at(row, col int) api.Pos { return api.Pos{Row: row, Col: col} }

func narrow(r rune, l api.Level) api.Cell { return api.Cell{Rune: r, Label: l} }

// wide: the two cells of a wide one.
func wide(r rune, a api.Attr, l api.Level) []api.Cell {
	return []api.Cell{{Rune: r, Kind: api.Left, Attr: a, Label: l}, {Kind: api.Right, Attr: a, Label: l}}
}

func copied(g rows) rows {
	own := rows{}
	for _, x := range g {
		own = append(own, slices.Clone(x))
	}
	return own
}

func equal(a, b rows) bool { return slices.EqualFunc(a, b, slices.Equal) }

// pool: whole rows of some columns, no two alike.
func pool(cols int) rows {
	e := api.Cell{Rune: 'e', Marks: [2]rune{0x301}, Attr: grey}
	switch cols {
	case 1:
		return rows{{narrow('a', low)}, {narrow('b', high)}, {e}}
	case 2:
		return rows{wide('v', red, low), {narrow('a', low), e}, wide('w', grey, high)}
	case 3:
		return rows{
			slices.Concat(wide('v', red, low), []api.Cell{narrow('b', high)}),
			slices.Concat([]api.Cell{e}, wide('w', grey, high)),
			{narrow('a', low), {Label: high, Attr: red}, {Rune: 'f', Marks: [2]rune{0x301, 0x302}, Label: high}},
		}
	}
	return rows{
		slices.Concat([]api.Cell{narrow('a', low)}, wide('v', red, high), []api.Cell{{}}),
		slices.Concat(wide('w', grey, low), wide('x', red, high)),
		slices.Concat([]api.Cell{narrow('c', high), {Attr: red}}, wide('y', api.Attr{}, low)),
	}
}

// grids: small ones of whole rows, and those that have no row, or no column.
func grids() []rows {
	all := []rows{nil, {}, {{}}, {nil, {}, nil}}
	for cols := 1; cols <= 4; cols++ {
		p := pool(cols)
		all = append(all, p[:1], p[1:], p)
	}
	return append(all, rows{slices.Concat(pool(4)...)})
}

// sizes of a grid.
func sizes(g rows) (many, cols int) {
	if len(g) == 0 {
		return 0, 0
	}
	return len(g), len(g[0])
}

// near: numbers within small grids, and next to them.
func near() []int { return []int{-1, 0, 1, 2, 3, 4, 5} }

// far: numbers at the ends of all, and some between.
func far() []int {
	return []int{math.MinInt, math.MinInt + 1, -3, 0, 1, 2, math.MaxInt - 1, math.MaxInt}
}

// rects: all rectangles of these numbers.
func rects(n []int) []api.Rect {
	var all []api.Rect
	for _, top := range n {
		for _, left := range n {
			for _, many := range n {
				for _, wide := range n {
					all = append(all, of(top, left, many, wide))
				}
			}
		}
	}
	return all
}

// among: is n, at least 0, one of so many numbers, from a first one on?
func among(n, first, many int) bool {
	switch {
	case many < 1 || n < first:
		return false
	case first < 0:
		return n < many+first
	}
	return n-first < many
}

// has: does a rectangle have this place of a grid?
func has(r api.Rect, p api.Pos) bool {
	return among(p.Row, r.Top, r.Rows) && among(p.Col, r.Left, r.Cols)
}

// placed: the places of a grid that are asked for, in order.
func placed(many, cols int, is func(p api.Pos) bool) []api.Pos {
	var all []api.Pos
	for n := range many {
		for i := range cols {
			if is(at(n, i)) {
				all = append(all, at(n, i))
			}
		}
	}
	return all
}

// around: the rectangle of which these are all places; the zero one of none.
func around(t *testing.T, all []api.Pos) api.Rect {
	t.Helper()
	if len(all) == 0 {
		return api.Rect{}
	}
	a, b := all[0], all[len(all)-1]
	r := of(a.Row, a.Col, b.Row-a.Row+1, b.Col-a.Col+1)
	if len(all) != r.Rows*r.Cols {
		t.Fatal("no rectangle", all)
	}
	return r
}

// How a cell of a grid comes to be there.
const (
	stays = iota
	comes
	told
)

// equation: of each place of a grid, where its cell comes from, and how.
type equation = func(p api.Pos) (api.Pos, int)

// made: a grid by an equation; half of a wide one comes alone, unless its other half comes beside it, from beside it, in the same way.
func made(g rows, from equation, c api.Cell) rows {
	own := copied(g)
	for n := range g {
		for i := range g[n] {
			q, how := from(at(n, i))
			if how == told {
				own[n][i] = c
				continue
			}
			own[n][i] = g[q.Row][q.Col]
			side := 0
			if own[n][i].Kind == api.Left {
				side = 1
			} else if own[n][i].Kind == api.Right {
				side = -1
			}
			if s, too := from(at(n, i+side)); i+side < 0 || i+side >= len(g[n]) || s != at(q.Row, q.Col+side) || too != how {
				own[n][i] = api.Cell{Attr: own[n][i].Attr, Label: own[n][i].Label}
			}
		}
	}
	return own
}

// filled: what Fill and Erase make of a grid: the cell, Narrow, at the places of a rectangle, and all else stays.
func filled(g rows, r api.Rect, c api.Cell) rows {
	c.Kind = api.Narrow
	return made(g, func(p api.Pos) (api.Pos, int) {
		if has(r, p) {
			return p, told
		}
		return p, stays
	}, c)
}

// moved: what Copy makes of a grid.
func moved(g rows, from api.Rect, to api.Pos) rows {
	many, cols := sizes(g)
	src := placed(many, cols, func(p api.Pos) bool { return has(from, p) })
	if len(src) == 0 || !slices.Contains(placed(many, cols, func(p api.Pos) bool { return true }), to) {
		return copied(g)
	}
	return made(g, func(p api.Pos) (api.Pos, int) {
		q := at(p.Row-to.Row+src[0].Row, p.Col-to.Col+src[0].Col)
		if p.Row >= to.Row && p.Col >= to.Col && slices.Contains(src, q) {
			return q, comes
		}
		return p, stays
	}, api.Cell{})
}

// summed: what Sum tells of these cells of a grid.
func summed(g rows, all []api.Pos) (uint16, api.Level) {
	sum, l := big.NewInt(0), low
	for _, p := range all {
		c := g[p.Row][p.Col]
		n := int64(c.Rune) + int64(c.Marks[0]) + int64(c.Marks[1]) + 256*int64(c.Attr.Flags)
		if c.Rune == 0 && c.Kind != api.Right {
			n += 32
		}
		if c.Kind == api.Right {
			n -= int64(c.Rune)
		}
		sum.Add(sum, big.NewInt(n))
		if c.Label != low {
			l = high
		}
	}
	full := big.NewInt(65536)
	rest := new(big.Int).Sub(full, sum.Mod(sum, full))
	return uint16(rest.Mod(rest, full).Uint64()), l
}

// blanks: cells to fill with, whose runes take a column, or do not.
func blanks() []api.Cell {
	return []api.Cell{
		{Rune: 'z', Marks: [2]rune{0x308}, Attr: grey, Label: low},
		{Rune: ' ', Kind: api.Left, Label: high},
		{Rune: 0xfffd, Kind: api.Right, Attr: red, Label: high},
		row.Blank(red, high),
		{},
	}
}

// tried: what is done to a grid, and what the chapter's words make of it.
type tried struct {
	name string
	act  func(g rows) rows
	want func(g rows) rows
}

// fills: Fill and Erase of these rectangles.
func fills(l []api.Rect) []tried {
	var all []tried
	for _, r := range l {
		for _, c := range blanks() {
			all = append(all,
				tried{"erase", func(g rows) rows { return rect.Erase(g, r, c) }, func(g rows) rows { return filled(g, r, c) }},
				tried{"fill", func(g rows) rows { return rect.Fill(g, r, c) }, func(g rows) rows {
					if c.Rune == 0 {
						return copied(g)
					}
					return filled(g, r, c)
				}})
		}
	}
	return all
}

// copies: Copy of these rectangles, to places of these numbers.
func copies(l []api.Rect, n []int) []tried {
	var all []tried
	for _, r := range l {
		for _, i := range n {
			for _, j := range n {
				all = append(all, tried{"copy", func(g rows) rows { return rect.Copy(g, r, at(i, j)) },
					func(g rows) rows { return moved(g, r, at(i, j)) }})
			}
		}
	}
	return all
}

// acts: all that makes a grid of a grid, near to small ones.
func acts() []tried {
	few := []int{-1, 0, 1, 2, 4}
	return slices.Concat(fills(rects(near())), copies(rects(few), few))
}

// isWhole: are all rows whole, and of one length?
func isWhole(g rows) bool {
	for _, x := range g {
		if !row.Whole(x) || len(x) != len(g[0]) {
			return false
		}
	}
	return true
}

// tryAll holds each act on each grid against the chapter's words; what is handed in stays, what is answered is whole (P12.5).
func tryAll(t *testing.T, all []tried, some []rows) {
	t.Helper()
	for _, a := range all {
		for _, g := range some {
			was := copied(g)
			got, want := a.act(g), a.want(g)
			if !equal(got, want) {
				t.Fatalf("%s of %v: %v, not %v", a.name, g, got, want)
			}
			if !equal(g, was) || !isWhole(got) {
				t.Fatalf("%s of %v, which was %v: %v", a.name, g, was, got)
			}
		}
	}
}

// P12.2, P12.3, P12.5: each act makes of each small grid what the chapter's words say.
func TestActs(t *testing.T) { tryAll(t, acts(), grids()) }

// P12.2, P12.3, P1: the same of rectangles and places whose numbers are at the ends of all.
func TestFarActs(t *testing.T) {
	ends := []int{math.MinInt, 0, 1, math.MaxInt}
	some := []rows{nil, {{}}, pool(1), pool(2), pool(4)}
	tryAll(t, fills(rects(far())), some)
	tryAll(t, copies(rects(ends), ends), some)
}

// P12.3: copies within a longer grid, over themselves and cut at its ends.
func TestCopyWithin(t *testing.T) {
	g := rows{slices.Concat(pool(4)...), slices.Concat(pool(3)[2], pool(2)[0], pool(4)[2], pool(3)[0]), slices.Concat(wide('m', red, low), wide('n', grey, high), wide('o', red, high), wide('p', grey, low), wide('q', red, low), wide('r', grey, high))}
	for top := range 3 {
		for left := range 12 {
			for many := 1; many <= 3; many++ {
				for cols := 1; cols <= 12; cols++ {
					tryAll(t, copies([]api.Rect{of(top, left, many, cols)}, []int{0, 1, 2, 5, 8, 11}), []rows{g})
				}
			}
		}
	}
}

// P12.1: Clip of all small rectangles and grids is what both have.
func TestClip(t *testing.T) {
	for _, r := range rects(near()) {
		for _, many := range []int{-1, 0, 1, 2, 4} {
			for _, cols := range []int{-1, 0, 1, 3, 4} {
				want := around(t, placed(max(many, 0), max(cols, 0), func(p api.Pos) bool { return has(r, p) }))
				if got := rect.Clip(r, many, cols); got != want {
					t.Fatal(r, many, cols, got, want)
				}
			}
		}
	}
}

// both: what so many numbers, from a first one on, and those from 0 up to, without, an end, both have.
func both(first, many, end int) (int, int) {
	a, b := big.NewInt(int64(first)), big.NewInt(int64(many))
	b.Add(a, b)
	if a.Sign() < 0 {
		a = big.NewInt(0)
	}
	if e := big.NewInt(int64(end)); b.Cmp(e) > 0 {
		b = e
	}
	if a.Cmp(b) >= 0 || many < 1 {
		return 0, 0
	}
	return int(a.Int64()), int(b.Sub(b, a).Int64())
}

// P12.1, P1: Clip of numbers at the ends of all.
func TestFarClip(t *testing.T) {
	ends := append(far(), -1, 3, 511, 512, 513)
	for _, first := range ends {
		for _, many := range ends {
			for _, end := range ends {
				from, n := both(first, many, end)
				down, right := of(from, 2, n, 3), of(2, from, 3, n)
				if n == 0 {
					down, right = api.Rect{}, api.Rect{}
				}
				if got := rect.Clip(of(first, 2, many, 3), end, 9); got != down {
					t.Fatal("rows", first, many, end, got, down)
				}
				if got := rect.Clip(of(2, first, 3, many), 9, end); got != right {
					t.Fatal("columns", first, many, end, got, right)
				}
				if got := rect.Clip(of(first, 0, many, 0), end, 9); got != (api.Rect{}) {
					t.Fatal("no column", first, many, end, got)
				}
			}
		}
	}
}

// named: the rectangle of four parameters, place by place.
func named(t *testing.T, p [4]int, many, cols int, margins [2]int, origin bool) api.Rect {
	t.Helper()
	said := func(n, other int) int {
		if n == 0 || n == -1 {
			return other
		}
		return n
	}
	return around(t, placed(max(many, 0), max(cols, 0), func(x api.Pos) bool {
		n := x.Row + 1
		if origin {
			n -= margins[0]
			if x.Row > margins[1] {
				return false
			}
		}
		return n >= said(p[0], 1) && n <= said(p[2], many) && x.Col+1 >= said(p[1], 1) && x.Col+1 <= said(p[3], cols)
	}))
}

// parameters: all rows of four of these.
func parameters(n []int, do func(p [4]int)) {
	for _, r := range rects(n) {
		do([4]int{r.Top, r.Left, r.Rows, r.Cols})
	}
}

// P12.1: Of is the rectangle of these parameters, in all small grids with all margins, in origin mode and not.
func TestOf(t *testing.T) {
	parameters([]int{-1, 0, 1, 2, 3, 5}, func(p [4]int) {
		for _, many := range []int{0, 1, 2, 4} {
			for _, cols := range []int{0, 1, 3} {
				if got, want := rect.Of(p, many, cols, [2]int{1, 2}, false), named(t, p, many, cols, [2]int{}, false); got != want {
					t.Fatal(p, many, cols, got, want)
				}
				for top := range many {
					for bottom := top; bottom < many; bottom++ {
						m := [2]int{top, bottom}
						if got, want := rect.Of(p, many, cols, m, true), named(t, p, many, cols, m, true); got != want {
							t.Fatal(p, many, cols, m, got, want)
						}
					}
				}
			}
		}
	})
}

// P12.1, P1: Of parameters and margins at the ends of all, and below what a parameter is.
func TestFarOf(t *testing.T) {
	all := []int{-1, 0, 1, 2, 65535, math.MaxInt - 1, math.MaxInt}
	for _, top := range []int{math.MinInt, -2, 0, 1, 5, math.MaxInt} {
		for _, bottom := range []int{math.MinInt, -2, 0, 2, 5, math.MaxInt} {
			parameters(all, func(p [4]int) {
				m := [2]int{top, bottom}
				plain := named(t, p, 4, 3, m, false)
				if got := rect.Of(p, 4, 3, m, false); got != plain {
					t.Fatal(p, m, got, plain)
				}
				got := rect.Of(p, 4, 3, m, true)
				if top >= 0 && top < math.MaxInt {
					if want := named(t, p, 4, 3, m, true); got != want {
						t.Fatal(p, m, got, want)
					}
				}
				if got != rect.Clip(got, 4, 3) {
					t.Fatal(p, m, got)
				}
			})
		}
	}
	parameters(far(), func(p [4]int) {
		for _, n := range far() {
			for _, origin := range []bool{false, true} {
				got := rect.Of(p, n, 2, [2]int{n, p[3]}, origin)
				if got != rect.Clip(got, n, 2) || n < 1 && got != (api.Rect{}) {
					t.Fatal(p, n, got)
				}
				if got = rect.Of(p, 2, n, [2]int{p[3], n}, origin); got != rect.Clip(got, 2, n) || n < 1 && got != (api.Rect{}) {
					t.Fatal(p, n, got)
				}
			}
		}
	})
}

// P12.2: Fill lays runes that take one column, and no others; Erase lays whatever it is handed.
func TestFillRunes(t *testing.T) {
	g := pool(4)
	r := of(0, 1, 2, 2)
	for _, x := range []rune{math.MinInt32, -1, 0, 7, 0x1f, ' ', 'a', '~', 0x7f, 0x9f, 0xa0, 0xe9, 0x300, 0x301, 0x1100, 0x200b, 0x2500, 0x4e2d, 0xd800, 0xfffd, 0x1f600, 0x10ffff, 0x110000, math.MaxInt32} {
		for _, kind := range []uint8{api.Narrow, api.Left, api.Right, 7} {
			c := api.Cell{Rune: x, Marks: [2]rune{0x301, 0x302}, Kind: kind, Attr: grey, Label: high}
			want := copied(g)
			if width.Of(x) == 1 {
				want = filled(g, r, c)
			}
			if got := rect.Fill(g, r, c); !equal(got, want) {
				t.Errorf("fill of %x, %d: %v, not %v", x, kind, got, want)
			}
			if got, want := rect.Erase(g, r, c), filled(g, r, c); !equal(got, want) {
				t.Errorf("erase of %x, %d: %v, not %v", x, kind, got, want)
			}
		}
	}
}

// P12.4: Sum and Level of all rectangles, near and far, are those of the cells that they have.
func TestSumAndLevel(t *testing.T) {
	for _, r := range append(rects(near()), rects(far())...) {
		for _, g := range grids() {
			many, cols := sizes(g)
			was := copied(g)
			n, l := summed(g, placed(many, cols, func(p api.Pos) bool { return has(r, p) }))
			if sum, lev := rect.Sum(g, r); sum != n || lev != l {
				t.Fatal(g, r, sum, lev, n, l)
			}
			if lev := rect.Level(g, r); lev != l || !equal(g, was) {
				t.Fatal(g, r, lev, l)
			}
		}
	}
}

// P12.4: what a cell adds to a sum: rune, marks, and flags.
func TestNumbers(t *testing.T) {
	for _, c := range []struct {
		cell api.Cell
		n    int
	}{
		{api.Cell{}, 32},
		{api.Cell{Rune: ' '}, 32},
		{api.Cell{Rune: 1}, 1},
		{api.Cell{Rune: 'a', Attr: red}, 97 + 256},
		{api.Cell{Rune: 'a', Marks: [2]rune{0x301, 0x302}}, 97 + 0x301 + 0x302},
		{api.Cell{Marks: [2]rune{0, 5}}, 37},
		{api.Cell{Rune: 'w', Kind: api.Left}, 'w'},
		{api.Cell{Kind: api.Left}, 32},
		{api.Cell{Kind: api.Right}, 0},
		{api.Cell{Kind: api.Right, Attr: red}, 256},
		{api.Cell{Rune: 'w', Marks: [2]rune{3}, Kind: api.Right, Attr: api.Attr{Flags: api.Faint}}, 3 + 512},
		{api.Cell{Rune: 'a', Attr: api.Attr{Flags: api.Twice}}, 97},
		{api.Cell{Rune: 'a', Attr: api.Attr{Flags: 0xffff}}, 97 - 256},
		{api.Cell{Rune: 0x1f600}, 0xf600},
		{api.Cell{Rune: 0x10000}, 0},
		{api.Cell{Rune: -3}, -3},
		{api.Cell{Rune: math.MinInt32, Marks: [2]rune{-1, math.MaxInt32}, Kind: 9}, -2},
		{api.Cell{Rune: 'a', Attr: api.Attr{Fg: api.Color{Kind: 2, R: 5}, Bg: api.Color{Kind: 1, R: 6}}, Label: high}, 97},
	} {
		want := uint16((2*65536 - c.n) % 65536)
		if got, l := rect.Sum(rows{{c.cell}}, of(0, 0, 1, 1)); got != want || l != c.cell.Label {
			t.Error(c, got, want, l)
		}
	}
	for _, none := range []api.Rect{{}, of(0, 0, 0, 1), of(0, 0, 1, 0), of(1, 0, 1, 1), of(0, 0, -1, -1)} {
		if got, l := rect.Sum(rows{{narrow('a', high)}}, none); got != 0 || l != low {
			t.Error(none, got, l)
		}
	}
}

// P12.4: of many numbers the rest is taken; of a sum that is a multiple of 65536 it is 0.
func TestGreatSums(t *testing.T) {
	var g rows
	for range 512 {
		g = append(g, row.New(512, api.Cell{Rune: 0xffff}))
	}
	all := of(0, 0, 512, 512)
	if got, l := rect.Sum(g, all); got != 0 || l != low { // 262144 times 65535, which is 4 times 65536 less
		t.Error(got, l)
	}
	if got, _ := rect.Sum(g, of(0, 0, 1, 5)); got != 5 {
		t.Error(got)
	}
	if got := rect.Copy(rect.Fill(g, all, narrow('x', high)), of(0, 0, 512, 511), at(0, 1)); rect.Level(got, of(511, 511, 1, 1)) != high {
		t.Error("the last cell is not there")
	}
	many := slices.Repeat([]api.Rect{of(-9, -9, math.MaxInt, math.MaxInt)}, 50)
	if l := rect.Level(g, many...); l != low {
		t.Error(l)
	}
}

// P12.4: Level is High just if one of the rectangles has a cell that is not Low; each number but Low counts as High.
func TestLevel(t *testing.T) {
	if l := rect.Level(pool(4)); l != low {
		t.Error("of none", l)
	}
	few := rects([]int{-1, 0, 1, 2})
	for n := range 3 {
		for i := range 3 {
			for _, l := range []api.Level{high, 2, 255} {
				g := rows{row.New(3, api.Cell{}), row.New(3, api.Cell{}), row.New(3, api.Cell{})}
				g[n][i].Label = l
				for k, a := range few {
					b := few[k*7919%len(few)]
					want := low
					if has(a, at(n, i)) || has(b, at(n, i)) {
						want = high
					}
					if got := rect.Level(g, a, b); got != want {
						t.Fatal(n, i, l, a, b, got)
					}
					if got := rect.Level(g, of(0, 0, 0, 0), b, a, of(9, 9, 9, 9)); got != want {
						t.Fatal(n, i, l, a, b, got)
					}
					if _, got := rect.Sum(g, a); (got == high) != has(a, at(n, i)) {
						t.Fatal(n, i, l, a, got)
					}
				}
			}
		}
	}
}

// P12.5: sums of rectangles that have no cell in common add up: a rectangle, cut in two anywhere.
func TestSumsAddUp(t *testing.T) {
	for _, g := range grids() {
		for _, r := range rects([]int{-1, 0, 1, 2, 3, 4}) {
			all, l := rect.Sum(g, r)
			for cut := 0; cut <= 4; cut++ {
				halves := [][2]api.Rect{
					{of(r.Top, r.Left, cut, r.Cols), of(r.Top+cut, r.Left, r.Rows-cut, r.Cols)},
					{of(r.Top, r.Left, r.Rows, cut), of(r.Top, r.Left+cut, r.Rows, r.Cols-cut)},
				}
				for i, x := range halves {
					if i == 0 && cut > r.Rows || i == 1 && cut > r.Cols {
						continue
					}
					a, la := rect.Sum(g, x[0])
					b, lb := rect.Sum(g, x[1])
					if a+b != all || max(la, lb) != l || rect.Level(g, x[0], x[1]) != l {
						t.Fatal(g, r, cut, a, b, all)
					}
				}
			}
		}
	}
}

// P1: no row of an answer is one that was handed in, or another row of it.
func TestOwnRows(t *testing.T) {
	for _, a := range acts() {
		for _, g := range []rows{pool(2), pool(4)} {
			was, got := copied(g), a.act(g)
			want := copied(got)
			for n := range got {
				if !equal(got[n:], want[n:]) {
					t.Fatal(a.name, g, got, want)
				}
				for i := range got[n] {
					got[n][i] = narrow('!', high)
				}
				_ = append(got[n], narrow('!', high))
			}
			if !equal(g, was) {
				t.Fatal(a.name, g, was)
			}
		}
	}
}

// seen: a grid's labels, and those of its cells that are Low.
func seen(g rows) rows {
	own := copied(g)
	for _, x := range own {
		for i := range x {
			if x[i].Label != low {
				x[i] = api.Cell{Label: x[i].Label}
			}
		}
	}
	return own
}

// P12.5: two grids with the same labels, whose Low cells are alike, are so again behind the same acts; and their levels are the same.
func TestLabelsAlone(t *testing.T) {
	alike := [][]api.Cell{
		slices.Concat(wide('w', red, high), []api.Cell{narrow('h', high), narrow('a', low)}),
		slices.Concat([]api.Cell{narrow('i', high)}, wide('x', grey, high), []api.Cell{narrow('a', low)}),
		{narrow('h', high), {Label: high}, {Rune: 'c', Marks: [2]rune{1, 2}, Attr: grey, Label: high}, narrow('a', low)},
	}
	lows := slices.Concat(wide('v', red, low), wide('y', grey, low))
	for _, a := range acts() {
		first := a.act(rows{alike[0], lows, alike[1]})
		for _, x := range alike {
			for _, y := range alike {
				if got := a.act(rows{x, lows, y}); !equal(seen(got), seen(first)) {
					t.Fatal(a.name, x, y, got, first)
				}
			}
		}
	}
	for _, r := range rects(near()) {
		n, l := rect.Sum(rows{alike[0], lows, alike[1]}, r)
		for _, x := range alike {
			m, k := rect.Sum(rows{x, lows, x}, r)
			if l != k || l == low && n != m || rect.Level(rows{x, lows, x}, r) != l {
				t.Fatal(r, x, n, m, l, k)
			}
		}
	}
}

// P12.5: grids stay whole, and are what the chapter's words make of them, however many acts come one behind the other.
func TestRowsOfActs(t *testing.T) {
	all := slices.Concat(acts(), fills(rects([]int{0, 1})))
	for _, g := range grids() {
		for i := range 3000 {
			a := all[i*7919%len(all)]
			want := a.want(g)
			if g = a.act(g); !equal(g, want) || !isWhole(g) {
				t.Fatal(a.name, g, want)
			}
			if _, cols := sizes(g); i%5 == 0 && cols > 1 { // else blanks would soon be all that there is
				g[i%len(g)] = row.Put(g[i%len(g)], i%cols, api.Cell{Rune: rune('a' + i%26), Attr: grey, Label: api.Level(i % 2)}, true)
			}
		}
	}
}

// P1: rows of several lengths, that are not whole, cells of no kind: nothing panics, and the lengths stay.
func TestAnyRows(t *testing.T) {
	odd := rows{
		{{Rune: 'l', Kind: api.Left}, {Rune: 'r', Kind: api.Right}, {Rune: 'n', Label: 9}},
		{{Rune: -5, Marks: [2]rune{-1, 0}, Kind: 7}, {Rune: 'l', Kind: api.Left}},
		{{Rune: 'r', Kind: api.Right}, {Kind: api.Right}, {Rune: 'l', Kind: api.Left}, {Kind: 200, Label: 200}},
	}
	all := slices.Concat(fills(rects(near())), fills(rects(far())), copies(rects([]int{math.MinInt, 0, 1, 2, math.MaxInt}), []int{-1, 0, 1, 2, 3}))
	for _, g := range []rows{odd, odd[:2], odd[1:], {odd[0], nil, odd[2]}, {nil, odd[0]}, {{}, {}}} {
		for _, a := range all {
			got := a.act(g)
			if !slices.EqualFunc(got, g, func(x, y []api.Cell) bool { return len(x) == len(y) }) {
				t.Fatal(a.name, g, got)
			}
		}
		for _, r := range append(rects(near()), rects(far())...) {
			rect.Sum(g, r)
			rect.Level(g, r, r)
		}
	}
}

// P12.1 to P12.4: the chapter's examples.
func TestExamples(t *testing.T) {
	example := func() rows {
		return rows{
			{narrow('a', low), narrow('b', low), narrow('c', low)},
			slices.Concat(wide(0x65e5, red, low), []api.Cell{narrow('e', low)}),
		}
	}
	for _, x := range []struct {
		got  rows
		want string
	}{
		{rect.Fill(example(), of(0, 1, 2, 1), narrow('x', low)), "axc| xe"},
		{rect.Copy(example(), of(1, 1, 1, 2), at(0, 0)), " ec|\u65e5e"},
		{rect.Copy(example(), of(1, 0, 1, 2), at(0, 1)), "a\u65e5|\u65e5e"},
	} {
		var texts []string
		for _, r := range x.got {
			texts = append(texts, row.Text(r))
		}
		if got := strings.Join(texts, "|"); got != x.want {
			t.Errorf("%q, not %q", got, x.want)
		}
	}
	if got := rect.Fill(example(), of(0, 1, 2, 1), narrow('x', low))[1][0]; got != (api.Cell{Attr: red}) {
		t.Error("the broken d:", got)
	}
	if n, l := rect.Sum(example(), of(0, 0, 1, 3)); n != 65242 || l != low {
		t.Error(n, l)
	}
	if got := rect.Of([4]int{}, 3, 4, [2]int{0, 2}, false); got != of(0, 0, 3, 4) {
		t.Error(got)
	}
	if got := rect.Of([4]int{2, 1, 9, 2}, 3, 4, [2]int{0, 2}, false); got != of(1, 0, 2, 2) {
		t.Error(got)
	}
}
