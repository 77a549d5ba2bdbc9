package grid_test

import (
	"math"
	"slices"
	"strings"
	"testing"

	"marquee/api"
	"marquee/grid"
	"marquee/row"
)

const (
	low  = api.Low
	high = api.High
)

// Attributes to tell cells by.
var (
	red  = api.Attr{Fg: api.Color{Kind: 1, R: 1}, Bg: api.Color{Kind: 1, R: 4}, Flags: api.Bold}
	grey = api.Attr{Fg: api.Color{Kind: 2, R: 9, G: 8, B: 7}, Flags: api.Underline}
)

// rows: a grid as the rows that it has.
type rows = [][]api.Cell

func at(row, col int) api.Pos { return api.Pos{Row: row, Col: col} }

func narrow(r rune, l api.Level) api.Cell { return api.Cell{Rune: r, Label: l} }

// wide: the two cells of a wide one.
func wide(r rune, a api.Attr, l api.Level) []api.Cell {
	return []api.Cell{{Rune: r, Kind: api.Left, Attr: a, Label: l}, {Kind: api.Right, Attr: a, Label: l}}
}

// of: a grid of these rows.
func of(t *testing.T, r rows) *grid.Grid {
	t.Helper()
	g := grid.New(len(r), len(r[0]), api.Cell{})
	for n := range r {
		if !g.Set(n, r[n]) {
			t.Fatal("not set", n)
		}
	}
	return g
}

// in: the rows of a grid.
func in(g *grid.Grid) rows {
	many, _ := g.Size()
	own := rows{}
	for n := range many {
		own = append(own, g.Row(n))
	}
	return own
}

func copied(r rows) rows {
	own := rows{}
	for _, x := range r {
		own = append(own, slices.Clone(x))
	}
	return own
}

func equal(a, b rows) bool { return slices.EqualFunc(a, b, slices.Equal) }

func check(t *testing.T, what string, got, want rows) {
	t.Helper()
	if !equal(got, want) {
		t.Fatalf("%s: %v, not %v", what, got, want)
	}
}

// pool: whole rows of some columns, no two alike.
func pool(cols int) rows {
	e := api.Cell{Rune: 'e', Marks: [2]rune{0x301}, Attr: grey}
	switch cols {
	case 1:
		return rows{{narrow('a', low)}, {narrow('b', high)}, {e}, {{Label: high, Attr: red}}}
	case 2:
		return rows{wide('v', red, low), {narrow('a', low), e}, wide('w', grey, high), {{}, narrow('b', high)}}
	}
	return rows{
		slices.Concat([]api.Cell{narrow('a', low)}, wide('v', red, high), []api.Cell{{}}),
		slices.Concat(wide('w', grey, low), wide('x', red, high)),
		{e, {Label: high}, {Rune: 'f', Marks: [2]rune{0x301, 0x302}, Label: high}, narrow('b', low)},
		slices.Concat([]api.Cell{narrow('c', high), {Attr: red}}, wide('y', api.Attr{}, low)),
	}
}

// grids: small ones of whole rows, each size with its own.
func grids() []rows {
	var all []rows
	for _, cols := range []int{1, 2, 4} {
		p := pool(cols)
		for many := 1; many <= 4; many++ {
			all = append(all, p[:many])
		}
		all = append(all, rows{p[1], p[0]}, rows{p[3], p[2], p[1]})
	}
	return all
}

// numbers: those within small grids, and around them.
func numbers() []int { return []int{math.MinInt, -1, 0, 1, 2, 3, 4, 5, math.MaxInt} }

// blanks: cells to fill with.
func blanks() []api.Cell {
	return []api.Cell{{}, row.Blank(red, high), {Rune: 'z', Marks: [2]rune{0x308}, Attr: grey}}
}

// tried: what is done to a grid, the rows that it tells, and what the chapter's words make of its rows.
type tried struct {
	name string
	act  func(g *grid.Grid) rows
	want func(r rows) (stay, went rows)
}

// editing: an act on a row from a place on, as row does it; nothing where there is no such row or column.
func editing(name string, p api.Pos, act func(g *grid.Grid), do func(r []api.Cell) []api.Cell) tried {
	return tried{name, func(g *grid.Grid) rows { act(g); return nil }, func(r rows) (rows, rows) {
		own := copied(r)
		if p.Row >= 0 && p.Row < len(r) && p.Col >= 0 && p.Col < len(r[0]) {
			own[p.Row] = do(r[p.Row])
		}
		return own, nil
	}}
}

// edits: Put, Mark, Insert, Delete and Erase at all places and numbers.
func edits() []tried {
	var all []tried
	for _, n := range numbers() {
		for _, x := range numbers() {
			p := at(n, x)
			for _, b := range blanks() {
				for _, w := range []bool{false, true} {
					all = append(all, editing("put", p, func(g *grid.Grid) { g.Put(p, b, w) },
						func(r []api.Cell) []api.Cell { return row.Put(r, x, b, w) }))
				}
				all = append(all, editing("mark", p, func(g *grid.Grid) { g.Mark(p, 0x305, b.Label) },
					func(r []api.Cell) []api.Cell { return row.Mark(r, x, 0x305, b.Label) }))
				for _, y := range numbers() {
					all = append(all,
						editing("insert", p, func(g *grid.Grid) { g.Insert(p, y, b) },
							func(r []api.Cell) []api.Cell { return row.Insert(r, x, y, b) }),
						editing("delete", p, func(g *grid.Grid) { g.Delete(p, y, b) },
							func(r []api.Cell) []api.Cell { return row.Delete(r, x, y, b) }),
						editing("erase", at(n, 0), func(g *grid.Grid) { g.Erase(n, x, y, b) },
							func(r []api.Cell) []api.Cell { return row.Erase(r, x, y, b) }))
				}
			}
		}
	}
	return all
}

// scrolled: rows of which those from top to bottom move by n, up or down, one at a time.
func scrolled(r rows, top, bottom, n int, b api.Cell, up bool) (stay, went rows) {
	own := copied(r)
	if top < 0 || top > bottom || bottom >= len(r) {
		return own, nil
	}
	for ; n > 0 && len(went) <= bottom-top; n-- {
		fresh := rows{row.New(len(r[0]), b)}
		if up {
			went = append(went, own[top])
			own = slices.Concat(own[:top], own[top+1:bottom+1], fresh, own[bottom+1:])
		} else {
			went = slices.Concat(rows{own[bottom]}, went)
			own = slices.Concat(own[:top], fresh, own[top:bottom], own[bottom+1:])
		}
	}
	return own, went
}

// scrolls: Up and Down of all regions, and of what is none.
func scrolls() []tried {
	var all []tried
	for _, top := range numbers() {
		for _, bottom := range numbers() {
			for _, n := range numbers() {
				for _, b := range blanks() {
					all = append(all,
						tried{"up", func(g *grid.Grid) rows { return g.Up(top, bottom, n, b) },
							func(r rows) (rows, rows) { return scrolled(r, top, bottom, n, b, true) }},
						tried{"down", func(g *grid.Grid) rows { return g.Down(top, bottom, n, b) },
							func(r rows) (rows, rows) { return scrolled(r, top, bottom, n, b, false) }})
				}
			}
		}
	}
	return all
}

// resized: rows that are each of so many columns, and so many of them.
func resized(r rows, many, cols int, b api.Cell) rows {
	own := rows{}
	for n := range many {
		if n < len(r) {
			own = append(own, row.Resize(r[n], cols, b))
		} else {
			own = append(own, row.New(cols, b))
		}
	}
	return own
}

// others: Resize to small sizes, and Raise.
func others() []tried {
	var all []tried
	for many := 1; many <= 6; many++ {
		for cols := 1; cols <= 6; cols++ {
			for _, b := range blanks() {
				all = append(all, tried{"resize", func(g *grid.Grid) rows { g.Resize(many, cols, b); return nil },
					func(r rows) (rows, rows) { return resized(r, many, cols, b), nil }})
			}
		}
	}
	for _, l := range []api.Level{low, high, 2, 255} {
		all = append(all, tried{"raise", func(g *grid.Grid) rows { g.Raise(l); return nil },
			func(r rows) (rows, rows) {
				own := copied(r)
				for n := range own {
					own[n] = row.Raise(own[n], l)
				}
				return own, nil
			}})
	}
	return all
}

// acts: all that changes a grid.
func acts() []tried { return slices.Concat(edits(), scrolls(), others()) }

// isWhole: are all rows whole, and of one length?
func isWhole(r rows) bool {
	for _, x := range r {
		if !row.Whole(x) || len(x) != len(r[0]) {
			return false
		}
	}
	return true
}

// P11.2, P11.3: each act makes of each small grid what the chapter's words say, and nothing else; its rows stay whole (P11.4), and the blanks are not changed.
func TestActs(t *testing.T) {
	for _, a := range acts() {
		for _, r := range grids() {
			was := copied(r)
			g := of(t, r)
			went := a.act(g)
			stay, gone := a.want(was)
			check(t, a.name, in(g), stay)
			check(t, a.name+": went", went, gone)
			check(t, a.name+": handed in", r, was)
			if !isWhole(in(g)) || !isWhole(went) {
				t.Fatal(a.name, r, in(g), went)
			}
		}
	}
}

// P11.1: there are grids of 1 to 512 rows of 1 to 512 cells, all of them the blank, and no others.
func TestNew(t *testing.T) {
	sizes := []int{math.MinInt, -512, -1, 0, 1, 2, 3, 511, 512, 513, 1024, math.MaxInt}
	for _, many := range sizes {
		for _, cols := range sizes {
			for _, b := range blanks() {
				g := grid.New(many, cols, b)
				can := many >= 1 && many <= 512 && cols >= 1 && cols <= 512
				if can != (g != nil) {
					t.Fatal(many, cols, g != nil)
				}
				if can {
					check(t, "new", in(g), slices.Repeat(rows{row.New(cols, b)}, many))
				}
			}
		}
	}
}

// P11.1: Size tells rows and columns, also behind Resize.
func TestSize(t *testing.T) {
	for _, s := range [][2]int{{1, 1}, {2, 7}, {7, 2}, {512, 1}, {1, 512}, {512, 512}} {
		g := grid.New(s[0], s[1], api.Cell{})
		if many, cols := g.Size(); many != s[0] || cols != s[1] {
			t.Error(s, many, cols)
		}
		g.Resize(s[1], s[0], api.Cell{})
		if many, cols := g.Size(); many != s[1] || cols != s[0] {
			t.Error(s, many, cols)
		}
	}
}

// P11.1: At and Row tell what there is, and nothing else.
func TestAtAndRow(t *testing.T) {
	for _, r := range grids() {
		g := of(t, r)
		for _, n := range numbers() {
			isRow := n >= 0 && n < len(r)
			if got := g.Row(n); isRow && !slices.Equal(got, r[n]) || !isRow && got != nil {
				t.Fatal(r, n, got)
			}
			for _, x := range numbers() {
				c, is := g.At(at(n, x))
				if is != (isRow && x >= 0 && x < len(r[0])) || is && c != r[n][x] || !is && c != (api.Cell{}) {
					t.Fatal(r, n, x, c, is)
				}
			}
		}
	}
}

// P11.1: Set changes one row, if there is one, to one of the same length.
func TestSet(t *testing.T) {
	for _, r := range grids() {
		for _, n := range numbers() {
			for cols := range 7 {
				g, want := of(t, r), copied(r)
				set := row.New(cols, row.Blank(red, high))
				can := n >= 0 && n < len(r) && cols == len(r[0])
				if can {
					want[n] = slices.Clone(set)
				}
				if is := g.Set(n, set); is != can {
					t.Fatal(r, n, cols, is)
				}
				check(t, "set", in(g), want)
			}
		}
	}
	g := grid.New(2, 2, api.Cell{})
	if g.Set(0, nil) {
		t.Error("nothing is a row")
	}
	if half := wide('w', red, high)[:1]; !grid.New(1, 1, api.Cell{}).Set(0, half) {
		t.Error("a row is taken as it is")
	}
}

// P11.1: Text is of each row its text.
func TestText(t *testing.T) {
	for _, r := range grids() {
		var want []string
		for _, x := range r {
			want = append(want, row.Text(x))
		}
		if got := of(t, r).Text(); !slices.Equal(got, want) {
			t.Errorf("%v: %q", r, got)
		}
	}
	if got := of(t, pool(4)).Text(); strings.Join(got, "|") != "av |wx|e\u0301 f\u0301\u0302b|c y" {
		t.Errorf("%q", got)
	}
}

// P11.1: Level is High just if there is a High cell, wherever that is; each number but Low counts as High.
func TestLevel(t *testing.T) {
	if l := grid.New(3, 4, api.Cell{}).Level(); l != low {
		t.Error(l)
	}
	for n := range 3 {
		for x := range 4 {
			for _, l := range []api.Level{high, 2, 255} {
				g := grid.New(3, 4, api.Cell{})
				g.Put(at(n, x), api.Cell{Label: l}, false)
				if got := g.Level(); got != high {
					t.Error(n, x, l, got)
				}
			}
		}
	}
}

// P11.1: a copy is alike, and neither changes with the other one.
func TestCopy(t *testing.T) {
	for _, a := range acts() {
		for _, r := range grids() {
			g := of(t, r)
			c := g.Copy()
			if !grid.Same(g, c) || g == c {
				t.Fatal(r)
			}
			for _, x := range a.act(g) {
				clear(x)
			}
			check(t, a.name+": copy", in(c), r)
			g = of(t, r)
			c = g.Copy()
			a.act(c)
			check(t, a.name+": copied", in(g), r)
		}
	}
}

// P11.1: the same are just those whose sizes and cells are.
func TestSame(t *testing.T) {
	all := grids()
	for i, a := range all {
		for j, b := range all {
			if got := grid.Same(of(t, a), of(t, b)); got != (i == j) || got != equal(a, b) {
				t.Error(i, j, got)
			}
		}
	}
	for _, c := range []api.Cell{
		{Rune: 'a'}, {Marks: [2]rune{1, 0}}, {Marks: [2]rune{0, 1}}, {Kind: api.Right}, {Label: high},
		{Attr: api.Attr{Flags: 1}}, {Attr: api.Attr{Fg: api.Color{B: 1}}}, {Attr: api.Attr{Bg: api.Color{Kind: 1}}},
	} {
		for x := range 6 {
			g, r := grid.New(2, 3, api.Cell{}), row.New(3, api.Cell{})
			r[x%3] = c
			g.Set(x/3, r)
			if grid.Same(g, grid.New(2, 3, api.Cell{})) || grid.Same(grid.New(2, 3, api.Cell{}), g) {
				t.Error(c, x)
			}
		}
	}
	g := grid.New(1, 1, api.Cell{})
	if grid.Same(g, nil) || grid.Same(nil, g) || !grid.Same(nil, nil) || !grid.Same(g, g) {
		t.Error("with one that is none")
	}
	if grid.Same(grid.New(2, 3, api.Cell{}), grid.New(3, 2, api.Cell{})) || grid.Same(grid.New(2, 3, api.Cell{}), grid.New(2, 2, api.Cell{})) {
		t.Error("of other sizes")
	}
}

// P11.3: Resize tells whether there can be such a grid, and does nothing if there can't.
func TestResize(t *testing.T) {
	for _, r := range grids() {
		for _, many := range []int{math.MinInt, -1, 0, 1, 3, 512, 513, math.MaxInt} {
			for _, cols := range []int{math.MinInt, -1, 0, 1, 3, 512, 513, math.MaxInt} {
				g, want := of(t, r), r
				b := row.Blank(red, high)
				can := many >= 1 && many <= 512 && cols >= 1 && cols <= 512
				if can {
					want = resized(r, many, cols, b)
				}
				if is := g.Resize(many, cols, b); is != can {
					t.Fatal(r, many, cols, is)
				}
				check(t, "resize", in(g), want)
			}
		}
	}
}

// P11.1, P11.2, P11.3: a grid that is none has nothing, and stays so.
func TestNoGrid(t *testing.T) {
	for _, g := range []*grid.Grid{nil, {}, grid.New(0, 1, api.Cell{}), grid.New(1, 513, api.Cell{})} {
		for _, a := range acts() {
			if went := a.act(g); len(went) != 0 {
				t.Fatal(a.name, went)
			}
		}
		for _, n := range numbers() {
			if g.Row(n) != nil || g.Set(n, nil) || g.Set(n, row.New(1, api.Cell{})) {
				t.Error("a row", n)
			}
			if c, is := g.At(at(n, 0)); is || c != (api.Cell{}) {
				t.Error("a cell", n, c)
			}
		}
		many, cols := g.Size()
		if many != 0 || cols != 0 || g.Resize(2, 2, api.Cell{}) || g.Level() != low || g.Copy() != nil || len(g.Text()) != 0 {
			t.Error("something")
		}
		if !grid.Same(g, nil) || !grid.Same(nil, g) || grid.Same(g, grid.New(1, 1, api.Cell{})) {
			t.Error("not the same")
		}
	}
}

// P1: rows that are not whole, cells of no kind, blanks that are not Narrow: nothing panics, and the sizes stay.
func TestAnyRows(t *testing.T) {
	odd := rows{
		{{Rune: 'l', Kind: api.Left}, {Rune: 'r', Kind: api.Right}, {Rune: 'n', Label: 9}},
		{{Rune: -5, Marks: [2]rune{-1, 0}, Kind: 7}, {Rune: 'l', Kind: api.Left}, {Rune: 'l', Kind: api.Left}},
		{{Rune: 'r', Kind: api.Right}, {Kind: api.Right}, {Rune: 'l', Kind: api.Left}},
	}
	for _, a := range acts() {
		g := of(t, odd)
		check(t, "set", in(g), odd)
		a.act(g)
		if many, cols := g.Size(); a.name != "resize" && (many != 3 || cols != 3) {
			t.Fatal(a.name, many, cols)
		}
		g.Text()
		g.Level()
	}
	for _, b := range []api.Cell{{Kind: api.Left}, {Kind: api.Right, Rune: 'x'}, {Kind: 200, Label: 200}} {
		g := grid.New(2, 3, b)
		g.Put(at(0, 1), b, true)
		g.Insert(at(0, 1), 1, b)
		g.Delete(at(1, 0), 1, b)
		g.Erase(0, 1, 2, b)
		if went := slices.Concat(g.Up(0, 1, 1, b), g.Down(0, 1, 1, b)); len(went) != 2 || !g.Resize(3, 2, b) {
			t.Error(b)
		}
	}
}

// P1: no row that was handed in or out, and none of the blanks that came, is the grid's own, or another one.
func TestOwnRows(t *testing.T) {
	spoil := func(r []api.Cell) {
		for i := range r {
			r[i] = narrow('!', high)
		}
		_ = append(r, narrow('!', high))
	}
	for _, a := range acts() {
		for _, r := range grids() {
			g := of(t, r)
			for n, x := range copied(r) {
				g.Set(n, x)
				spoil(x)
			}
			check(t, a.name+": set", in(g), r)
			went := a.act(g)
			stay, gone := a.want(r)
			for i, x := range went {
				check(t, a.name+": each went by itself", went[i:], gone[i:])
				spoil(x)
			}
			check(t, a.name+": went", in(g), stay)
			for n := range stay {
				spoil(g.Row(n))
			}
			for n := range g.Text() {
				g.Text()[n] = "!"
			}
			check(t, a.name+": told", in(g), stay)
		}
	}
}

// fresh: grids of four rows of three blanks that came in different ways, by their names.
func fresh(b api.Cell) map[string]*grid.Grid {
	all := map[string]*grid.Grid{
		"new": grid.New(4, 3, b), "up": grid.New(4, 3, api.Cell{}), "down": grid.New(4, 3, api.Cell{}), "resize": grid.New(1, 3, b),
	}
	all["up"].Up(0, 3, 9, b)
	all["down"].Down(0, 3, 9, b)
	all["resize"].Resize(4, 3, b)
	all["copy"] = all["new"].Copy()
	return all
}

// P11.4: what is done to one row, of those that came as blanks too, changes no other one.
func TestOneRow(t *testing.T) {
	b := narrow('z', low)
	for what, g := range fresh(b) {
		want := slices.Repeat(rows{row.New(3, b)}, 4)
		check(t, what, in(g), want)
		for n := range 4 {
			g.Put(at(n, 1), narrow('0'+rune(n), high), false)
			want[n] = row.Put(want[n], 1, narrow('0'+rune(n), high), false)
			check(t, what, in(g), want)
		}
	}
}

// P1: rows that came as blanks, and went, are each the caller's by itself.
func TestOwnBlanks(t *testing.T) {
	b := narrow('z', low)
	for what, g := range fresh(b) {
		went := slices.Concat(g.Up(0, 3, 1, b), g.Down(0, 3, 1, b), g.Up(0, 3, 2, b))
		for i, x := range went {
			check(t, what, went[i:], slices.Repeat(rows{row.New(3, b)}, 4-i))
			clear(x)
		}
		check(t, what, in(g), slices.Repeat(rows{row.New(3, b)}, 4))
	}
}

// seen: a grid's labels, and those of its cells that are Low.
func seen(r rows) rows {
	own := copied(r)
	for _, x := range own {
		for i := range x {
			if x[i].Label != low {
				x[i] = api.Cell{Label: x[i].Label}
			}
		}
	}
	return own
}

// P11.4: two grids with the same labels, whose Low cells are alike, are so again behind the same acts, and so are the rows that went.
func TestLabelsAlone(t *testing.T) {
	alike := [][]api.Cell{
		slices.Concat(wide('w', red, high), []api.Cell{narrow('h', high), narrow('a', low)}),
		slices.Concat([]api.Cell{narrow('i', high)}, wide('x', grey, high), []api.Cell{narrow('a', low)}),
		{narrow('h', high), {Label: high}, {Rune: 'c', Marks: [2]rune{1, 2}, Attr: grey, Label: high}, narrow('a', low)},
	}
	lows := slices.Concat(wide('v', red, low), wide('y', grey, low))
	for _, a := range acts() {
		first := of(t, rows{alike[0], lows, alike[1]})
		went := a.act(first)
		for _, x := range alike {
			for _, y := range alike {
				g := of(t, rows{x, lows, y})
				if gone := a.act(g); !equal(seen(gone), seen(went)) || !equal(seen(in(g)), seen(in(first))) || g.Level() != first.Level() {
					t.Fatal(a.name, x, y, in(g), in(first))
				}
			}
		}
	}
}

// P11.4: grids stay whole, and are what the chapter's words make of them, however many acts come one behind the other.
func TestRowsOfActs(t *testing.T) {
	all := acts()
	for _, start := range grids() {
		g, want := of(t, start), start
		for i := range 3000 {
			a := all[i*7919%len(all)]
			went := a.act(g)
			stay, gone := a.want(want)
			check(t, a.name, in(g), stay)
			check(t, a.name+": went", went, gone)
			if !isWhole(stay) {
				t.Fatal(a.name, stay)
			}
			want = stay
		}
	}
}

// P11.3: the chapter's examples.
func TestExamples(t *testing.T) {
	abc := func() *grid.Grid {
		g := grid.New(3, 2, api.Cell{})
		for n, c := range "abc" {
			g.Put(at(n, 0), narrow(c, low), false)
		}
		return g
	}
	texts := func(r rows) string {
		var s []string
		for _, x := range r {
			s = append(s, row.Text(x))
		}
		return strings.Join(s, "|")
	}
	g := abc()
	if went := texts(g.Up(0, 2, 1, api.Cell{})); went != "a " || texts(in(g)) != "b |c |  " {
		t.Errorf("up: %q, %q", went, g.Text())
	}
	g = abc()
	if went := texts(g.Down(1, 2, 5, api.Cell{})); went != "b |c " || texts(in(g)) != "a |  |  " {
		t.Errorf("down: %q, %q", went, g.Text())
	}
	g = abc()
	for _, no := range [][3]int{{1, 0, 1}, {0, 3, 1}, {0, 1, 0}} {
		if went := g.Up(no[0], no[1], no[2], api.Cell{}); len(went) != 0 || !grid.Same(g, abc()) {
			t.Errorf("%v: %v, %q", no, went, g.Text())
		}
	}
	if !g.Resize(2, 3, api.Cell{}) || strings.Join(g.Text(), "|") != "a  |b  " {
		t.Errorf("resize: %q", g.Text())
	}
}
