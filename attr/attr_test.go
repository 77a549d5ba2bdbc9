package attr_test

import (
	"math"
	"slices"
	"strconv"
	"strings"
	"testing"

	"marquee/api"
	"marquee/attr"
	"marquee/param"
)

// The flags, as the document numbers them.
const (
	bold      = 1
	faint     = 2
	italic    = 4
	underline = 8
	blink     = 16
	inverse   = 32
	hidden    = 64
	strike    = 128
	twice     = 256
)

func index(n int) api.Color { return api.Color{Kind: 1, R: uint8(n)} }

func rgb(r, g, b int) api.Color {
	return api.Color{Kind: 2, R: uint8(r), G: uint8(g), B: uint8(b)}
}

// of: the parameters that a text tells.
func of(t *testing.T, s string) [][]int {
	t.Helper()
	p, is := param.Parse(s)
	if !is {
		t.Fatalf("%q are no parameters", s)
	}
	return p
}

// bases: attributes to begin with, the last ones of which are not right.
func bases() []api.Attr {
	return []api.Attr{
		{},
		{Fg: index(3), Bg: index(200)},
		{Fg: rgb(7, 8, 9), Bg: rgb(0, 0, 0), Flags: 255},
		{Fg: index(15), Flags: 511 - underline},
		{Bg: rgb(255, 254, 253), Flags: underline | italic},
		{Flags: 511},
		{Fg: api.Color{Kind: 7, R: 1, G: 2, B: 3}, Bg: api.Color{R: 1}, Flags: math.MaxUint16},
		{Fg: api.Color{Kind: 1, R: 1, G: 2, B: 3}, Bg: api.Color{Kind: 255}, Flags: 1 << 15},
	}
}

// one: what a parameter of one number makes of a, but for 38 and 48: the document's table, row by row.
func one(a api.Attr, n int) api.Attr {
	var gone, come uint16
	switch n {
	case -1, 0:
		return api.Attr{}
	case 1:
		come = bold
	case 2:
		come = faint
	case 3:
		come = italic
	case 5:
		come = blink
	case 7:
		come = inverse
	case 8:
		come = hidden
	case 9:
		come = strike
	case 4:
		come, gone = underline, twice
	case 21:
		come, gone = twice, underline
	case 22:
		gone = bold + faint
	case 24:
		gone = underline + twice
	case 23:
		gone = italic
	case 25:
		gone = blink
	case 27:
		gone = inverse
	case 28:
		gone = hidden
	case 29:
		gone = strike
	case 30, 31, 32, 33, 34, 35, 36, 37:
		a.Fg = index(n - 30)
	case 90, 91, 92, 93, 94, 95, 96, 97:
		a.Fg = index(n - 82)
	case 39:
		a.Fg = api.Color{}
	case 40, 41, 42, 43, 44, 45, 46, 47:
		a.Bg = index(n - 40)
	case 100, 101, 102, 103, 104, 105, 106, 107:
		a.Bg = index(n - 92)
	case 49:
		a.Bg = api.Color{}
	}
	a.Flags = a.Flags&(65535-gone) | come
	return a
}

// some: what a parameter of several numbers makes of a.
func some(a api.Attr, row []int) api.Attr {
	if len(row) == 2 && row[0] == 4 {
		switch row[1] {
		case 0:
			return one(a, 24)
		case 1:
			return one(a, 4)
		case 2:
			return one(a, 21)
		}
	}
	if len(row) < 3 || row[0] != 38 && row[0] != 48 {
		return a
	}
	var c api.Color
	is := false
	switch row[1]*10 + len(row) {
	case 5*10 + 3:
		c, is = colored(5, row[2:])
	case 2*10 + 5:
		c, is = colored(2, row[2:])
	case 2*10 + 6:
		c, is = colored(2, row[3:])
	}
	if is && row[0] == 38 {
		a.Fg = c
	}
	if is && row[0] == 48 {
		a.Bg = c
	}
	return a
}

// colored: the colour of numbers, if each of them may be a part.
func colored(kind int, l []int) (api.Color, bool) {
	var parts [3]int
	for i, n := range l {
		if n < -1 || n > 255 {
			return api.Color{}, false
		}
		parts[i] = max(n, 0)
	}
	if kind == 5 {
		return index(parts[0]), true
	}
	return rgb(parts[0], parts[1], parts[2]), true
}

// made: what parameters make of a, by the document's words.
func made(a api.Attr, p [][]int) api.Attr {
	if len(p) == 0 {
		return one(a, -1)
	}
	for i := 0; i < len(p); {
		switch {
		case len(p[i]) != 1:
			a = some(a, p[i])
			i++
		case p[i][0] == 38 || p[i][0] == 48:
			own := owned(p[i+1:])
			a = some(a, joined(p[i][0], own))
			i += 1 + len(own)
		default:
			a = one(a, p[i][0])
			i++
		}
	}
	return a
}

// owned: those of the parameters behind 38, 48 that are the colour's.
func owned(p [][]int) [][]int {
	most := 1
	if len(p) > 0 && len(p[0]) == 1 && p[0][0] == 5 {
		most = 2
	}
	if len(p) > 0 && len(p[0]) == 1 && p[0][0] == 2 {
		most = 4
	}
	return p[:min(most, len(p))]
}

// joined: a parameter of several numbers that says what these parameters say; nothing, if one of them isn't of one number.
func joined(n int, own [][]int) []int {
	row := []int{n}
	for _, x := range own {
		if len(x) != 1 {
			return nil
		}
		row = append(row, x[0])
	}
	return row
}

// within: do the parameters end within a colour?
func within(p [][]int) bool {
	for len(p) > 0 {
		row := p[0]
		p = p[1:]
		if len(row) != 1 || row[0] != 38 && row[0] != 48 {
			continue
		}
		if len(p) == 0 {
			return true
		}
		own := owned(p)
		if len(p[0]) == 1 && (p[0][0] == 5 && len(own) < 2 || p[0][0] == 2 && len(own) < 4) {
			return true
		}
		p = p[len(own):]
	}
	return false
}

// right: is an attribute right, by the document's words?
func right(a api.Attr) bool {
	for _, c := range []api.Color{a.Fg, a.Bg} {
		if c.Kind > 2 || c.Kind == 0 && c.R > 0 || c.Kind < 2 && (c.G > 0 || c.B > 0) {
			return false
		}
	}
	return a.Flags < 512 && (a.Flags/8%2 == 0 || a.Flags/256%2 == 0)
}

// text: an attribute's parameters as bytes, by the document's words.
func text(a api.Attr) string {
	s := "0"
	for i, n := range []string{"1", "2", "3", "4", "5", "7", "8", "9", "21"} {
		if a.Flags>>i%2 == 1 {
			s += ";" + n
		}
	}
	return s + shown(a.Fg, "38", 30, 82) + shown(a.Bg, "48", 40, 92)
}

func shown(c api.Color, other string, low, high int) string {
	r := strconv.Itoa(int(c.R))
	switch {
	case c.Kind == 1 && c.R < 8:
		return ";" + strconv.Itoa(int(c.R)+low)
	case c.Kind == 1 && c.R < 16:
		return ";" + strconv.Itoa(int(c.R)+high)
	case c.Kind == 1:
		return ";" + other + ";5;" + r
	case c.Kind == 2:
		return ";" + other + ";2;" + r + ";" + strconv.Itoa(int(c.G)) + ";" + strconv.Itoa(int(c.B))
	}
	return ""
}

// colours: some of all kinds, also such that may not be.
func colours() []api.Color {
	var l []api.Color
	for _, kind := range []uint8{0, 1, 2, 3, 4, 5, 128, 255} {
		for _, r := range []uint8{0, 1, 7, 8, 9, 15, 16, 17, 255} {
			for _, gb := range [][2]uint8{{0, 0}, {1, 0}, {0, 1}, {255, 255}} {
				l = append(l, api.Color{Kind: kind, R: r, G: gb[0], B: gb[1]})
			}
		}
	}
	return l
}

// agree: does Sgr make of a what the document's words say, with a right one behind a right one, and p as it was?
func agree(t *testing.T, a api.Attr, p [][]int) {
	t.Helper()
	was := copied(p)
	got, want := attr.Sgr(a, p), made(a, was)
	if got != want {
		t.Fatalf("Sgr(%v, %v): %v, not %v", a, was, got, want)
	}
	if right(a) && !attr.Right(got) {
		t.Fatalf("Sgr(%v, %v): %v is not right", a, was, got)
	}
	if !same(p, was) {
		t.Fatalf("Sgr(%v, %v): it is %v now", a, was, p)
	}
}

func copied(p [][]int) [][]int {
	var q [][]int
	for _, row := range p {
		q = append(q, slices.Clone(row))
	}
	return q
}

func same(a, b [][]int) bool {
	return slices.EqualFunc(a, b, func(x, y []int) bool { return slices.Equal(x, y) })
}

// each: calls do with all rows of up to so many of these parameters.
func each(l [][]int, most int, do func([][]int)) {
	var grow func(p [][]int)
	grow = func(p [][]int) {
		do(p)
		if len(p) < most {
			for _, x := range l {
				grow(append(slices.Clone(p), x))
			}
		}
	}
	grow(nil)
}

// mixed: rows of parameters, without any order, but the same ones each time.
func mixed(rows int, do func([][]int)) {
	l := [][]int{
		{-1}, {0}, {1}, {2}, {4}, {5}, {5}, {2}, {7}, {21}, {22}, {24}, {31}, {38}, {38}, {38}, {39}, {48}, {48}, {49}, {97}, {104}, {255}, {256},
		{4, 0}, {4, 1}, {4, 2}, {4, 3}, {38, 5, 9}, {48, 5, 77}, {48, 2, 1, 2, 3}, {38, 2, -1, 4, 5, 6}, {38}, {2}, {5}, {1, 2}, {2, 1}, {5, 1}, {-7}, {},
	}
	seed := uint64(1)
	next := func(n int) int {
		seed = seed*6364136223846793005 + 1442695040888963407
		return int(seed >> 33 % uint64(n))
	}
	for range rows {
		var p [][]int
		for range next(32) {
			p = append(p, l[next(len(l))])
		}
		do(p)
	}
}

// P9.1: all flags; and all kinds of colours, beside right and wrong others.
func TestRight(t *testing.T) {
	for f := range 1 << 16 {
		a := api.Attr{Fg: index(1), Bg: rgb(1, 2, 3), Flags: uint16(f)}
		want := f < 512 && f&(underline+twice) != underline+twice
		if is := attr.Right(a); is != want {
			t.Fatalf("%v: %v", a, is)
		}
	}
	for kind := range 256 {
		for _, c := range []api.Color{{}, {R: 1}, {R: 255}, {G: 1}, {B: 1}, {R: 9, G: 255}, {R: 9, B: 255}, {R: 1, G: 2, B: 3}} {
			c.Kind = uint8(kind)
			want := kind == 2 || kind < 2 && c.G == 0 && c.B == 0 && (kind == 1 || c.R == 0)
			if attr.Right(api.Attr{Fg: c}) != want || attr.Right(api.Attr{Bg: c, Flags: 255}) != want {
				t.Fatalf("%v: not %v", c, want)
			}
			if attr.Right(api.Attr{Fg: c, Flags: 512}) || attr.Right(api.Attr{Fg: c, Bg: api.Color{Kind: 3}}) {
				t.Fatalf("%v, and what is not right", c)
			}
		}
	}
	for _, fg := range colours() {
		for _, bg := range colours() {
			for _, f := range []uint16{0, 1, underline, twice, underline | twice, 511, 512} {
				a := api.Attr{Fg: fg, Bg: bg, Flags: f}
				if is := attr.Right(a); is != right(a) {
					t.Fatalf("%v: %v", a, is)
				}
			}
		}
	}
}

// P9.1: the document's examples, and parameters near to them.
func TestSgr(t *testing.T) {
	for _, c := range []struct {
		s    string
		want api.Attr
	}{
		{"1;31", api.Attr{Fg: index(1), Flags: bold}},
		{"38;5;200;4", api.Attr{Fg: index(200), Flags: underline}},
		{"38;2;1;2;300;1", api.Attr{Flags: bold}},
		{"38;7;1", api.Attr{Flags: bold}},
		{"38;5", api.Attr{}},
		{"38", api.Attr{}},
		{"48:2::1:2:3", api.Attr{Bg: rgb(1, 2, 3)}},
		{"48:2:1:2:3", api.Attr{Bg: rgb(1, 2, 3)}},
		{"48:2:999:1:2:3", api.Attr{Bg: rgb(1, 2, 3)}},
		{"48:2:9:1:2:3:4", api.Attr{}},
		{"48:2:1:2", api.Attr{}},
		{"48:2:1:2:256", api.Attr{}},
		{"48:2:::", api.Attr{Bg: rgb(0, 0, 0)}},
		{"38:5:", api.Attr{Fg: index(0)}},
		{"38:5", api.Attr{}},
		{"38:5:1:2", api.Attr{}},
		{"38:5:255", api.Attr{Fg: index(255)}},
		{"38:5:256", api.Attr{}},
		{"38:5;7", api.Attr{Flags: inverse}},
		{"38;5;", api.Attr{Fg: index(0)}},
		{"38;5;;1", api.Attr{Fg: index(0), Flags: bold}},
		{"38;2;;;", api.Attr{Fg: rgb(0, 0, 0)}},
		{"38;2;1;2;3;1", api.Attr{Fg: rgb(1, 2, 3), Flags: bold}},
		{"38;;5;1", api.Attr{Flags: blink | bold}},
		{"38;4:3;1", api.Attr{Flags: bold}},
		{"38;4:1;1", api.Attr{Flags: bold}},
		{"38;5:1;1", api.Attr{Flags: bold}},
		{"38;2:1;1;3;7", api.Attr{Flags: bold | italic | inverse}},
		{"38;38:5:9;1", api.Attr{Flags: bold}},
		{"38;5;4:1;1", api.Attr{Flags: bold}},
		{"38;2;4:1;1;3;1", api.Attr{Flags: bold}},
		{"38;2;300;1;3;1", api.Attr{Flags: bold}},
		{"38;2;1;3", api.Attr{}},
		{"38;5;38;5;7", api.Attr{Fg: index(38), Flags: blink | inverse}},
		{"38;38;5;7", api.Attr{Flags: blink | inverse}},
		{"48;5;1;38;5;2", api.Attr{Fg: index(2), Bg: index(1)}},
		{"48;2;1;2;3;38;2;4;5;6", api.Attr{Fg: rgb(4, 5, 6), Bg: rgb(1, 2, 3)}},
		{"7;38;2;1;2;3;0", api.Attr{}},
		{"1;;3", api.Attr{Flags: italic}},
		{"4;21", api.Attr{Flags: twice}},
		{"21;4", api.Attr{Flags: underline}},
		{"4:2", api.Attr{Flags: twice}},
		{"21;4:1", api.Attr{Flags: underline}},
		{"21;4:0", api.Attr{}},
		{"4;4:3", api.Attr{Flags: underline}},
		{"4;4:", api.Attr{Flags: underline}},
		{"4;4:0:0", api.Attr{Flags: underline}},
		{"4;:0", api.Attr{Flags: underline}},
		{"1:1", api.Attr{}},
		{"1;0:0", api.Attr{Flags: bold}},
		{"37;47;90;100", api.Attr{Fg: index(8), Bg: index(8)}},
		{"97;107", api.Attr{Fg: index(15), Bg: index(15)}},
		{"31;41;39", api.Attr{Bg: index(1)}},
		{"31;41;49", api.Attr{Fg: index(1)}},
		{"1;2;3;4;5;7;8;9", api.Attr{Flags: 255}},
		{"1;2;3;4;5;6;7;8;9;22;27", api.Attr{Flags: italic | underline | blink | hidden | strike}},
		{"53;58;5;1", api.Attr{Flags: blink | bold}},
	} {
		if a := attr.Sgr(api.Attr{}, of(t, c.s)); a != c.want {
			t.Errorf("%q: %v, not %v", c.s, a, c.want)
		}
		agree(t, api.Attr{}, of(t, c.s))
	}
}

// P9.1: no parameters, and one that is not said, leave nothing set.
func TestSgrNothing(t *testing.T) {
	for _, a := range bases() {
		for _, p := range [][][]int{nil, {}, {{-1}}, {{0}}} {
			if b := attr.Sgr(a, p); b != (api.Attr{}) {
				t.Errorf("Sgr(%v, %v): %v", a, p, b)
			}
		}
	}
}

// P9.1: each number alone, also those that may be no parameter's.
func TestEachNumber(t *testing.T) {
	for _, a := range bases() {
		for n := -300; n <= 1100; n++ {
			agree(t, a, [][]int{{n}})
		}
		for _, n := range []int{math.MinInt, math.MinInt + 1, math.MinInt32, -65536, 65535, 65536, 65536 + 1, 1 << 31, 1<<32 + 1, 1<<32 + 38, math.MaxInt - 1, math.MaxInt} {
			agree(t, a, [][]int{{n}})
			agree(t, a, [][]int{{n}, {1}})
			agree(t, a, [][]int{{n, 1}, {31}})
			agree(t, a, [][]int{{n, n, n}})
		}
	}
}

// P9.1: what says nothing changes nothing: parameters without a number, and with any that no table has.
func TestSaysNothing(t *testing.T) {
	for _, a := range bases() {
		for _, p := range [][][]int{
			{{}}, {nil}, {{}, {}}, {nil, {6}}, {{-2}}, {{math.MinInt}}, {{6}}, {{10}}, {{20}}, {{26}}, {{50}}, {{89}}, {{98}}, {{99}}, {{108}}, {{65535}}, {{math.MaxInt}},
			{{38}}, {{48}}, {{38}, {}}, {{38}, {1}}, {{38}, {5}}, {{38}, {5}, {}}, {{38}, {5}, {256}}, {{38}, {5}, {-2}}, {{38}, {5}, {1, 1}}, {{38}, {5, 1}}, {{48}, {5, 1}},
			{{38}, {2}}, {{38}, {2}, {1}, {1}}, {{38}, {2}, {1}, {1}, {256}}, {{38}, {2}, {1}, {1}, {}}, {{38}, {2}, {-2}, {1}, {1}}, {{48}, {2}, {1}, {1, 2}, {1}}, {{48}, {2, 1, 1, 1}},
			{{4, -1}}, {{4, 3}}, {{4, 4}}, {{4, 5}}, {{4, -2}}, {{4, 1, 1}}, {{4, 0, 0}}, {{21, 0}}, {{0, 0}}, {{-1, -1}}, {{1, 1}}, {{38, 5}}, {{38, 2}}, {{39, 1}}, {{-1, 5, 1}}, {{38, -1, 1}}, {{38, 1, 1}}, {{38, 7, 1}}, {{38, 5, -2}}, {{38, 5, 256}},
		} {
			if b := attr.Sgr(a, p); b != a {
				t.Errorf("Sgr(%v, %v): %v", a, p, b)
			}
			agree(t, a, p)
		}
	}
}

// P9.1: all short parameters of several numbers, alone and with another one behind them.
func TestSeveral(t *testing.T) {
	numbers := []int{-2, -1, 0, 1, 2, 3, 4, 5, 9, 21, 38, 48, 255, 256}
	for _, a := range []api.Attr{{}, {Fg: index(9), Bg: rgb(1, 1, 1), Flags: 511}} {
		for _, first := range []int{-1, 0, 1, 3, 4, 5, 21, 24, 28, 37, 38, 39, 47, 48, 49, 58, 97} {
			for _, x := range numbers {
				agree(t, a, [][]int{{first, x}})
				agree(t, a, [][]int{{first, x}, {5}, {1}})
				for _, y := range numbers {
					agree(t, a, [][]int{{first, x, y}})
					agree(t, a, [][]int{{first, x, y}, {31}})
					agree(t, a, [][]int{{first, x, y, 1}})
					agree(t, a, [][]int{{first, x, y, 1, 2, 3}})
				}
			}
		}
		for _, first := range []int{4, 38, 48} {
			for _, kind := range []int{1, 2, 5} {
				each([][]int{{-2}, {-1}, {1}, {255}, {256}}, 6, func(l [][]int) {
					row := []int{first, kind}
					for _, x := range l {
						row = append(row, x[0])
					}
					agree(t, a, [][]int{row})
				})
			}
		}
	}
}

// P9.1: all indexes, and all parts at each place, told both ways.
func TestAllParts(t *testing.T) {
	for n := -3; n < 300; n++ {
		for _, first := range []int{38, 48} {
			for _, l := range [][]int{{5, n}, {2, n, 1, 2}, {2, 1, n, 2}, {2, 1, 2, n}, {2, n, 1, 2, 3}, {n, 1}, {n, 1, 2, 3}} {
				row, p := []int{first}, [][]int{{first}}
				for _, x := range l {
					row = append(row, x)
					p = append(p, []int{x})
				}
				for _, a := range bases() {
					agree(t, a, [][]int{row, {3}})
					agree(t, a, append(p, []int{3}))
				}
			}
		}
	}
}

// P9.1, P9.3: all short rows of parameters that begin colours, are parts of them, or say something by themselves.
func TestShortRows(t *testing.T) {
	a := api.Attr{Fg: index(9), Bg: rgb(1, 1, 1), Flags: hidden | twice}
	each([][]int{{-1}, {1}, {2}, {5}, {38}, {48}, {256}, {4, 1}, {5, 1}, {}}, 5, func(p [][]int) { agree(t, a, p) })
	each([][]int{{2}, {5}, {38}, {31}, {2, 1}, {38, 5, 7}}, 6, func(p [][]int) { agree(t, a, p) })
}

// P9.1, P9.3: long rows, and such as a list of parameters never has.
func TestLongRows(t *testing.T) {
	mixed(5000, func(p [][]int) {
		for _, a := range bases()[:4] {
			agree(t, a, p)
		}
	})
	for _, s := range []string{"1", "38", "38;5", "38;2", "38;5;1", "48;2;1;2;3", "38;5;1:1", ":", ""} {
		var p [][]int
		for range 1 << 16 {
			p = append(p, of(t, s)...)
			p = append(p, []int{})
		}
		agree(t, api.Attr{}, p)
		agree(t, api.Attr{Flags: 3}, append(p, []int{1}, []int{44}))
	}
	agree(t, api.Attr{}, [][]int{make([]int, 1<<20), append([]int{38, 5}, make([]int, 1<<20)...), {1}})
}

// P9.1: colours never look behind what is theirs, nor behind the row's end.
func TestEndsWithinRow(t *testing.T) {
	long := [][]int{{38}, {5}, {9}, {1}, {38}, {2}, {1}, {2}, {3}, {4}}
	for from := range long {
		for to := from; to <= len(long); to++ {
			agree(t, api.Attr{Flags: italic}, long[from:to])
		}
	}
	row := []int{38, 2, 1, 2, 3, 4, 5}
	for to := range row {
		agree(t, api.Attr{Flags: italic}, [][]int{row[:to]})
	}
}

// P9.1: those of clear are taken away first, whatever they are, then those of set come.
func TestFlags(t *testing.T) {
	for _, a := range bases() {
		for _, c := range []struct {
			set   uint16
			clear []uint16
			want  uint16
		}{
			{0, nil, a.Flags},
			{bold, nil, a.Flags | 1},
			{0, []uint16{bold}, a.Flags & 0xfffe},
			{bold, []uint16{bold}, a.Flags | 1},
			{bold | faint, []uint16{faint | italic, italic}, a.Flags&0xfff9 | 3},
			{twice, []uint16{underline}, a.Flags&0xfff7 | 256},
			{0, []uint16{1, 2, 4, 8, 16}, a.Flags & 0xffe0},
			{0, []uint16{0, 0}, a.Flags},
			{0, []uint16{65535}, 0},
			{65535, []uint16{65535}, 65535},
			{1 << 15, []uint16{1 << 14, 511}, a.Flags&0xbe00 | 0x8000},
			{511, []uint16{}, a.Flags | 511},
		} {
			was := slices.Clone(c.clear)
			b := attr.Flags(a, c.set, c.clear...)
			if b != (api.Attr{Fg: a.Fg, Bg: a.Bg, Flags: c.want}) {
				t.Errorf("Flags(%v, %v, %v): %v", a, c.set, was, b)
			}
			if !slices.Equal(was, c.clear) {
				t.Errorf("Flags(%v, %v, %v): it is %v now", a, c.set, was, c.clear)
			}
		}
	}
	for x := range 16 {
		for y := range 16 {
			for z := range 16 {
				a := attr.Flags(api.Attr{Flags: 1 << x}, 1<<y, 1<<z)
				want := uint16(1) << y
				if x != z {
					want |= 1 << x
				}
				if a.Flags != want {
					t.Errorf("%v, %v, %v: %x", x, y, z, a.Flags)
				}
			}
		}
	}
}

// P9.2: the document's examples, and attributes near to them.
func TestFormat(t *testing.T) {
	for _, c := range []struct {
		a    api.Attr
		want string
	}{
		{api.Attr{Fg: index(9), Bg: rgb(1, 2, 3), Flags: bold | twice}, "0;1;21;91;48;2;1;2;3"},
		{api.Attr{}, "0"},
		{api.Attr{Flags: 511}, "0;1;2;3;4;5;7;8;9;21"},
		{api.Attr{Flags: 0xffff}, "0;1;2;3;4;5;7;8;9;21"},
		{api.Attr{Flags: 0xfe00}, "0"},
		{api.Attr{Fg: index(0), Bg: index(0)}, "0;30;40"},
		{api.Attr{Fg: index(7), Bg: index(7)}, "0;37;47"},
		{api.Attr{Fg: index(8), Bg: index(8)}, "0;90;100"},
		{api.Attr{Fg: index(15), Bg: index(15)}, "0;97;107"},
		{api.Attr{Fg: index(16), Bg: index(16)}, "0;38;5;16;48;5;16"},
		{api.Attr{Fg: index(255), Bg: index(255)}, "0;38;5;255;48;5;255"},
		{api.Attr{Fg: rgb(0, 0, 0), Bg: rgb(255, 0, 128)}, "0;38;2;0;0;0;48;2;255;0;128"},
		{api.Attr{Fg: api.Color{R: 1, G: 2, B: 3}, Bg: api.Color{Kind: 3, R: 1}}, "0"},
		{api.Attr{Fg: api.Color{Kind: 1, R: 3, G: 9, B: 9}, Bg: api.Color{Kind: 255, G: 1}}, "0;33"},
	} {
		if s := attr.Format(c.a); s != c.want || text(c.a) != c.want {
			t.Errorf("Format(%v): %q, not %q", c.a, s, c.want)
		}
	}
}

// P9.2: all flags, and all kinds of colours with all their first parts, also what a colour's kind does not have.
func TestParams(t *testing.T) {
	told := func(a api.Attr) {
		t.Helper()
		want := text(a)
		var p [][]int
		for _, s := range strings.Split(want, ";") {
			n, _ := strconv.Atoi(s)
			p = append(p, []int{n})
		}
		if got := attr.Params(a); !same(got, p) {
			t.Fatalf("Params(%v): %v, not %v", a, got, p)
		}
		if s := attr.Format(a); s != want {
			t.Fatalf("Format(%v): %q, not %q", a, s, want)
		}
	}
	for f := range 1 << 16 {
		told(api.Attr{Fg: index(f % 256), Flags: uint16(f)})
	}
	for kind := range 256 {
		for r := range 256 {
			c := api.Color{Kind: uint8(kind), R: uint8(r), G: uint8(r * 7), B: uint8(r * 13)}
			told(api.Attr{Fg: c, Flags: bold})
			told(api.Attr{Bg: c, Flags: bold})
		}
	}
	for _, fg := range colours() {
		for _, bg := range colours() {
			told(api.Attr{Fg: fg, Bg: bg, Flags: strike | twice})
		}
	}
}

// P9.2: what Params answers is the caller's, each of its lists apart.
func TestParamsAreTheCallers(t *testing.T) {
	a := api.Attr{Fg: rgb(1, 2, 3), Bg: index(99), Flags: 511}
	p, q := attr.Params(a), attr.Params(a)
	want := copied(q)
	for i := range p {
		p[i] = append(p[i], 77, 78)
	}
	for i, row := range p {
		if row[0] != want[i][0] {
			t.Error("one list runs into another one:", p)
		}
	}
	if !same(q, want) {
		t.Error("appended:", q)
	}
	for i := range q {
		q[i][0] = -5
	}
	if r := attr.Params(a); !same(r, want) {
		t.Error("changed:", r)
	}
	for i, row := range p {
		if row[0] != want[i][0] {
			t.Error("two answers share a list:", p)
		}
	}
}

// P9.3: an attribute's parameters are read again as it, whatever was ahead, if it is right.
func TestAgain(t *testing.T) {
	again := func(a api.Attr) {
		t.Helper()
		if !attr.Right(a) {
			return
		}
		p, is := param.Parse(attr.Format(a))
		if !is || !same(p, attr.Params(a)) {
			t.Fatalf("%v: %v, %v", a, p, is)
		}
		for _, b := range bases() {
			if c := attr.Sgr(b, p); c != a {
				t.Fatalf("%v of %v: %v makes %v", a, b, p, c)
			}
		}
	}
	for f := range 512 {
		again(api.Attr{Flags: uint16(f)})
		again(api.Attr{Fg: index(f % 256), Flags: uint16(f)})
		again(api.Attr{Bg: index(f % 256), Flags: uint16(f)})
		again(api.Attr{Fg: rgb(f, f*3, f*5), Bg: index(f % 256), Flags: uint16(f)})
		again(api.Attr{Fg: index(f % 256), Bg: rgb(f*3, f, f*5), Flags: uint16(f)})
	}
	for _, fg := range colours() {
		for _, bg := range colours() {
			again(api.Attr{Fg: fg, Bg: bg, Flags: italic | twice})
		}
	}
}

// P9.3: two rows say one behind the other what they say together; not so, if the first one ends within a colour, or one has no parameters.
func TestTogether(t *testing.T) {
	a := api.Attr{Fg: index(9), Bg: rgb(1, 1, 1), Flags: hidden | twice}
	both := func(p [][]int) {
		for cut := 1; cut < len(p); cut++ {
			x, y := p[:cut:cut], p[cut:]
			if within(x) {
				continue
			}
			if b, c := attr.Sgr(attr.Sgr(a, x), y), attr.Sgr(a, p); b != c {
				t.Fatalf("%v, and then %v: %v; together: %v", x, y, b, c)
			}
		}
	}
	each([][]int{{1}, {2}, {5}, {38}, {48}, {31}, {4, 1}}, 5, both)
	mixed(3000, both)
	if b := attr.Sgr(attr.Sgr(a, [][]int{{38}}), [][]int{{5}, {7}}); b.Fg != a.Fg || b.Flags != a.Flags|blink|inverse {
		t.Error("cut within a colour:", b)
	}
	if b := attr.Sgr(attr.Sgr(a, [][]int{{1}}), nil); b != (api.Attr{}) {
		t.Error("none behind:", b)
	}
}

// P9.1, P9.2: what is answered hangs on what is handed in alone.
func TestTheSameAgain(t *testing.T) {
	for _, a := range bases() {
		for range 50 {
			mixed(20, func(p [][]int) {
				if attr.Sgr(a, p) != attr.Sgr(a, copied(p)) || attr.Format(a) != attr.Format(a) {
					t.Fatal(a, p)
				}
			})
		}
	}
}
