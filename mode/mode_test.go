package mode_test

import (
	"math"
	"slices"
	"testing"

	"marquee/mode"
)

// Modes by their numbers, so that rows of them are short to write.
func ansi(n int) mode.Mode    { return mode.Mode{N: n} }
func private(n int) mode.Mode { return mode.Mode{Private: true, N: n} }

// told: all modes that the document lists, in the order in which All tells them.
func told() []mode.Mode {
	all := []mode.Mode{ansi(4), ansi(20)}
	for _, n := range []int{1, 5, 6, 7, 25, 47, 1004, 1047, 1048, 1049, 2004} {
		all = append(all, private(n))
	}
	return all
}

// same: the modes that are put when one of them is.
func same(x mode.Mode) []mode.Mode {
	three := []mode.Mode{private(47), private(1047), private(1049)}
	if slices.Contains(three, x) {
		return three
	}
	return []mode.Mode{x}
}

// alone: one of each that is put by itself.
func alone() []mode.Mode {
	return []mode.Mode{ansi(4), ansi(20), private(1), private(5), private(6), private(7), private(25), private(47), private(1004), private(1048), private(2004)}
}

// unknown: modes that are none, beside those that are, with the other Private, and far from all.
func unknown() []mode.Mode {
	var all []mode.Mode
	for _, n := range []int{
		math.MinInt, math.MinInt + 4, math.MinInt32, -65532, -2004, -1049, -1047, -47, -25, -20, -7, -6, -4, -1, 0, 2, 3, 8, 9, 10, 12, 19, 21, 24, 26, 40, 45, 46, 48,
		1000, 1003, 1005, 1006, 1046, 1050, 2003, 2005, 2026, 65535, 65536 + 4, 65536 + 6, 65536 + 7, 1<<32 + 4, 1<<32 + 25, math.MaxInt32, math.MaxInt,
	} {
		all = append(all, ansi(n), private(n))
	}
	for _, x := range told() {
		all = append(all, mode.Mode{Private: !x.Private, N: x.N})
	}
	return all
}

// said: what modes should be: those that are set.
type said map[mode.Mode]bool

// first: as at first.
func first() said { return said{private(7): true, private(25): true} }

// put: the same behind a row that is set or reset.
func (s said) put(on bool, l ...mode.Mode) said {
	own := said{}
	for _, x := range told() {
		own[x] = s[x]
	}
	for _, x := range l {
		for _, y := range same(x) {
			if slices.Contains(told(), y) {
				own[y] = on
			}
		}
	}
	return own
}

// soft: softly reset.
func (s said) soft() said {
	return s.put(false, ansi(4), private(6)).put(true, private(7), private(25))
}

// list: those that are set, in order.
func (s said) list() []mode.Mode {
	var all []mode.Mode
	for _, x := range told() {
		if s[x] {
			all = append(all, x)
		}
	}
	return all
}

// check holds modes against what they should be: all that are set, and the state of each.
func check(t *testing.T, what string, m mode.Modes, s said) {
	t.Helper()
	if got := m.All(); !slices.Equal(got, s.list()) {
		t.Fatalf("%s: %v, not %v", what, got, s.list())
	}
	for _, x := range told() {
		want := mode.Reset
		if s[x] {
			want = mode.Set
		}
		if m.State(x) != want || m.Is(x) != s[x] {
			t.Fatalf("%s: %v: State %d, Is %v", what, x, m.State(x), m.Is(x))
		}
	}
	for _, x := range []mode.Mode{ansi(7), ansi(6), ansi(25), private(4), private(20), private(9), private(0), ansi(-1), ansi(0)} {
		if m.State(x) != mode.Unknown || m.Is(x) {
			t.Fatalf("%s: %v: State %d, Is %v", what, x, m.State(x), m.Is(x))
		}
	}
}

// one: modes, and what they should be.
type one struct {
	m mode.Modes
	s said
}

// sets: all sets of modes that there can be, each put from those at first, mode by mode.
func sets() []one {
	var all []one
	own := alone()
	for set := range 1 << len(own) {
		o := one{mode.New(), first()}
		for i, x := range own {
			on := set>>i&1 == 1
			o.m, _ = o.m.Put(on, x)
			o.s = o.s.put(on, x)
		}
		all = append(all, o)
	}
	return all
}

// P15.1: the states are numbered as the document lists them.
func TestStates(t *testing.T) {
	if mode.Unknown != 0 || mode.Set != 1 || mode.Reset != 2 {
		t.Error(mode.Unknown, mode.Set, mode.Reset)
	}
}

// P15.1: at first ?7 and ?25 are set, and no others; of the zero value none is.
func TestNew(t *testing.T) {
	check(t, "new", mode.New(), first())
	check(t, "zero", mode.Modes{}, said{})
	if mode.New() != mode.New() || mode.New() == (mode.Modes{}) {
		t.Error("those at first are not ==, or are those of zero value")
	}
}

// P15.1: which modes there are, of all numbers that a parameter can be and some that none can.
func TestKnown(t *testing.T) {
	of, m := first(), mode.New()
	all := slices.Concat(told(), unknown())
	for n := -70; n <= 65536; n++ {
		all = append(all, ansi(n), private(n))
	}
	there := told()
	for _, x := range all {
		known := slices.Contains(there, x)
		if mode.Known(x) != known || known != (m.State(x) != mode.Unknown) {
			t.Errorf("%v: Known %v, State %d", x, mode.Known(x), m.State(x))
		}
		if m.Is(x) != of[x] {
			t.Errorf("%v: Is %v", x, m.Is(x))
		}
		if alternate := len(same(x)) == 3; mode.Alternate(x) != alternate {
			t.Errorf("%v: Alternate %v", x, mode.Alternate(x))
		}
	}
}

// P15.1: each number that a parameter can be, at once: as many are known as the document lists.
func TestAllNumbers(t *testing.T) {
	var all []mode.Mode
	for n := -1; n <= 65536; n++ {
		all = append(all, ansi(n), private(n))
	}
	m, n := mode.New().Put(true, all...)
	if n != len(told()) || !slices.Equal(m.All(), told()) {
		t.Error(n, m.All())
	}
	m, n = m.Put(false, all...)
	if n != len(told()) || m != (mode.Modes{}) {
		t.Error(n, m.All())
	}
}

// P15.2, P15.3: of all sets of modes, each mode set and reset: it is so then, the others stay, and so does what was.
func TestPutEach(t *testing.T) {
	for _, o := range sets() {
		check(t, "those that were", o.m, o.s)
		was := o.m
		for _, x := range told() {
			for _, on := range []bool{false, true} {
				m, n := o.m.Put(on, x)
				if n != 1 || !slices.Equal(m.All(), o.s.put(on, x).list()) {
					t.Fatal(o.s.list(), on, x, n, m.All())
				}
				if (m == o.m) != (o.s[x] == on) || o.m != was {
					t.Fatal(o.s.list(), on, x, m.All(), o.m.All())
				}
				if again, _ := m.Put(on, x); again != m {
					t.Fatal(o.s.list(), on, x, "again")
				}
			}
		}
	}
}

// P15.2: modes that are none count for nothing, and change nothing, of all sets of modes.
func TestPutUnknown(t *testing.T) {
	none := unknown()
	for _, o := range sets() {
		for _, on := range []bool{false, true} {
			if m, n := o.m.Put(on, none...); n != 0 || m != o.m {
				t.Fatal(o.s.list(), on, n, m.All())
			}
			if m, n := o.m.Put(on); n != 0 || m != o.m {
				t.Fatal(o.s.list(), on, n, m.All())
			}
			mixed := slices.Concat(none, []mode.Mode{private(1047)}, none, []mode.Mode{ansi(20)}, none)
			if m, n := o.m.Put(on, mixed...); n != 2 || !slices.Equal(m.All(), o.s.put(on, private(47), ansi(20)).list()) {
				t.Fatal(o.s.list(), on, n, m.All())
			}
		}
	}
	for _, x := range none {
		for _, on := range []bool{false, true} {
			if m, n := mode.New().Put(on, x); n != 0 || m != mode.New() {
				t.Error(x, on, n, m.All())
			}
		}
	}
}

// P15.2: how many are known counts each of the row, whether or not it changes anything, or stands there twice.
func TestPutCounts(t *testing.T) {
	for _, c := range []struct {
		l []mode.Mode
		n int
	}{
		{nil, 0},
		{[]mode.Mode{}, 0},
		{[]mode.Mode{private(7)}, 1},
		{[]mode.Mode{private(7), private(7), private(7)}, 3},
		{[]mode.Mode{ansi(7), ansi(4), private(4), ansi(4), private(9)}, 2},
		{[]mode.Mode{private(47), private(1047), private(1049)}, 3},
		{told(), 13},
		{slices.Concat(told(), unknown(), told()), 26},
	} {
		for _, on := range []bool{false, true} {
			m, n := mode.New().Put(on, c.l...)
			if n != c.n {
				t.Errorf("Put(%v, %v): %d, not %d", on, c.l, n, c.n)
			}
			check(t, "put", m, first().put(on, c.l...))
		}
	}
}

// The modes of the alternate screen are one, by whichever of them they are put.
func TestAlternate(t *testing.T) {
	three := same(private(47))
	for _, o := range sets() {
		for _, x := range three {
			for _, y := range three {
				on, _ := o.m.Put(true, x)
				off, _ := on.Put(false, y)
				if !on.Is(y) || off.Is(x) || off.State(x) != mode.Reset {
					t.Fatal(x, y, on.All(), off.All())
				}
				if same, _ := o.m.Put(true, y); same != on {
					t.Fatal(x, y, same.All(), on.All())
				}
			}
		}
	}
}

// P15.2: of all sets of modes: 4 and ?6 reset, ?7 and ?25 set, the others stay.
func TestSoft(t *testing.T) {
	for _, o := range sets() {
		m := o.m.Soft()
		check(t, "soft", m, o.s.soft())
		check(t, "those that were", o.m, o.s)
		if m.Soft() != m {
			t.Fatal(o.s.list(), "again")
		}
	}
	if (mode.Modes{}).Soft() != mode.New() || mode.New().Soft() != mode.New() {
		t.Error("those of zero value, or at first")
	}
}

// P15.2: two in which the same are set are ==, however they came to be so; the others are not.
func TestAlike(t *testing.T) {
	all := sets()
	if len(all) != 2048 {
		t.Fatal(len(all))
	}
	for i, a := range all {
		for k, b := range all {
			if (a.m == b.m) != (i == k) {
				t.Fatal(a.s.list(), b.s.list())
			}
		}
	}
	for _, o := range all {
		m, s := mode.Modes{}, said{}
		l := o.s.list()
		slices.Reverse(l)
		for _, x := range l {
			m, _ = m.Put(true, x)
			s = s.put(true, x)
		}
		m, _ = m.Put(true)
		if m != o.m || !slices.Equal(s.list(), o.s.list()) {
			t.Fatal(o.s.list(), m.All())
		}
	}
}

// P15.3: to put all that are set in those of zero value makes the same ones.
func TestPutAll(t *testing.T) {
	for _, o := range sets() {
		l := o.m.All()
		m, n := mode.Modes{}.Put(true, l...)
		if m != o.m || n != len(l) {
			t.Fatal(o.s.list(), n, m.All())
		}
		if none, n := m.Put(false, l...); none != (mode.Modes{}) || n != len(l) {
			t.Fatal(o.s.list(), n, none.All())
		}
	}
}

// P15.3: rows of one call are what calls of one mode each are, wherever they are cut.
func TestCuts(t *testing.T) {
	row := slices.Concat(told(), []mode.Mode{ansi(7), private(4), private(9)})
	for i := range row {
		for k := range len(row) + 1 {
			l := slices.Concat(row[i:], row[:i])
			for _, on := range []bool{false, true} {
				whole, n := mode.New().Put(on, l...)
				a, n1 := mode.New().Put(on, l[:k]...)
				b, n2 := a.Put(on, l[k:]...)
				if whole != b || n != n1+n2 || n1 != len(slices.DeleteFunc(slices.Clone(l[:k]), func(x mode.Mode) bool { return !mode.Known(x) })) {
					t.Fatal(l, k, on, n, n1, n2)
				}
			}
		}
	}
}

// P15.3: however many acts: a mode is as it was put last, which is found by looking back over all of them.
func TestRows(t *testing.T) {
	type put struct {
		on bool
		x  mode.Mode
	}
	pool := slices.Concat(told(), unknown()[:20])
	m, rows := mode.New(), []put{{true, private(7)}, {true, private(25)}}
	for i := range 3000 {
		if i%37 == 36 {
			m = m.Soft()
			rows = append(rows, put{false, ansi(4)}, put{false, private(6)}, put{true, private(7)}, put{true, private(25)})
			continue
		}
		on := i*i%5 < 2
		l := []mode.Mode{pool[i*7919/3%len(pool)], pool[i*i*31%len(pool)], pool[i%len(pool)]}[: i%4 : 3]
		m, _ = m.Put(on, l...)
		for _, x := range l {
			rows = append(rows, put{on, x})
		}
		for _, x := range told() {
			is := false
			for n := len(rows) - 1; n >= 0; n-- {
				if slices.Contains(same(x), rows[n].x) {
					is = rows[n].on
					break
				}
			}
			if m.Is(x) != is {
				t.Fatal(i, x, m.All())
			}
		}
	}
}

// What is handed in stays as it is; what is told is the caller's.
func TestOwn(t *testing.T) {
	in := []mode.Mode{private(1049), ansi(9), ansi(4), private(6)}
	m, _ := mode.New().Put(true, in...)
	if !slices.Equal(in, []mode.Mode{private(1049), ansi(9), ansi(4), private(6)}) {
		t.Error(in)
	}
	clear(in)
	for range 2 {
		l := m.All()
		if !slices.Equal(l, []mode.Mode{ansi(4), private(6), private(7), private(25), private(47), private(1047), private(1049)}) {
			t.Fatal(l)
		}
		clear(append(l, ansi(20))[:cap(l)])
	}
	if l := (mode.Modes{}).All(); len(l) != 0 {
		t.Error(l)
	}
}

// P15.1, P15.2: the document's examples.
func TestExamples(t *testing.T) {
	if l := mode.New().All(); !slices.Equal(l, []mode.Mode{private(7), private(25)}) {
		t.Error(l)
	}
	m, n := mode.New().Put(true, ansi(4), private(6), private(9), private(1049))
	if n != 3 || !slices.Equal(m.All(), []mode.Mode{ansi(4), private(6), private(7), private(25), private(47), private(1047), private(1049)}) {
		t.Error(n, m.All())
	}
	m, _ = m.Put(false, private(47))
	if !slices.Equal(m.All(), []mode.Mode{ansi(4), private(6), private(7), private(25)}) {
		t.Error(m.All())
	}
	m = m.Soft()
	if !slices.Equal(m.All(), []mode.Mode{private(7), private(25)}) || m.State(private(6)) != mode.Reset || m.State(ansi(6)) != mode.Unknown {
		t.Error(m.All(), m.State(private(6)), m.State(ansi(6)))
	}
}
