package label_test

import (
	"math"
	"slices"
	"strings"
	"testing"

	"marquee/api"
	"marquee/label"
)

const (
	low  = api.Low
	high = api.High
)

// levels: all that the type can hold, the right ones first.
func levels() []api.Level {
	var l []api.Level
	for n := range 256 {
		l = append(l, api.Level(n))
	}
	return l
}

// counts: what a level counts as, written out as the document says it.
func counts(l api.Level) api.Level {
	switch l {
	case 0:
		return 0
	default:
		return 1
	}
}

// P1.1: the three calls that take a row, at the document's examples and the edges.
func TestRows(t *testing.T) {
	for _, c := range []struct {
		l          []api.Level
		right      bool
		join, meet api.Level
	}{
		{nil, true, low, high},
		{[]api.Level{}, true, low, high},
		{[]api.Level{low}, true, low, low},
		{[]api.Level{high}, true, high, high},
		{[]api.Level{low, low}, true, low, low},
		{[]api.Level{low, high}, true, high, low},
		{[]api.Level{high, low}, true, high, low},
		{[]api.Level{high, high}, true, high, high},
		{[]api.Level{7}, false, high, high},
		{[]api.Level{255}, false, high, high},
		{[]api.Level{2, 3}, false, high, high},
		{[]api.Level{7, low}, false, high, low},
		{[]api.Level{low, 7}, false, high, low},
		{[]api.Level{7, high}, false, high, high},
		{[]api.Level{high, 7}, false, high, high},
		{[]api.Level{low, low, low, high}, true, high, low},
		{[]api.Level{high, high, high, low}, true, high, low},
		{[]api.Level{low, high, 2, high, low}, false, high, low},
	} {
		if got := label.Right(c.l...); got != c.right {
			t.Errorf("Right(%v): %v", c.l, got)
		}
		if got := label.Join(c.l...); got != c.join {
			t.Errorf("Join(%v): %v, not %v", c.l, got, c.join)
		}
		if got := label.Meet(c.l...); got != c.meet {
			t.Errorf("Meet(%v): %v, not %v", c.l, got, c.meet)
		}
	}
}

// P1.1: each number but the two counts as High, alone and beside another one.
func TestEachLevel(t *testing.T) {
	for _, a := range levels() {
		if got := label.Right(a); got != (a == low || a == high) {
			t.Fatalf("Right(%v): %v", a, got)
		}
		if got := label.Join(a); got != counts(a) {
			t.Fatalf("Join(%v): %v", a, got)
		}
		if got := label.Meet(a); got != counts(a) {
			t.Fatalf("Meet(%v): %v", a, got)
		}
		for _, b := range levels() {
			if got := label.Right(a, b); got != (a < 2 && b < 2) {
				t.Fatalf("Right(%v, %v): %v", a, b, got)
			}
			if got := label.Join(a, b); got != max(counts(a), counts(b)) {
				t.Fatalf("Join(%v, %v): %v", a, b, got)
			}
			if got := label.Meet(a, b); got != min(counts(a), counts(b)) {
				t.Fatalf("Meet(%v, %v): %v", a, b, got)
			}
			if got := label.Flows(a, b); got != (counts(a) <= counts(b)) {
				t.Fatalf("Flows(%v, %v): %v", a, b, got)
			}
		}
	}
}

// P1.1: the document's examples of Flows, and the one way that is barred.
func TestFlows(t *testing.T) {
	for _, c := range []struct {
		from, to api.Level
		flows    bool
	}{
		{low, low, true}, {low, high, true}, {high, low, false}, {high, high, true},
		{7, low, false}, {low, 7, true}, {7, high, true}, {high, 7, true}, {7, 8, true}, {7, 7, true},
	} {
		if got := label.Flows(c.from, c.to); got != c.flows {
			t.Errorf("Flows(%v, %v): %v", c.from, c.to, got)
		}
	}
}

// P1.1: a row that is handed in stays as it is.
func TestRowsKept(t *testing.T) {
	l := []api.Level{7, high, low, 255}
	label.Right(l...)
	label.Join(l...)
	label.Meet(l...)
	if !slices.Equal(l, []api.Level{7, high, low, 255}) {
		t.Error(l)
	}
}

// P1.2: writing, at the document's examples, the limits, and what is refused.
func TestWrite(t *testing.T) {
	for _, c := range []struct {
		t    label.Text
		s    string
		by   api.Level
		want string
		err  api.Errno
	}{
		{label.Text{"", low, 3}, "abc", low, "abc", api.OK},
		{label.Text{"", low, 3}, "abc", high, "", api.ErrLevel},
		{label.Text{"", low, 3}, "abcd", low, "", api.ErrLong},
		{label.Text{"", high, 3}, "x", low, "x", api.OK},
		{label.Text{"", high, 3}, "x", high, "x", api.OK},
		{label.Text{"old", low, 3}, "", low, "", api.OK},
		{label.Text{"old", low, 3}, "ab", low, "ab", api.OK},
		{label.Text{"old", high, 3}, "new", low, "new", api.OK},
		// refused: what was there stays
		{label.Text{"old", low, 3}, "new", high, "old", api.ErrLevel},
		{label.Text{"old", low, 3}, "news", low, "old", api.ErrLong},
		{label.Text{"old", high, 3}, "news", high, "old", api.ErrLong},
		{label.Text{"old", high, 3}, "news", low, "old", api.ErrLong},
		// both errors: the level is named first
		{label.Text{"old", low, 3}, "news", high, "old", api.ErrLevel},
		{label.Text{"old", low, 0}, "n", 7, "old", api.ErrLevel},
		{label.Text{"old", low, -1}, "", high, "old", api.ErrLevel},
		// levels that are neither count as High
		{label.Text{"old", low, 3}, "new", 7, "old", api.ErrLevel},
		{label.Text{"old", 7, 3}, "new", low, "new", api.OK},
		{label.Text{"old", 7, 3}, "new", high, "new", api.OK},
		{label.Text{"old", high, 3}, "new", 255, "new", api.OK},
		{label.Text{"old", 7, 3}, "new", 8, "new", api.OK},
		// a limit of nought, and below
		{label.Text{"", low, 0}, "", low, "", api.OK},
		{label.Text{"old", low, 0}, "", low, "", api.OK},
		{label.Text{"old", low, 0}, "n", low, "old", api.ErrLong},
		{label.Text{"old", low, -1}, "", low, "old", api.ErrLong},
		{label.Text{"old", low, -1}, "n", low, "old", api.ErrLong},
		{label.Text{"old", low, math.MinInt}, "", low, "old", api.ErrLong},
		{label.Text{"old", low, math.MinInt}, "n", low, "old", api.ErrLong},
		{label.Text{"old", low, math.MaxInt}, "n", low, "n", api.OK},
		// bytes are counted, not runes, whatever they are
		{label.Text{"old", low, 3}, "\u20ac", low, "\u20ac", api.OK},
		{label.Text{"old", low, 2}, "\u20ac", low, "old", api.ErrLong},
		{label.Text{"old", low, 3}, "\x00\xff\x80", low, "\x00\xff\x80", api.OK},
		{label.Text{"old", low, 2}, "\x00\xff\x80", low, "old", api.ErrLong},
	} {
		was := c.t
		got, err := c.t.Write(c.s, c.by)
		want := label.Text{c.want, was.Label, was.Most}
		if got != want || err != c.err {
			t.Errorf("%+v.Write(%q, %v): %+v, %v; not %+v, %v", was, c.s, c.by, got, err, want, c.err)
		}
		if c.t != was {
			t.Errorf("%+v.Write(%q, %v) changed it: %+v", was, c.s, c.by, c.t)
		}
	}
}

// P1.2: just as many bytes as there may be, one less, one more, at many limits.
func TestWriteLengths(t *testing.T) {
	for _, most := range []int{1, 2, 3, api.MaxTitle, api.MaxString, api.MaxReply} {
		for _, n := range []int{0, most - 1, most, most + 1, 2*most + 1} {
			s := strings.Repeat("b", n)
			old := label.Text{S: "a", Label: low, Most: most}
			got, err := old.Write(s, low)
			if n <= most && (got != label.Text{S: s, Label: low, Most: most} || err != api.OK) {
				t.Errorf("%v of %v: %v", n, most, err)
			}
			if n > most && (got != old || err != api.ErrLong) {
				t.Errorf("%v of %v: %v", n, most, err)
			}
		}
	}
}

// P1.2: reading, and what a level sees.
func TestReadAndSeen(t *testing.T) {
	for _, c := range []struct {
		label, by api.Level
		reads     bool
	}{
		{low, low, true}, {low, high, true}, {low, 7, true},
		{high, low, false}, {high, high, true}, {high, 7, true},
		{7, low, false}, {7, high, true}, {7, 7, true}, {7, 8, true}, {255, low, false}, {255, 2, true},
	} {
		for _, most := range []int{5, 1, 0, -1, math.MinInt, math.MaxInt} {
			x := label.Text{S: "x\x00\xff", Label: c.label, Most: most}
			was, s, e := x, "", api.ErrLevel
			if c.reads {
				s, e = x.S, api.OK
			}
			if got, err := x.Read(c.by); got != s || err != e {
				t.Errorf("%+v.Read(%v): %q, %v", x, c.by, got, err)
			}
			if got := x.Seen(c.by); (got != label.Text{S: s, Label: c.label, Most: most}) {
				t.Errorf("%+v.Seen(%v): %+v", x, c.by, got)
			}
			if x != was {
				t.Errorf("%+v became %+v", was, x)
			}
		}
	}
}

// P1.2: a text without bytes is still not read by who may not read it.
func TestReadNothing(t *testing.T) {
	if s, e := (label.Text{Label: high}).Read(low); s != "" || e != api.ErrLevel {
		t.Error(s, e)
	}
	if s, e := (label.Text{}).Read(low); s != "" || e != api.OK {
		t.Error(s, e)
	}
}

// P1.2: declassified, all is as it was but the label, and Low reads it.
func TestDeclassify(t *testing.T) {
	for _, l := range levels() {
		for _, most := range []int{9, 6, 0, -1} {
			x := label.Text{S: "secret", Label: l, Most: most}
			was := x
			d := x.Declassify()
			if (d != label.Text{S: "secret", Label: low, Most: most}) {
				t.Errorf("%+v: %+v", was, d)
			}
			if x != was {
				t.Errorf("%+v became %+v", was, x)
			}
			if s, e := d.Read(low); s != "secret" || e != api.OK {
				t.Errorf("%+v: %q, %v", was, s, e)
			}
			if _, e := d.Write("x", high); e != api.ErrLevel {
				t.Errorf("%+v: written by High: %v", was, e)
			}
		}
	}
}

// P1.3: the laws of a lattice, of levels that are right; and that rows are joined and met one by one.
func TestLattice(t *testing.T) {
	right := []api.Level{low, high}
	for _, a := range right {
		if label.Join(a, a) != a || label.Meet(a, a) != a {
			t.Errorf("idempotent: %v", a)
		}
		if label.Join(a, label.Join()) != a || label.Meet(a, label.Meet()) != a {
			t.Errorf("least and greatest: %v", a)
		}
		for _, b := range right {
			if label.Join(a, b) != label.Join(b, a) || label.Meet(a, b) != label.Meet(b, a) {
				t.Errorf("commutative: %v %v", a, b)
			}
			if label.Join(a, label.Meet(a, b)) != a || label.Meet(a, label.Join(a, b)) != a {
				t.Errorf("absorbing: %v %v", a, b)
			}
			if label.Flows(a, b) != (label.Join(a, b) == b) || label.Flows(a, b) != (label.Meet(a, b) == a) {
				t.Errorf("order: %v %v", a, b)
			}
			for _, c := range right {
				bounds(t, a, b, c)
			}
		}
	}
}

// bounds: join is the least that both flow to, meet the greatest that flows to both; both are associative.
func bounds(t *testing.T, a, b, c api.Level) {
	t.Helper()
	if label.Flows(label.Join(a, b), c) != (label.Flows(a, c) && label.Flows(b, c)) {
		t.Errorf("least upper bound: %v %v %v", a, b, c)
	}
	if label.Flows(c, label.Meet(a, b)) != (label.Flows(c, a) && label.Flows(c, b)) {
		t.Errorf("greatest lower bound: %v %v %v", a, b, c)
	}
	j, m := label.Join(a, b, c), label.Meet(a, b, c)
	if j != label.Join(label.Join(a, b), c) || j != label.Join(a, label.Join(b, c)) {
		t.Errorf("join of three: %v %v %v", a, b, c)
	}
	if m != label.Meet(label.Meet(a, b), c) || m != label.Meet(a, label.Meet(b, c)) {
		t.Errorf("meet of three: %v %v %v", a, b, c)
	}
}

// P1.3: two texts that Low sees alike stay so, whatever is written; High's writings differ, in bytes and length.
func TestLowSeesAlike(t *testing.T) {
	for _, l := range []api.Level{low, high, 7} {
		for _, most := range []int{-1, 0, 1, 3} {
			a := label.Text{S: "one", Label: l, Most: most}
			b := a
			if l != low {
				b.S = "other"
			}
			writeAlike(t, a, b, 3)
		}
	}
}

// writeAlike: writes all that may be written to both, as many times as depth says, and looks at them behind each writing.
func writeAlike(t *testing.T, a, b label.Text, depth int) {
	t.Helper()
	if a.Seen(low) != b.Seen(low) {
		t.Fatalf("Low tells %+v from %+v", a, b)
	}
	s, e := a.Read(low)
	if s2, e2 := b.Read(low); s != s2 || e != e2 {
		t.Fatalf("Low reads %q, %v of %+v and %q, %v of %+v", s, e, a, s2, e2, b)
	}
	if depth == 0 {
		return
	}
	texts := []string{"", "x", "yyy", "zzzz", "\xff\x00"}
	for _, by := range []api.Level{low, high, 7} {
		for _, s := range texts {
			for _, s2 := range texts {
				if by == low && s != s2 {
					continue
				}
				a2, e := a.Write(s, by)
				b2, e2 := b.Write(s2, by)
				if by == low && e != e2 {
					t.Fatalf("Low, writing %q: %v of %+v, %v of %+v", s, e, a, e2, b)
				}
				if a.Label == low && by != low && e != e2 {
					t.Fatalf("of a Low text, High's writing %q and %q: %v, %v", s, s2, e, e2)
				}
				writeAlike(t, a2, b2, depth-1)
			}
		}
	}
}

// P1: each call ends and none panics, at all levels, lengths and limits.
func TestAllArguments(t *testing.T) {
	limits := []int{math.MinInt, -1, 0, 1, api.MaxString, math.MaxInt}
	texts := []string{"", "a", "\x00\xff", strings.Repeat("a", 1<<20)}
	all := levels()
	label.Right(all...)
	label.Join(all...)
	label.Meet(all...)
	for _, most := range limits {
		for _, s := range texts {
			for n, l := range all {
				x := label.Text{S: s, Label: l, Most: most}
				by := all[len(all)-1-n]
				y, err := x.Write(s, by)
				if y != x {
					t.Fatalf("Label %v, Most %v, %v bytes, by %v: changed", l, most, len(s), by)
				}
				if (err == api.OK) != (label.Flows(by, l) && len(s) <= most) {
					t.Fatalf("Label %v, Most %v, %v bytes, by %v: %v", l, most, len(s), by, err)
				}
				x.Read(by)
				x.Seen(by)
				x.Declassify()
			}
		}
	}
}
