package width_test

import (
	"math"
	"slices"
	"strconv"
	"strings"
	"testing"
	"unicode/utf8"

	"marquee/width"
)

// The ranges, as the document writes them.
const (
	marksTold = "0300-036F 0483-0489 0591-05BD 05BF 05C1-05C2 05C4-05C5 05C7 0610-061A 064B-065F 0670 06D6-06DC 06DF-06E4 06E7-06E8 06EA-06ED 0711 0730-074A 07A6-07B0 0E31 0E34-0E3A 0E47-0E4E 1AB0-1ACE 1DC0-1DFF 200B-200F 202A-202E 2060-2064 20D0-20F0 302A-302D 3099-309A FE00-FE0F FE20-FE2F FEFF E0100-E01EF"
	wideTold  = "1100-115F 2329-232A 2E80-303E 3041-4DBF 4E00-A4C6 AC00-D7A3 F900-FAFF FE10-FE19 FE30-FE6F FF01-FF60 FFE0-FFE6 1F300-1F64F 1F900-1F9FF 20000-2FFFD 30000-3FFFD"
)

// told: the set of runes that ranges name.
func told(t *testing.T, ranges string) map[rune]bool {
	t.Helper()
	set := map[rune]bool{}
	for _, s := range strings.Fields(ranges) {
		from, to, is := strings.Cut(s, "-")
		if !is {
			to = from
		}
		a, err := strconv.ParseInt(from, 16, 32)
		if err != nil {
			t.Fatal(err)
		}
		b, err := strconv.ParseInt(to, 16, 32)
		if err != nil {
			t.Fatal(err)
		}
		for r := rune(a); r <= rune(b); r++ {
			set[r] = true
		}
	}
	return set
}

// unshown: is a rune one of those that are not shown, by the document's words?
func unshown(r rune) bool {
	return r < 0x20 || 0x7f <= r && r <= 0x9f || 0xd800 <= r && r <= 0xdfff || r > 0x10ffff
}

// P4.1: all runes that there are, and many that are none.
func TestAllRunes(t *testing.T) {
	marks, wide := told(t, marksTold), told(t, wideTold)
	for r := rune(-0x1000); r < 0x120000; r++ {
		want := 1
		switch {
		case unshown(r):
			want = -1
		case marks[r]:
			want = 0
		case wide[r]:
			want = 2
		}
		if n := width.Of(r); n != want {
			t.Fatalf("Of(%x): %v, not %v", r, n, want)
		}
		if is := width.Mark(r); is != marks[r] {
			t.Fatalf("Mark(%x): %v", r, is)
		}
		if is := width.Wide(r); is != (wide[r] && !marks[r]) {
			t.Fatalf("Wide(%x): %v", r, is)
		}
	}
}

// P4.1, P1: numbers far from all runes.
func TestFarNumbers(t *testing.T) {
	for bit := range 31 {
		for _, r := range []rune{math.MinInt32 + 1<<bit, -1 << bit, math.MaxInt32 - 1<<bit, math.MinInt32, math.MaxInt32} {
			if unshown(r) && (width.Of(r) != -1 || width.Mark(r) || width.Wide(r)) {
				t.Errorf("%x: %v, %v, %v", r, width.Of(r), width.Mark(r), width.Wide(r))
			}
		}
	}
}

// P4.1: the document's examples, and marks that stand among wide ones.
func TestOf(t *testing.T) {
	for _, c := range []struct {
		r          rune
		of         int
		mark, wide bool
	}{
		{'a', 1, false, false},
		{0x301, 0, true, false},
		{0x4e2d, 2, false, true},
		{0x1f600, 2, false, true},
		{7, -1, false, false},
		{0xe9, 1, false, false},
		{0xfffd, 1, false, false},
		{0, -1, false, false},
		{0x1f, -1, false, false},
		{0x20, 1, false, false},
		{0x7e, 1, false, false},
		{0x7f, -1, false, false},
		{0x9f, -1, false, false},
		{0xa0, 1, false, false},
		{0xad, 1, false, false},
		{0xd7a3, 2, false, true},
		{0xd7ff, 1, false, false},
		{0xd800, -1, false, false},
		{0xdfff, -1, false, false},
		{0xe000, 1, false, false},
		{0x10ffff, 1, false, false},
		{0x110000, -1, false, false},
		{-1, -1, false, false},
		{0x5be, 1, false, false},
		{0x5bf, 0, true, false},
		{0x5c0, 1, false, false},
		{0x3029, 2, false, true},
		{0x302a, 0, true, false},
		{0x302d, 0, true, false},
		{0x302e, 2, false, true},
		{0x303f, 1, false, false},
		{0x3098, 2, false, true},
		{0x3099, 0, true, false},
		{0x309a, 0, true, false},
		{0x309b, 2, false, true},
		{0xfeff, 0, true, false},
		{0x2fffd, 2, false, true},
		{0x2fffe, 1, false, false},
		{0x2ffff, 1, false, false},
		{0x30000, 2, false, true},
		{0x3fffd, 2, false, true},
		{0x3fffe, 1, false, false},
	} {
		if n := width.Of(c.r); n != c.of {
			t.Errorf("Of(%x): %v, not %v", c.r, n, c.of)
		}
		if width.Mark(c.r) != c.mark || width.Wide(c.r) != c.wide {
			t.Errorf("%x: %v, %v", c.r, width.Mark(c.r), width.Wide(c.r))
		}
	}
}

// P4.2: the document's examples, what is not shown, and what is no rune's bytes.
func TestText(t *testing.T) {
	for _, c := range []struct {
		s    string
		want int
	}{
		{"a\u4e2db", 4},
		{"e\u0301", 1},
		{"", 0},
		{"\u0301", 0},
		{"\x1b[m", 2},
		{"\x00\x07\x1f\x7f\u0080\u009f", 0},
		{"\x1ba\x7fb\u0085", 2},
		{"\U0001f600\u0301\ufe0f", 2},
		{"\u3042\u3099\uff21\u1100", 6},
		{"\ufffd", 1},
		{"\xff", 1},
		{"\xe2\x82", 2},
		{"\xe2\x82\xac", 1},
		{"\xe4\xb8\xad", 2},
		{"\xe4\xb8", 2},
		{"\xed\xa0\x80", 3},
		{"\xf4\x90\x80\x80", 4},
		{"\xf0\x9f\x98", 3},
		{"\xf0\x9f\x98\x80", 2},
		{"\xc2\x85", 0},
		{"\xc2", 1},
		{"\x85", 1},
		{strings.Repeat("\u4e2d", 1<<16), 1 << 17},
	} {
		if n := width.Text(c.s); n != c.want {
			t.Errorf("Text(%.40q): %v, not %v", c.s, n, c.want)
		}
	}
}

// P4.2: the document's examples; what takes no column, or is not shown, is taken up to the first rune that would not fit.
func TestFit(t *testing.T) {
	const all = "\u0301\x07a\u0301\x07\u4e2d\u0301\x07"
	for _, c := range []struct {
		s    string
		cols int
		want string
		n    int
	}{
		{"a\u4e2db", 2, "a", 1},
		{"a\u4e2db", 3, "a\u4e2d", 3},
		{"a\u4e2db", 4, "a\u4e2db", 4},
		{"a\u4e2db", 5, "a\u4e2db", 4},
		{"a\u4e2db", 1, "a", 1},
		{"a\u4e2db", 0, "", 0},
		{"a\u4e2db", -1, "", 0},
		{"\u4e2da", 1, "", 0},
		{"", 0, "", 0},
		{"", 9, "", 0},
		{"", -1, "", 0},
		{all, -1, "", 0},
		{all, math.MinInt, "", 0},
		{all, 0, "\u0301\x07", 0},
		{all, 1, "\u0301\x07a\u0301\x07", 1},
		{all, 2, "\u0301\x07a\u0301\x07", 1},
		{all, 3, all, 3},
		{all, math.MaxInt, all, 3},
		{"\x07", -1, "", 0},
		{"\u0301", -1, "", 0},
		{"\x07\u0301", 0, "\x07\u0301", 0},
		{"e\u0301te\u0301", 2, "e\u0301t", 2},
		{"\xe2\x82", 1, "\xe2", 1},
		{"\xe2\x82\xac", 1, "\xe2\x82\xac", 1},
		{"\xe4\xb8\xad", 1, "", 0},
		{"\xe4\xb8", 1, "\xe4", 1},
		{"a\xffb", 2, "a\xff", 2},
		{"a\xff\u0301b", 2, "a\xff\u0301", 2},
		{"ab\xe4", 2, "ab", 2},
	} {
		if s, n := width.Fit(c.s, c.cols); s != c.want || n != c.n {
			t.Errorf("Fit(%q, %v): %q, %v; not %q, %v", c.s, c.cols, s, n, c.want, c.n)
		}
	}
}

// P4.2: the text of runes; those that are not shown are left out, wherever they stand.
func TestShown(t *testing.T) {
	for _, c := range []struct {
		l    []rune
		want string
	}{
		{nil, ""},
		{[]rune{}, ""},
		{[]rune{7}, ""},
		{[]rune{0, 'a', 0x1b, 'b', 0x7f, 0x80, 0x9f}, "ab"},
		{[]rune{'a', 0x301, 0x4e2d, 0x1f600}, "a\u0301\u4e2d\U0001f600"},
		{[]rune{0x301}, "\u0301"},
		{[]rune{0xd7ff, 0xd800, 0xdfff, 0xe000}, "\ud7ff\ue000"},
		{[]rune{0x10ffff, 0x110000, math.MaxInt32, -1, math.MinInt32, 0xa0}, "\U0010ffff\u00a0"},
		{[]rune{0xfffd, 0xfeff}, "\ufffd\ufeff"},
		{[]rune{0xd83d, 0xde00, 'x'}, "x"},
		{[]rune{' ', ' ', '~'}, "  ~"},
	} {
		was := slices.Clone(c.l)
		if s := width.Shown(c.l...); s != c.want {
			t.Errorf("Shown(%x): %q, not %q", c.l, s, c.want)
		}
		if !slices.Equal(c.l, was) {
			t.Errorf("Shown(%x) changes what is handed in: %x", was, c.l)
		}
	}
	if s := width.Shown(); s != "" {
		t.Errorf("of no rune: %q", s)
	}
}

// P4.2: of each rune alone, and between others, its text and how many columns that takes.
func TestTextOfEachRune(t *testing.T) {
	for r := rune(-0x100); r < 0x110100; r++ {
		s := width.Shown(r)
		if unshown(r) {
			if s != "" {
				t.Fatalf("Shown(%x): %q", r, s)
			}
			continue
		}
		if s != string(r) || width.Text(s) != width.Of(r) {
			t.Fatalf("Shown(%x): %q, %v", r, s, width.Text(s))
		}
	}
}

// pieces: runes of each width, what is not shown, and bytes that begin or end a rune without the rest.
func pieces() []string {
	return []string{"a", "\u0301", "\u4e2d", "\x07", "\U0001f600", "\u0085", "\ufffd", "\xff", "\xe4", "\xb8", "\xad", "\xf0\x9f"}
}

// texts: all rows of up to so many pieces.
func texts(most int) []string {
	all, last := []string{""}, []string{""}
	for range most {
		var longer []string
		for _, s := range last {
			for _, p := range pieces() {
				longer = append(longer, s+p)
			}
		}
		all = append(all, longer...)
		last = longer
	}
	return all
}

// P4.3: what fits fits, and with the next rune it does not; what is left is the rest.
func TestWhatFits(t *testing.T) {
	for _, s := range texts(4) {
		whole := width.Text(s)
		for cols := -1; cols <= whole+1; cols++ {
			a, n := width.Fit(s, cols)
			rest, is := strings.CutPrefix(s, a)
			switch {
			case !is || width.Text(a) != n:
				t.Fatalf("Fit(%q, %v): %q, %v", s, cols, a, n)
			case cols < 0:
				if a != "" || n != 0 {
					t.Fatalf("Fit(%q, %v): %q, %v", s, cols, a, n)
				}
			case n > cols || whole <= cols && rest != "":
				t.Fatalf("Fit(%q, %v): %q, %v", s, cols, a, n)
			case rest != "":
				r, size := utf8.DecodeRuneInString(rest)
				if width.Text(a+rest[:size]) <= cols || n+width.Of(r) <= cols {
					t.Fatalf("Fit(%q, %v): %q, %v, but %q fits, too", s, cols, a, n, rest[:size])
				}
			}
			if width.Text(a)+width.Text(rest) != whole {
				t.Fatalf("Fit(%q, %v): %q, and the rest %q: not %v in all", s, cols, a, rest, whole)
			}
		}
	}
}

// P4.3: of a text that ends with a whole rune, and any other one behind it, the Texts add up.
func TestTextsAddUp(t *testing.T) {
	all := texts(2)
	for _, a := range all {
		if r, size := utf8.DecodeLastRuneInString(a); r == utf8.RuneError && size < 2 {
			continue
		}
		for _, b := range all {
			if width.Text(a+b) != width.Text(a)+width.Text(b) {
				t.Fatalf("%q, %q: %v, not %v and %v", a, b, width.Text(a+b), width.Text(a), width.Text(b))
			}
		}
	}
	if width.Text("\xe4\xb8")+width.Text("\xad") == width.Text("\xe4\xb8\xad") {
		t.Error("a rune that is cut takes as many columns as a whole one")
	}
}

// P1: long texts, all limits: each call ends.
func TestLong(t *testing.T) {
	for _, part := range pieces() {
		s := strings.Repeat(part, 1<<14)
		whole := width.Text(s)
		for _, cols := range []int{math.MinInt, -1, 0, 1, whole - 1, whole, whole + 1, math.MaxInt} {
			a, n := width.Fit(s, cols)
			if !strings.HasPrefix(s, a) || n > max(cols, 0) || cols >= whole && a != s {
				t.Errorf("%q, long, in %v: %v bytes, %v", part, cols, len(a), n)
			}
		}
		if l := []rune(s); width.Text(width.Shown(l...)) != whole {
			t.Errorf("%q, long, without what is not shown: not %v columns", part, whole)
		}
	}
}

// P4.2, P4.3: any bytes, and any number of columns.
func FuzzText(f *testing.F) {
	for n, s := range texts(2) {
		f.Add(s, n%5)
	}
	f.Fuzz(func(t *testing.T, s string, cols int) {
		sum := 0
		want, n := "", 0
		for at, r := range s {
			sum += max(width.Of(r), 0)
			if sum <= cols {
				_, size := utf8.DecodeRuneInString(s[at:])
				want, n = s[:at+size], sum
			}
		}
		if width.Text(s) != sum {
			t.Fatalf("Text(%q): %v, not %v", s, width.Text(s), sum)
		}
		if a, m := width.Fit(s, cols); a != want || m != n {
			t.Fatalf("Fit(%q, %v): %q, %v; not %q, %v", s, cols, a, m, want, n)
		}
	})
}
