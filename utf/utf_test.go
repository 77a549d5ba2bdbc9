package utf_test

import (
	"fmt"
	"math"
	"slices"
	"strings"
	"testing"

	"marquee/utf"
)

const bad = utf.Bad

// sequence is a row of ranges of bytes, as the document names it, and how many bits of its first byte count.
type sequence struct {
	places [][2]byte
	bits   int
}

func sequences() []sequence {
	tail := [2]byte{0x80, 0xbf}
	return []sequence{
		{[][2]byte{{0x00, 0x7f}}, 7},
		{[][2]byte{{0xc2, 0xdf}, tail}, 5},
		{[][2]byte{{0xe0, 0xe0}, {0xa0, 0xbf}, tail}, 4},
		{[][2]byte{{0xe1, 0xec}, tail, tail}, 4},
		{[][2]byte{{0xee, 0xee}, tail, tail}, 4},
		{[][2]byte{{0xef, 0xef}, tail, tail}, 4},
		{[][2]byte{{0xed, 0xed}, {0x80, 0x9f}, tail}, 4},
		{[][2]byte{{0xf0, 0xf0}, {0x90, 0xbf}, tail, tail}, 3},
		{[][2]byte{{0xf1, 0xf3}, tail, tail, tail}, 3},
		{[][2]byte{{0xf4, 0xf4}, {0x80, 0x8f}, tail, tail}, 3},
	}
}

// begins is how many places of q the first bytes of s fill.
func (q sequence) begins(s string) int {
	n := 0
	for n < len(s) && n < len(q.places) && q.places[n][0] <= s[n] && s[n] <= q.places[n][1] {
		n++
	}
	return n
}

// runeOf: the number that the bits of a whole sequence make.
func (q sequence) runeOf(s string) rune {
	r := int(s[0]) % (1 << q.bits)
	for n := 1; n < len(q.places); n++ {
		r = r*64 + int(s[n])%64
	}
	return rune(r)
}

// meaning: what bytes mean, by the document's words, and how many of them at the end are the beginning of a sequence whose end is still to come.
func meaning(s string) (l []rune, held int) {
	for len(s) > 0 {
		longest, r := 0, bad
		for _, q := range sequences() {
			n := q.begins(s)
			longest = max(longest, n)
			if n == len(q.places) {
				r = q.runeOf(s)
			}
		}
		if longest == len(s) && r == bad && !whole(s) {
			held = longest
		}
		l = append(l, r)
		s = s[max(longest, 1):]
	}
	return l, held
}

// whole: is all of s one sequence?
func whole(s string) bool {
	for _, q := range sequences() {
		if len(s) == len(q.places) && q.begins(s) == len(s) {
			return true
		}
	}
	return false
}

// valid: has a rune a sequence, by its number?
func valid(r rune) bool {
	return 0 <= r && r <= 0x10ffff && !(0xd800 <= r && r <= 0xdfff)
}

// pushed: what a new decoder makes of bytes, one by one, and the decoder behind them.
func pushed(t *testing.T, s string) (utf.Decoder, []rune) {
	t.Helper()
	var d utf.Decoder
	var all []rune
	for n := range len(s) {
		was, before := d, d.Pending()
		next, l := d.Push(s[n])
		if d != was || d.Pending() != before {
			t.Fatalf("% x: the decoder that byte %v is pushed to is changed", s, n)
		}
		if again, m := d.Push(s[n]); again != next || !slices.Equal(l, m) {
			t.Fatalf("% x: byte %v again: %U, not %U", s, n, m, l)
		}
		if len(l) > 2 || next.Pending() > 3 || next.Pending() < 0 {
			t.Fatalf("% x: byte %v: %U, and %v held", s, n, l, next.Pending())
		}
		d = next
		all = append(all, l...)
	}
	return d, all
}

// agree: do Push, End, Pending and Decode make of s what it means?
func agree(t *testing.T, s string) {
	t.Helper()
	want, held := meaning(s)
	d, l := pushed(t, s)
	known := want
	if held > 0 {
		known = want[:len(want)-1]
	}
	if !slices.Equal(l, known) || d.Pending() != held {
		t.Fatalf("% x, pushed: %U, %v held; not %U, %v held", s, l, d.Pending(), known, held)
	}
	end, rest := d.End()
	if end != (utf.Decoder{}) || !slices.Equal(append(l, rest...), want) {
		t.Fatalf("% x: %U at the end, %v held", s, rest, end.Pending())
	}
	if l := utf.Decode(s); !slices.Equal(l, want) {
		t.Fatalf("Decode(% x): %U; not %U", s, l, want)
	}
	if len(want) > len(s) || 4*len(want) < len(s) {
		t.Fatalf("% x: %v runes", s, len(want))
	}
	if !slices.Contains(want, bad) && utf.Encode(want...) != s {
		t.Fatalf("% x: encoded again: % x", s, utf.Encode(want...))
	}
}

// P3.1, P3.2: the document's examples, and bytes near to them.
func TestExamples(t *testing.T) {
	for _, c := range []struct {
		bytes string
		want  []rune
	}{
		{"\x61\xc3\xa9\xe2\x82\xac\xf0\x9f\x98\x80", []rune{0x61, 0xe9, 0x20ac, 0x1f600}},
		{"\xe2\x82\x41", []rune{bad, 0x41}},
		{"\xc0\xaf", []rune{bad, bad}},
		{"\xe0\x80\x80", []rune{bad, bad, bad}},
		{"\xf4\x90", []rune{bad, bad}},
		{"\xed\xa0\x80", []rune{bad, bad, bad}},
		{"\xf0\x9f\x98", []rune{bad}},
		{"", nil},
		{"\x00", []rune{0}},
		{"\x00\x00\x00\x00\x00", []rune{0, 0, 0, 0, 0}},
		{"\x7f\x80", []rune{0x7f, bad}},
		{"\xc1\xbf", []rune{bad, bad}},
		{"\xc2\x80", []rune{0x80}},
		{"\xdf\xbf", []rune{0x7ff}},
		{"\xe0\x9f\xbf", []rune{bad, bad, bad}},
		{"\xe0\xa0\x80", []rune{0x800}},
		{"\xed\x9f\xbf", []rune{0xd7ff}},
		{"\xed\xbf\xbf", []rune{bad, bad, bad}},
		{"\xee\x80\x80", []rune{0xe000}},
		{"\xef\xbb\xbf", []rune{0xfeff}},
		{"\xef\xbf\xbd", []rune{bad}},
		{"\xef\xbf\xbf", []rune{0xffff}},
		{"\xf0\x8f\xbf\xbf", []rune{bad, bad, bad, bad}},
		{"\xf0\x90\x80\x80", []rune{0x10000}},
		{"\xf4\x8f\xbf\xbf", []rune{0x10ffff}},
		{"\xf4\x90\x80\x80", []rune{bad, bad, bad, bad}},
		{"\xf5\x80\x80\x80", []rune{bad, bad, bad, bad}},
		{"\xf8\x88\x80\x80\x80", []rune{bad, bad, bad, bad, bad}},
		{"\xff\xfe", []rune{bad, bad}},
		{"\xc3\xc3\xa9", []rune{bad, 0xe9}},
		{"\xe2\x82\xe2\x82\xac", []rune{bad, 0x20ac}},
		{"\xf0\x9f\x98\xf0\x9f\x98\x80", []rune{bad, 0x1f600}},
		{"\xf0\x9f\x98\xff\x41", []rune{bad, bad, 0x41}},
		{"\xf0\x9f\x98\x80\x80", []rune{0x1f600, bad}},
		{"\xe2\x82\x00", []rune{bad, 0}},
	} {
		if l := utf.Decode(c.bytes); !slices.Equal(l, c.want) {
			t.Errorf("Decode(% x): %U; not %U", c.bytes, l, c.want)
		}
		agree(t, c.bytes)
	}
}

// P3.1: when runes are known, and how many bytes are held meanwhile.
func TestPush(t *testing.T) {
	for _, c := range []struct {
		bytes string
		runes [][]rune
		held  []int
		end   []rune
	}{
		{"\xf0\x9f\x98", [][]rune{nil, nil, nil}, []int{1, 2, 3}, []rune{bad}},
		{"\xf0\x9f\x98\x80", [][]rune{nil, nil, nil, {0x1f600}}, []int{1, 2, 3, 0}, nil},
		{"\xe2\x82\x41", [][]rune{nil, nil, {bad, 0x41}}, []int{1, 2, 0}, nil},
		{"\xe2\x82\xff", [][]rune{nil, nil, {bad, bad}}, []int{1, 2, 0}, nil},
		{"\xe2\x82\xc3", [][]rune{nil, nil, {bad}}, []int{1, 2, 1}, []rune{bad}},
		{"\xe2\x82\x00", [][]rune{nil, nil, {bad, 0}}, []int{1, 2, 0}, nil},
		{"\xe0\x80\x80", [][]rune{nil, {bad, bad}, {bad}}, []int{1, 0, 0}, nil},
		{"\xed\xa0\x80", [][]rune{nil, {bad, bad}, {bad}}, []int{1, 0, 0}, nil},
		{"\xf4\x90", [][]rune{nil, {bad, bad}}, []int{1, 0}, nil},
		{"\xc0\xaf", [][]rune{{bad}, {bad}}, []int{0, 0}, nil},
		{"\xc3\xa9\xa9", [][]rune{nil, {0xe9}, {bad}}, []int{1, 0, 0}, nil},
		{"a\x00", [][]rune{{'a'}, {0}}, []int{0, 0}, nil},
		{"", nil, nil, nil},
	} {
		var d utf.Decoder
		for n := range len(c.bytes) {
			var l []rune
			d, l = d.Push(c.bytes[n])
			if !slices.Equal(l, c.runes[n]) || d.Pending() != c.held[n] {
				t.Errorf("% x: byte %v: %U, %v held; not %U, %v held", c.bytes, n, l, d.Pending(), c.runes[n], c.held[n])
			}
		}
		end, l := d.End()
		if !slices.Equal(l, c.end) || end != (utf.Decoder{}) || end.Pending() != 0 {
			t.Errorf("% x: at the end %U, %v held", c.bytes, l, end.Pending())
		}
	}
}

// P3.1: the zero decoder has read nothing, and one that is ended goes on as it does.
func TestZero(t *testing.T) {
	var d utf.Decoder
	if d.Pending() != 0 {
		t.Error("the zero decoder holds", d.Pending())
	}
	if e, l := d.End(); e != d || len(l) > 0 {
		t.Errorf("the zero decoder ends with %U", l)
	}
	for _, s := range beginnings() {
		d, _ := pushed(t, s)
		e, l := d.End()
		if want := min(len(s), 1); len(l) != want || e != (utf.Decoder{}) {
			t.Errorf("% x: ends with %U", s, l)
		}
		if d.Pending() != len(s) {
			t.Errorf("% x: the decoder that is ended holds %v", s, d.Pending())
		}
		if _, l := e.Push(0x80); !slices.Equal(l, []rune{bad}) {
			t.Errorf("% x: behind the end, a byte that begins nothing: %U", s, l)
		}
	}
}

// beginnings: nothing, and each row of bytes that is the beginning of a sequence, but none itself.
func beginnings() []string {
	l := []string{""}
	for _, q := range sequences() {
		rows := []string{""}
		for _, p := range q.places[:len(q.places)-1] {
			var longer []string
			for _, s := range rows {
				for b := int(p[0]); b <= int(p[1]); b++ {
					longer = append(longer, s+string([]byte{byte(b)}))
				}
			}
			rows = longer
			l = append(l, rows...)
		}
	}
	return l
}

// P3.1: two decoders are == just if they hold alike, whatever came ahead.
func TestHeldAlike(t *testing.T) {
	by := map[utf.Decoder]string{}
	for _, s := range beginnings() {
		d, _ := pushed(t, s)
		if other, is := by[d]; is {
			t.Fatalf("% x and % x are held alike", s, other)
		}
		by[d] = s
	}
	for _, ahead := range []string{"a", "\xc3\xa9", "\xe2\x82\xac", "\xf0\x9f\x98\x80", "\xf0\x9f\x98", "\xe2\x82", "\xc3", "\xff", "\x00", "\xf4\x90", "\xe0\x80"} {
		for _, s := range []string{"", "\xc3", "\xe2", "\xe2\x82", "\xf0\x9f\x98", "\xf0\x90", "\xed\x9f"} {
			d, l := pushed(t, ahead+s)
			_, held := meaning(ahead)
			if s == "" && held > 0 {
				continue
			}
			if by[d] != s || d.Pending() != len(s) {
				t.Errorf("% x behind % x (%U): holds % x", s, ahead, l, by[d])
			}
		}
	}
}

// P3.1: behind each beginning, each byte.
func TestEachByteBehind(t *testing.T) {
	some := []byte{0x00, 0x1b, 0x41, 0x7f, 0x80, 0x8f, 0x90, 0x9f, 0xa0, 0xbf, 0xc0, 0xc1, 0xc2, 0xdf, 0xe0, 0xec, 0xed, 0xef, 0xf0, 0xf4, 0xf5, 0xff}
	for _, s := range beginnings() {
		for b := range 256 {
			if len(s) > 2 && !slices.Contains(some, byte(b)) {
				continue
			}
			x := s + string([]byte{byte(b)})
			want, held := meaning(x)
			d, l := pushed(t, x)
			if held > 0 {
				want = want[:len(want)-1]
			}
			if d.Pending() != held || !slices.Equal(l, want) {
				t.Fatalf("% x: %U, %v held; not %U, %v held", x, l, d.Pending(), want, held)
			}
		}
	}
}

// P3.1, P3.2, P3.3: all rows of a byte, of two, and of up to four at the ranges' edges.
func TestAllRows(t *testing.T) {
	all := make([]byte, 256)
	for b := range all {
		all[b] = byte(b)
	}
	edges := []byte{0x00, 0x7f, 0x80, 0x8f, 0x90, 0x9f, 0xa0, 0xbf, 0xc1, 0xc2, 0xdf, 0xe0, 0xe1, 0xec, 0xed, 0xee, 0xef, 0xf0, 0xf1, 0xf3, 0xf4, 0xf5, 0xff}
	rows(all, 2, "", func(s string) { agree(t, s) })
	rows(edges, 3, "", func(s string) { agree(t, s) })
	rows([]byte{0x41, 0x80, 0x90, 0xa0, 0xc3, 0xe0, 0xe2, 0xed, 0xf0, 0xf1, 0xf4, 0xff}, 5, "", func(s string) {
		want, _ := meaning(s)
		if l := utf.Decode(s); !slices.Equal(l, want) {
			t.Fatalf("Decode(% x): %U; not %U", s, l, want)
		}
	})
}

// rows: all rows of up to so many of these bytes.
func rows(of []byte, most int, s string, tell func(string)) {
	tell(s)
	if most == 0 {
		return
	}
	for _, b := range of {
		rows(of, most-1, s+string([]byte{b}), tell)
	}
}

// P3.2: Decode takes all texts as one, wherever they are cut.
func TestDecodeTexts(t *testing.T) {
	if l := utf.Decode(); len(l) > 0 {
		t.Errorf("of no text: %U", l)
	}
	if l := utf.Decode("", "", ""); len(l) > 0 {
		t.Errorf("of empty texts: %U", l)
	}
	for _, s := range []string{
		"a\xc3\xa9\xe2\x82\xac\xf0\x9f\x98\x80",
		"\xe2\x82\x41\xf0\x9f\x98",
		"\xf0\x9f\x98\xf0\x9f\x98\x80\xe0\x80\x80",
		"\xc3\xc3\xa9\x00\xff\xed\xa0\x80",
	} {
		want, _ := meaning(s)
		for a := range len(s) + 1 {
			for b := a; b <= len(s); b++ {
				if l := utf.Decode(s[:a], s[a:b], "", s[b:]); !slices.Equal(l, want) {
					t.Errorf("% x, cut at %v and %v: %U; not %U", s, a, b, l, want)
				}
			}
		}
		if l := utf.Decode(strings.Split(s, "")...); !slices.Equal(l, want) {
			t.Errorf("% x, in its parts: %U; not %U", s, l, want)
		}
		twice, _ := meaning(s + s)
		if l := utf.Decode(s, s); !slices.Equal(l, twice) {
			t.Errorf("% x, twice: %U; not %U", s, l, twice)
		}
	}
}

// P3.2: which runes have a sequence; what each is encoded as.
func TestRunes(t *testing.T) {
	for r := rune(-0x100); r < 0x110100; r++ {
		s := utf.Encode(r)
		if utf.Is(r) != valid(r) {
			t.Fatalf("Is(%x): %v", r, utf.Is(r))
		}
		if !valid(r) {
			if s != "\xef\xbf\xbd" {
				t.Fatalf("Encode(%x): % x", r, s)
			}
			continue
		}
		if !whole(s) {
			t.Fatalf("Encode(%x): % x is no sequence", r, s)
		}
		if l := utf.Decode(s); len(l) != 1 || l[0] != r {
			t.Fatalf("Encode(%x): % x, decoded %U", r, s, l)
		}
	}
	for _, r := range []rune{math.MinInt32, math.MinInt32 + 1, -1 << 16, -1, 0xd800, 0xdbff, 0xdc00, 0xdfff, 0x110000, 0x1fffff, 0x200000, 1 << 24, math.MaxInt32 - 1, math.MaxInt32} {
		if utf.Is(r) || utf.Encode(r) != "\xef\xbf\xbd" {
			t.Errorf("%x: %v, % x", r, utf.Is(r), utf.Encode(r))
		}
	}
}

// P3.2: the bytes of runes, one behind the other.
func TestEncode(t *testing.T) {
	for _, c := range []struct {
		runes []rune
		want  string
	}{
		{nil, ""},
		{[]rune{}, ""},
		{[]rune{0}, "\x00"},
		{[]rune{0x61, 0xe9, 0x20ac, 0x1f600}, "\x61\xc3\xa9\xe2\x82\xac\xf0\x9f\x98\x80"},
		{[]rune{0x7f, 0x80, 0x7ff, 0x800}, "\x7f\xc2\x80\xdf\xbf\xe0\xa0\x80"},
		{[]rune{0xd7ff, 0xd800, 0xdfff, 0xe000}, "\xed\x9f\xbf\xef\xbf\xbd\xef\xbf\xbd\xee\x80\x80"},
		{[]rune{0xffff, 0x10000, 0x10ffff, 0x110000}, "\xef\xbf\xbf\xf0\x90\x80\x80\xf4\x8f\xbf\xbf\xef\xbf\xbd"},
		{[]rune{bad, -1, 'a'}, "\xef\xbf\xbd\xef\xbf\xbda"},
		{[]rune{0xd83d, 0xde00}, "\xef\xbf\xbd\xef\xbf\xbd"},
	} {
		if s := utf.Encode(c.runes...); s != c.want {
			t.Errorf("Encode(%x): % x; not % x", c.runes, s, c.want)
		}
	}
	if utf.Encode() != "" {
		t.Error("of no rune there are bytes")
	}
}

// P3.3: what is encoded is decoded again, whatever stands beside each other.
func TestEncodedIsDecoded(t *testing.T) {
	of := []rune{0, 0x1b, 'a', 0x7f, 0x80, 0xe9, 0x7ff, 0x800, 0xd7ff, 0xe000, bad, 0xffff, 0x10000, 0x1f600, 0x10ffff}
	for _, a := range of {
		for _, b := range of {
			for _, c := range of {
				want := []rune{a, b, c}
				if l := utf.Decode(utf.Encode(want...)); !slices.Equal(l, want) {
					t.Fatalf("%U: %U", want, l)
				}
			}
		}
	}
}

// P3.3: a long text, whole and cut into chunks of each size; as many runes as bytes at most, and a fourth at least.
func TestLong(t *testing.T) {
	for _, part := range []string{"a", "\xf0\x9f\x98\x80", "\xff", "\xf0\x9f\x98", "\xe2\x82\xac\x80", "\xf4\x8f\xbf\xc3\xa9"} {
		s := strings.Repeat(part, 3000)
		want, _ := meaning(s)
		for size := 1; size < 9; size++ {
			var cut []string
			for rest := s; len(rest) > 0; rest = rest[min(size, len(rest)):] {
				cut = append(cut, rest[:min(size, len(rest))])
			}
			if l := utf.Decode(cut...); !slices.Equal(l, want) {
				t.Errorf("% x, in chunks of %v: %v runes; not %v", part, size, len(l), len(want))
			}
		}
		if len(want) > len(s) || 4*len(want) < len(s) {
			t.Errorf("% x: %v runes of %v bytes", part, len(want), len(s))
		}
	}
}

// P1, and the rules: what is handed in stays as it is; what is answered is the caller's.
func TestKept(t *testing.T) {
	texts, runes := []string{"\xe2\x82", "\xac"}, []rune{0x20ac, -1, 'a'}
	l := utf.Decode(texts...)
	l[0] = 'x'
	if m := utf.Decode(texts...); !slices.Equal(m, []rune{0x20ac}) || texts[0] != "\xe2\x82" || texts[1] != "\xac" {
		t.Errorf("%U, %q", m, texts)
	}
	if s := utf.Encode(runes...); s != "\xe2\x82\xac\xef\xbf\xbda" || !slices.Equal(runes, []rune{0x20ac, -1, 'a'}) {
		t.Errorf("% x, %x", s, runes)
	}
	d, _ := pushed(t, "\xe2\x82")
	_, one := d.Push('a')
	_, two := d.Push('a')
	one[0], one[1] = 'x', 'y'
	if !slices.Equal(two, []rune{bad, 'a'}) {
		t.Errorf("%U", two)
	}
	if e, l := d.End(); e != (utf.Decoder{}) || !slices.Equal(l, []rune{bad}) || d.Pending() != 2 {
		t.Errorf("%U, %v held", l, d.Pending())
	}
	if next, l := d.Push(0xac); next.Pending() != 0 || !slices.Equal(l, []rune{0x20ac}) {
		t.Errorf("%U, %v held", l, next.Pending())
	}
}

// P3.2: what stands for what is none has a sequence itself.
func TestBad(t *testing.T) {
	if bad != 0xfffd || !utf.Is(bad) || utf.Encode(bad) != "\xef\xbf\xbd" {
		t.Error(fmt.Sprintf("%U", bad), utf.Is(bad))
	}
}

// P3.1, P3.2, P3.3: any bytes.
func FuzzBytes(f *testing.F) {
	for _, s := range beginnings()[:99] {
		f.Add(s + "\x80a")
	}
	f.Fuzz(func(t *testing.T, s string) { agree(t, s) })
}
