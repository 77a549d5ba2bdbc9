package charset_test

import (
	"math"
	"strconv"
	"strings"
	"testing"

	"marquee/charset"
)

// What Graphics makes of 5F and so on up to 7E, as the document writes it.
const graphicsTold = "20, 25C6, 2592, 2409, 240C, 240D, 240A, B0, B1, 2424, 240B, 2518, 2510, 250C, 2514, 253C, 23BA, 23BB, 2500, 23BC, 23BD, 251C, 2524, 2534, 252C, 2502, 2264, 2265, 3C0, 2260, A3, B7"

// told: what each character set makes of the runes that it changes, by the document's words.
func told(t *testing.T) map[int]map[rune]rune {
	t.Helper()
	graphics := map[rune]rune{}
	for n, s := range strings.Split(graphicsTold, ", ") {
		r, err := strconv.ParseInt(s, 16, 32)
		if err != nil {
			t.Fatal(err)
		}
		graphics[rune(0x5f+n)] = rune(r)
	}
	if len(graphics) != 0x7e-0x5f+1 {
		t.Fatal(len(graphics), "runes are told")
	}
	return map[int]map[rune]rune{charset.ASCII: {}, charset.Graphics: graphics, charset.UK: {0x23: 0xa3}}
}

// farNumbers: sets, places and runes that are none.
func farNumbers() []int {
	return []int{math.MinInt, math.MinInt32, -256, -3, -2, -1, 3, 4, 5, 6, 7, 8, 255, 256, 257, 258, 259, 1 << 16, math.MaxInt32, math.MaxInt}
}

// farRunes: runes round the ends of those that are changed, and numbers far from all runes.
func farRunes() []rune {
	return []rune{math.MinInt32, math.MinInt32 + 0x23, math.MinInt32 + 0x71, -0x71, -0x23, -1, 0, 0x1f, 0x20, 0x22, 0x23, 0x24, 0x5e, 0x5f, 0x60, 0x71, 0x7e, 0x7f, 0x80, 0xa3, 0xb7, 0xdf, 0xf1, 0x123, 0x171, 0x2500, 0xd800, 0xfffd, 0x10023, 0x10071, 0x10ffff, 0x110000, math.MaxInt32}
}

// P5.1: the three are numbered as the document lists them, and ASCII is the zero one.
func TestNumbers(t *testing.T) {
	if charset.ASCII != 0 || charset.Graphics != 1 || charset.UK != 2 {
		t.Error(charset.ASCII, charset.Graphics, charset.UK)
	}
}

// P5.1: all runes, in each character set.
func TestOf(t *testing.T) {
	for set, changed := range told(t) {
		for r := rune(-0x1000); r < 0x111000; r++ {
			want, is := changed[r]
			if !is {
				want = r
			}
			if x := charset.Of(set, r); x != want {
				t.Fatalf("Of(%v, %x): %x, not %x", set, r, x, want)
			}
		}
		for _, r := range farRunes() {
			if _, is := changed[r]; !is && charset.Of(set, r) != r {
				t.Errorf("Of(%v, %x): %x", set, r, charset.Of(set, r))
			}
		}
	}
}

// P5.1: numbers that are no character set leave all runes.
func TestNoSet(t *testing.T) {
	for _, set := range farNumbers() {
		for r := rune(-0x10); r < 0x200; r++ {
			if x := charset.Of(set, r); x != r {
				t.Fatalf("Of(%v, %x): %x", set, r, x)
			}
		}
		for _, r := range farRunes() {
			if x := charset.Of(set, r); x != r {
				t.Errorf("Of(%v, %x): %x", set, r, x)
			}
		}
	}
}

// P5.1: the zero Choice has ASCII at all places, G0 locked, and no single shift asked.
func TestZero(t *testing.T) {
	var c charset.Choice
	if c.Sets() != [4]int{} || c.Now() != 0 {
		t.Error(c.Sets(), c.Now())
	}
	for _, r := range farRunes() {
		if b, x := c.Map(r); b != c || x != r {
			t.Errorf("Map(%x): %v, %x", r, b, x)
		}
	}
}

// act: what is asked of a choice.
type act struct {
	kind  byte // d: Designate, l: Lock, s: Single, m: Map
	place int
	by    byte
	r     rune
}

// done: the choice behind acts, which all must take.
func done(t *testing.T, acts ...act) charset.Choice {
	t.Helper()
	var c charset.Choice
	for _, a := range acts {
		was, is := c, true
		switch a.kind {
		case 'd':
			c, is = c.Designate(a.place, a.by)
		case 'l':
			c, is = c.Lock(a.by)
		case 's':
			c, is = c.Single(a.place)
		default:
			c, _ = c.Map(a.r)
		}
		if !is {
			t.Errorf("%c %v %x of %v: false", a.kind, a.place, a.by, was)
		}
	}
	return c
}

// P5.2, P5.3: the document's examples.
func TestExamples(t *testing.T) {
	c := done(t, act{kind: 'd', place: 1, by: '0'}, act{kind: 'l', by: 0x0e})
	if b, x := c.Map('q'); b != c || x != 0x2500 {
		t.Errorf("q: %x", x)
	}
	if b, x := c.Map('Q'); b != c || x != 'Q' {
		t.Errorf("Q: %x", x)
	}
	c = done(t, act{kind: 'd', place: 2, by: 'A'}, act{kind: 's', place: 2})
	c, x := c.Map('#')
	if x != 0xa3 {
		t.Errorf("the first #: %x", x)
	}
	if b, x := c.Map('#'); b != c || x != '#' {
		t.Errorf("the second #: %x", x)
	}
	var zero charset.Choice
	_, first := zero.Designate(0, 'C')
	_, second := zero.Lock(0x0d)
	_, third := zero.Single(1)
	if first || second || third || zero.Now() != 0 {
		t.Error(first, second, third, zero.Now())
	}
}

// choices: all that there are, found by all acts from the first on.
func choices() []charset.Choice {
	all := []charset.Choice{{}}
	seen := map[charset.Choice]bool{{}: true}
	add := func(c charset.Choice, _ bool) {
		if !seen[c] {
			seen[c] = true
			all = append(all, c)
		}
	}
	for n := 0; n < len(all) && n < 1<<12; n++ {
		for place := range 4 {
			for _, final := range []byte("B0A") {
				add(all[n].Designate(place, final))
			}
		}
		add(all[n].Lock(0x0e))
		add(all[n].Lock(0x0f))
		add(all[n].Single(2))
		add(all[n].Single(3))
		b, _ := all[n].Map('a')
		add(b, true)
	}
	return all
}

// locked: which place is locked, whether or not a single shift is asked.
func locked(c charset.Choice) int {
	b, _ := c.Map('a')
	return b.Now()
}

// P5.2, P5.3: there are as many choices as the words tell apart, and two that are alike are ==.
func TestAlikeAreEqual(t *testing.T) {
	type words struct {
		sets        [4]int
		locked, now int
	}
	all := choices()
	seen := map[words]charset.Choice{}
	for _, c := range all {
		w := words{c.Sets(), locked(c), c.Now()}
		if b, is := seen[w]; is && b != c {
			t.Errorf("%v and %v are alike, and not ==", b, c)
		}
		seen[w] = c
	}
	// Three character sets at four places, two that may be locked, none or one of two single shifts.
	if len(all) != 3*3*3*3*2*3 || len(seen) != len(all) {
		t.Error(len(all), "choices,", len(seen), "to be told apart")
	}
}

// P5.2: of each choice, each place and each byte: the one place changes, and nothing else.
func TestDesignate(t *testing.T) {
	finals := map[byte]int{'B': charset.ASCII, '0': charset.Graphics, 'A': charset.UK}
	for _, c := range choices() {
		for place := range 4 {
			for final := range 256 {
				set, known := finals[byte(final)]
				b, is := c.Designate(place, byte(final))
				if is != known || !is && b != c {
					t.Fatalf("%v: Designate(%v, %x): %v, %v", c, place, final, b, is)
				}
				if !is {
					continue
				}
				sets := c.Sets()
				sets[place] = set
				if b.Sets() != sets || b.Now() != c.Now() || locked(b) != locked(c) {
					t.Fatalf("%v: Designate(%v, %x): %v", c, place, final, b)
				}
			}
		}
	}
}

// P5.2: places that are none.
func TestDesignateNoPlace(t *testing.T) {
	for _, c := range choices() {
		for _, place := range farNumbers() {
			if place == 3 {
				continue
			}
			for _, final := range []byte("B0A1\x00\xff") {
				if b, is := c.Designate(place, final); is || b != c {
					t.Fatalf("%v: Designate(%v, %x): %v, %v", c, place, final, b, is)
				}
			}
		}
	}
}

// P5.2: of each choice, each byte: SO and SI lock; a single shift that was asked stays.
func TestLock(t *testing.T) {
	for _, c := range choices() {
		for control := range 256 {
			b, is := c.Lock(byte(control))
			if known := control == 0x0e || control == 0x0f; is != known || !is && b != c {
				t.Fatalf("%v: Lock(%x): %v, %v", c, control, b, is)
			}
			if !is {
				continue
			}
			want := 1
			if control == 0x0f {
				want = 0
			}
			now := c.Now()
			if now < 2 {
				now = want
			}
			if b.Sets() != c.Sets() || locked(b) != want || b.Now() != now {
				t.Fatalf("%v: Lock(%x): %v", c, control, b)
			}
		}
	}
}

// P5.2: of each choice, each place: G2 and G3 are asked for, instead of what was.
func TestSingle(t *testing.T) {
	for _, c := range choices() {
		for _, place := range append(farNumbers(), 0, 1, 2) {
			b, is := c.Single(place)
			if known := place == 2 || place == 3; is != known || !is && b != c {
				t.Fatalf("%v: Single(%v): %v, %v", c, place, b, is)
			}
			if is && (b.Now() != place || b.Sets() != c.Sets() || locked(b) != locked(c)) {
				t.Fatalf("%v: Single(%v): %v", c, place, b)
			}
		}
	}
}

// P5.3: of each choice: what the place of now makes of runes; a single shift was for the one rune, whatever that is.
func TestMap(t *testing.T) {
	sets := told(t)
	var runes []rune
	for r := rune(0); r < 0x100; r++ {
		runes = append(runes, r)
	}
	runes = append(runes, farRunes()...)
	for _, c := range choices() {
		for _, r := range runes {
			want, is := sets[c.Sets()[c.Now()]][r]
			if !is {
				want = r
			}
			b, x := c.Map(r)
			if x != want {
				t.Fatalf("%v: Map(%x): %x, not %x", c, r, x, want)
			}
			if b.Sets() != c.Sets() || b.Now() > 1 || c.Now() < 2 && b != c {
				t.Fatalf("%v: Map(%x): %v", c, r, b)
			}
			if b2, x := b.Map(r); b2 != b || x != charset.Of(c.Sets()[b.Now()], r) {
				t.Fatalf("%v: Map(%x), the second: %v, %x", c, r, b2, x)
			}
		}
	}
}

// P5.3: a choice stays as it is, whatever is asked of it; a list of its sets is the caller's.
func TestValues(t *testing.T) {
	for _, c := range choices() {
		was := c
		c.Designate(3, '0')
		c.Designate(0, 'A')
		c.Lock(0x0e)
		c.Lock(0x0f)
		c.Single(2)
		c.Single(3)
		c.Map('q')
		sets := c.Sets()
		sets[0], sets[3] = 9, 9
		if c != was {
			t.Fatalf("%v became %v", was, c)
		}
	}
}

// P5.4: unlike runes become unlike ones, but 20 and 5F in Graphics.
func TestUnlikeStayUnlike(t *testing.T) {
	for _, set := range []int{charset.ASCII, charset.Graphics, charset.UK} {
		from := map[rune]rune{}
		for r := rune(0x20); r <= 0x7e; r++ {
			x := charset.Of(set, r)
			if was, is := from[x]; is && !(set == charset.Graphics && was == 0x20 && r == 0x5f) {
				t.Errorf("in %v, %x and %x become %x", set, was, r, x)
			}
			from[x] = r
		}
	}
	if charset.Of(charset.Graphics, 0x20) != charset.Of(charset.Graphics, 0x5f) {
		t.Error("20 and 5F are unlike in Graphics")
	}
}

// P5.4: what is not of U+20 to U+7E is never changed, but uses a single shift up.
func TestSingleShiftIsUsedUp(t *testing.T) {
	for _, r := range []rune{'a', '#', 0xe9, 0x301, 0x4e2d, 7, -1, math.MaxInt32} {
		c := done(t, act{kind: 'd', place: 3, by: '0'}, act{kind: 's', place: 2}, act{kind: 's', place: 3}, act{kind: 'm', r: r})
		if _, x := c.Map('q'); x != 'q' || c.Now() != 0 {
			t.Errorf("behind %x: %x, %v", r, x, c.Now())
		}
	}
}

// modelled: what becomes of the rune of the last act, found by looking back over all acts.
func modelled(sets map[int]map[rune]rune, acts []act) rune {
	last := len(acts) - 1
	place := 0
	for n := last - 1; n >= 0; n-- {
		if a := acts[n]; a.kind == 'l' && (a.by == 0x0e || a.by == 0x0f) {
			place = int(0x0f - a.by)
			break
		}
	}
	for n := last - 1; n >= 0 && acts[n].kind != 'm'; n-- {
		if a := acts[n]; a.kind == 's' && (a.place == 2 || a.place == 3) {
			place = a.place
			break
		}
	}
	set := charset.ASCII
	for n := last - 1; n >= 0; n-- {
		if a := acts[n]; a.kind == 'd' && a.place == place && strings.IndexByte("B0A", a.by) >= 0 {
			set = strings.IndexByte("B0A", a.by)
			break
		}
	}
	if x, is := sets[set][acts[last].r]; is {
		return x
	}
	return acts[last].r
}

// acted: acts of bytes, four an act; not all of them are ones that a choice takes.
func acted(bytes []byte) []act {
	var acts []act
	for ; len(bytes) > 3; bytes = bytes[4:] {
		acts = append(acts, act{"dlsm"[bytes[0]%4], int(int8(bytes[1])), bytes[2], rune(bytes[3])})
	}
	return acts
}

// P5.2, P5.3: any acts, held against what looking back over them says.
func FuzzActs(f *testing.F) {
	f.Add([]byte("\x00\x01000" + "\x01\x00\x0e0" + "\x03\x00\x00q" + "\x03\x00\x00Q"))
	f.Add([]byte("\x00\x02A0" + "\x02\x02\x000" + "\x03\x00\x00#" + "\x03\x00\x00#"))
	f.Add([]byte("\x00\x00C0" + "\x01\x00\x0d0" + "\x02\x01\x000" + "\x03\x00\x00~"))
	f.Add([]byte("\x00\x0300" + "\x00\x0000" + "\x02\x02\x000" + "\x02\x03\x000" + "\x01\x00\x0e0" + "\x00\x01A0" + "\x03\x00\x00\xe9" + "\x03\x00\x00#" + "\x01\x00\x0f0" + "\x03\x00\x00`"))
	f.Add([]byte("\x00\x04A0" + "\x00\xff00" + "\x02\x04\x000" + "\x02\x00\x000" + "\x03\x00\x00#" + "\x03\x00\x00_"))
	f.Fuzz(func(t *testing.T, bytes []byte) {
		sets := told(t)
		acts := acted(bytes)
		var c charset.Choice
		for n, a := range acts {
			switch a.kind {
			case 'd':
				c, _ = c.Designate(a.place, a.by)
			case 'l':
				c, _ = c.Lock(a.by)
			case 's':
				c, _ = c.Single(a.place)
			case 'm':
				b, x := c.Map(a.r)
				if want := modelled(sets, acts[:n+1]); x != want {
					t.Fatalf("%v: %x, not %x", acts[:n+1], x, want)
				}
				c = b
			}
		}
	})
}
