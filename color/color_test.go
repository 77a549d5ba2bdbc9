package color_test

import (
	"fmt"
	"math"
	"slices"
	"strconv"
	"strings"
	"testing"

	"marquee/api"
	"marquee/color"
)

type value = color.Value

// P2.1: specs that are, the document's examples and each number of digits beside each other one.
func TestParse(t *testing.T) {
	for _, c := range []struct {
		spec string
		want value
	}{
		{"rgb:f/80/fff0", value{0xffff, 0x8080, 0xfff0}},
		{"#abc", value{0xaaaa, 0xbbbb, 0xcccc}},
		{"#00ff7F", value{0, 0xffff, 0x7f7f}},
		{"rgb:0/0/0", value{}},
		{"rgb:1/2/3", value{0x1111, 0x2222, 0x3333}},
		{"rgb:12/34/56", value{0x1212, 0x3434, 0x5656}},
		{"rgb:123/456/789", value{0x1231, 0x4564, 0x7897}},
		{"rgb:abc/def/f0f", value{0xabca, 0xdefd, 0xf0ff}},
		{"rgb:100/001/010", value{0x1001, 0x0010, 0x0100}},
		{"rgb:1234/5678/9abc", value{0x1234, 0x5678, 0x9abc}},
		{"rgb:0001/0002/ffff", value{1, 2, 65535}},
		{"rgb:0/00/000", value{}},
		{"rgb:000/0000/0", value{}},
		{"rgb:1/12/123", value{0x1111, 0x1212, 0x1231}},
		{"rgb:123/1/1234", value{0x1231, 0x1111, 0x1234}},
		{"rgb:ABCD/Ef/aF", value{0xabcd, 0xefef, 0xafaf}},
		{"rgb:8/7/6", value{0x8888, 0x7777, 0x6666}},
		{"#000", value{}},
		{"#123", value{0x1111, 0x2222, 0x3333}},
		{"#FfF", value{0xffff, 0xffff, 0xffff}},
		{"#123456", value{0x1212, 0x3434, 0x5656}},
		{"#ABCDEF", value{0xabab, 0xcdcd, 0xefef}},
		{"#010203", value{0x0101, 0x0202, 0x0303}},
	} {
		if v, is := color.Parse(c.spec); !is || v != c.want {
			t.Errorf("Parse(%q): %x, %v; not %x", c.spec, v, is, c.want)
		}
	}
}

// P2.1: what is no spec, be it ever so near to one, is none, and its value is zero.
func TestParseNone(t *testing.T) {
	none := []string{
		"rgb:1/2", "red", "#abcd",
		"", "#", "rgb", "rgb:", "rgb:/", "rgb://", "rgb:///", "rgb:////",
		"rgb:1", "rgb:1/", "rgb:1/2/", "rgb:/2/3", "rgb:1//3", "rgb://3", "rgb:/1/2/3", "rgb:1/2/3/", "rgb:1/2/3/4", "rgb:1//2/3",
		"rgb:12345/1/1", "rgb:1/12345/1", "rgb:1/1/12345", "rgb:00001/1/1", "rgb:1/1/00000",
		"rgb:g/0/0", "rgb:0/g/0", "rgb:0/0/g", "rgb:0/0/0g", "rgb:G/0/0", "rgb:0/G/0", "rgb:0/0/@", "rgb:`/0/0",
		"rgb: 1/2/3", "rgb:1/2/3 ", " rgb:1/2/3", "rgb:1 /2/3", "rgb:+1/2/3", "rgb:-1/2/3", "rgb:0x1/2/3", "rgb:1_1/2/3", "rgb:1.0/2/3",
		"RGB:1/2/3", "Rgb:1/2/3", "rgB:1/2/3", "rgb;1/2/3", "rgb1/2/3", ":1/2/3", "1/2/3", "rgb:1:2:3", "rgb:1,2,3", "rgb:1;2;3", "rgba:1/2/3", "rgb:123", "rgb:123456",
		"rgb:1/2/3\x00", "\x00rgb:1/2/3", "rgb:\x00/2/3", "rgb:1/2/3\n", "rgb:\xff/2/3", "rgb:\u0661/2/3", "rgb:\uff11/2/3",
		"rgbi:1/1/1", "rgb:rgb:1/2/3", "#rgb:1/2/3", "rgb:#123", "##abc", "#abc#",
		"abc", "abcdef", "#a", "#ab", "#abcde", "#abcdefa", "#abcdefabc", "#abcdefabcdef", "#1/2/3", "#1/2", "#12/34/56", "#//", "#+12",
		"#ggg", "#abg", "#gbc", "#agc", "#00000g", "#0000g0", "#g00000", "#-12", "#0x1", " #abc", "#abc ", "# abc", "#abc\n", "#\x00\x00\x00", "#\u00e9a", "#\u00e9\u00e9\u00e9", "#\xff\xff\xff",
		"?", "default", "rgb:?", strings.Repeat("/", 1<<16), "#" + strings.Repeat("0", 1<<20), "rgb:" + strings.Repeat("0", 1<<20), "rgb:0/0/" + strings.Repeat("0", 1<<20), "rgb:" + strings.Repeat("0/", 1<<20),
	}
	for _, s := range none {
		if v, is := color.Parse(s); is || v != (value{}) {
			t.Errorf("Parse(%.40q): %x, %v", s, v, is)
		}
	}
}

// partOf: the part of digits, as the document says it, from their number and how many there are.
func partOf(d, digits int) uint16 {
	switch digits {
	case 1:
		return uint16(d * 0x1111)
	case 2:
		return uint16(d * 0x0101)
	case 3:
		return uint16(d*16 + d/256)
	}
	return uint16(d)
}

// P2.1, P2.4: all numbers of all rows of digits, in each of the three parts; parts rise with their digits.
func TestAllDigits(t *testing.T) {
	for digits := 1; digits <= 4; digits++ {
		last := -1
		for d := range 1 << (4 * digits) {
			s := fmt.Sprintf("%0*x", digits, d)
			if d%3 == 1 {
				s = strings.ToUpper(s)
			}
			place := d % 3
			rows := []string{"0", "00", "0000"}
			rows[place] = s
			var want value
			want[place] = partOf(d, digits)
			v, is := color.Parse("rgb:" + strings.Join(rows, "/"))
			if !is || v != want {
				t.Fatalf("%v: %x, %v; not %x", rows, v, is, want)
			}
			if int(v[place]) <= last {
				t.Fatalf("%v: %x does not rise from %x", rows, v[place], last)
			}
			last = int(v[place])
		}
		if last != 65535 {
			t.Errorf("the greatest part of %v digits: %x", digits, last)
		}
	}
}

// P2.1: which bytes are digits, in each place that there is for one.
func TestWhichDigits(t *testing.T) {
	for _, spec := range []string{"#012", "#012345", "rgb:0/1/2", "rgb:0123/4567/89ab"} {
		from := strings.IndexAny(spec, ":#") + 1
		for n := from; n < len(spec); n++ {
			if spec[n] == '/' {
				continue
			}
			for c := range 256 {
				b := []byte(spec)
				b[n] = byte(c)
				_, want := digitOf(byte(c))
				if v, is := color.Parse(string(b)); is != want || !is && v != (value{}) {
					t.Errorf("Parse(%q): %x, %v", b, v, is)
				}
			}
		}
	}
}

func digitOf(c byte) (int, bool) {
	n := strings.IndexByte("0123456789abcdefABCDEF", c)
	if n > 15 {
		n -= 6
	}
	return n, n >= 0
}

// P2.1: a byte changed or taken away in front of the digits, or between them, leaves no spec.
func TestNearlySpecs(t *testing.T) {
	for _, spec := range []string{"rgb:11/22/33", "#112"} {
		begin := strings.IndexAny(spec, ":#")
		for n := range len(spec) {
			if _, is := digitOf(spec[n]); is && n > begin {
				continue
			}
			for c := range 256 {
				if byte(c) == spec[n] {
					continue
				}
				s := spec[:n] + string([]byte{byte(c)}) + spec[n+1:]
				if v, is := color.Parse(s); is || v != (value{}) {
					t.Errorf("Parse(%q): %x, %v", s, v, is)
				}
			}
			s := spec[:n] + spec[n+1:]
			if v, is := color.Parse(s); is || v != (value{}) {
				t.Errorf("Parse(%q): %x, %v", s, v, is)
			}
		}
	}
}

// P2.1: how values are written.
func TestFormat(t *testing.T) {
	for _, c := range []struct {
		v    value
		want string
	}{
		{value{1, 2, 65535}, "rgb:0001/0002/ffff"},
		{value{}, "rgb:0000/0000/0000"},
		{value{0xabcd, 0xef01, 0x2345}, "rgb:abcd/ef01/2345"},
		{value{0x6789, 0x0f0f, 0xf0f0}, "rgb:6789/0f0f/f0f0"},
		{value{0x1000, 0x0100, 0x0010}, "rgb:1000/0100/0010"},
		{value{65535, 65535, 65535}, "rgb:ffff/ffff/ffff"},
	} {
		if got := color.Format(c.v); got != c.want {
			t.Errorf("Format(%x): %q, not %q", c.v, got, c.want)
		}
	}
}

// P2.1, P2.4: what is written is as the document says it, and is read again: each part, in each place.
func TestWrittenIsRead(t *testing.T) {
	for p := range 65536 {
		v := value{uint16(p), uint16(p * 257), uint16(p ^ 0xa5c3)}
		s := color.Format(v)
		if s != fmt.Sprintf("rgb:%04x/%04x/%04x", v[0], v[1], v[2]) {
			t.Fatalf("Format(%x): %q", v, s)
		}
		if w, is := color.Parse(s); !is || w != v {
			t.Fatalf("Parse(%q): %x, %v", s, w, is)
		}
	}
}

// P2.4: white is the greatest part by however many digits it is told.
func TestWhite(t *testing.T) {
	white := value{65535, 65535, 65535}
	specs := []string{"#fff", "#ffffff", "#FFF", "#FFFFFF"}
	for _, r := range []string{"f", "ff", "fff", "ffff"} {
		for _, g := range []string{"f", "ff", "fff", "ffff"} {
			for _, b := range []string{"F", "FF", "FFF", "FFFF"} {
				specs = append(specs, "rgb:"+r+"/"+g+"/"+b)
			}
		}
	}
	for _, s := range specs {
		if v, is := color.Parse(s); !is || v != white {
			t.Errorf("Parse(%q): %x, %v", s, v, is)
		}
	}
}

// palette: the palette at first, in digits, written out as the document says it.
func palette() []string {
	all := strings.Fields("000000 cd0000 00cd00 cdcd00 0000ee cd00cd 00cdcd e5e5e5 7f7f7f ff0000 00ff00 ffff00 5c5cff ff00ff 00ffff ffffff")
	steps := []string{"00", "5f", "87", "af", "d7", "ff"}
	for _, r := range steps {
		for _, g := range steps {
			for _, b := range steps {
				all = append(all, r+g+b)
			}
		}
	}
	for p := 8; p <= 238; p += 10 {
		all = append(all, fmt.Sprintf("%02x%02x%02x", p, p, p))
	}
	return all
}

// sixDigits: the value of six digits, by another way than the package's.
func sixDigits(t *testing.T, s string) value {
	t.Helper()
	var v value
	for n := range v {
		p, err := strconv.ParseUint(s[2*n:2*n+2], 16, 8)
		if err != nil {
			t.Fatal(err)
		}
		v[n] = uint16(p) * 257
	}
	return v
}

// P2.2: each of the palette's colours at first.
func TestDefault(t *testing.T) {
	all := palette()
	if len(all) != api.Palette {
		t.Fatal(len(all))
	}
	for n, s := range all {
		if v, is := color.Default(n); !is || v != sixDigits(t, s) {
			t.Errorf("Default(%v): %x, %v; not %s", n, v, is, s)
		}
	}
	for n, want := range map[int]value{1: {0xcdcd, 0, 0}, 16: {}, 231: {0xffff, 0xffff, 0xffff}, 232: {0x0808, 0x0808, 0x0808}} {
		if v, is := color.Default(n); !is || v != want {
			t.Errorf("Default(%v): %x, %v", n, v, is)
		}
	}
}

// P2.2: a number that the palette does not have.
func TestDefaultNone(t *testing.T) {
	for _, n := range []int{256, -1, -2, 257, 511, 512, -16, -256, -255, 65536, 1 << 32, 1<<32 + 1, math.MaxInt, math.MinInt, math.MinInt + 1} {
		if v, is := color.Default(n); is || v != (value{}) {
			t.Errorf("Default(%v): %x, %v", n, v, is)
		}
	}
}

// P2.2: text and ground at first.
func TestTextAndGround(t *testing.T) {
	if v := color.Text(); v != (value{0xe5e5, 0xe5e5, 0xe5e5}) {
		t.Errorf("%x", v)
	}
	if v := color.Ground(); v != (value{}) {
		t.Errorf("%x", v)
	}
}

// P2.3: colours of each kind, the palette's edges, kinds that there are not.
func TestResolve(t *testing.T) {
	other := value{1, 2, 3}
	three := []value{{10, 11, 12}, {20, 21, 22}, {30, 31, 32}}
	whole := make([]value, api.Palette)
	for n := range whole {
		whole[n] = value{uint16(n), uint16(2 * n), uint16(3 * n)}
	}
	for _, c := range []struct {
		c       api.Color
		palette []value
		want    value
	}{
		{api.Color{}, three, other},
		{api.Color{Kind: api.ColorDefault, R: 1, G: 1, B: 1}, three, other},
		{api.Color{Kind: api.ColorDefault}, nil, other},
		{api.Color{Kind: api.ColorIndex}, three, three[0]},
		{api.Color{Kind: api.ColorIndex, R: 2}, three, three[2]},
		{api.Color{Kind: api.ColorIndex, R: 1, G: 2, B: 255}, three, three[1]},
		{api.Color{Kind: api.ColorIndex, R: 3}, three, other},
		{api.Color{Kind: api.ColorIndex, R: 255}, three, other},
		{api.Color{Kind: api.ColorIndex}, nil, other},
		{api.Color{Kind: api.ColorIndex}, []value{}, other},
		{api.Color{Kind: api.ColorIndex, R: 254}, whole, whole[254]},
		{api.Color{Kind: api.ColorIndex, R: 255}, whole, whole[255]},
		{api.Color{Kind: api.ColorIndex, R: 255}, whole[:255], other},
		{api.Color{Kind: api.ColorIndex, R: 255}, append(slices.Clone(whole), other), whole[255]},
		{api.Color{Kind: api.ColorRGB, R: 1, G: 2, B: 255}, three, value{0x0101, 0x0202, 0xffff}},
		{api.Color{Kind: api.ColorRGB, R: 0xab, G: 0x10, B: 0x0f}, nil, value{0xabab, 0x1010, 0x0f0f}},
		{api.Color{Kind: api.ColorRGB}, three, value{}},
		{api.Color{Kind: 3, R: 1, G: 2, B: 2}, three, other},
		{api.Color{Kind: 255, R: 1, G: 2, B: 2}, three, other},
	} {
		if v := color.Resolve(c.c, c.palette, other); v != c.want {
			t.Errorf("Resolve(%v) of %v: %x, not %x", c.c, len(c.palette), v, c.want)
		}
	}
}

// P2.3: all kinds, at all numbers, with palettes of many lengths.
func TestResolveAll(t *testing.T) {
	other := value{7, 8, 9}
	for _, most := range []int{0, 1, 16, 255, 256} {
		var p []value
		for n := range most {
			p = append(p, value{uint16(n + 1000)})
		}
		for kind := range 256 {
			for r := range 256 {
				c := api.Color{Kind: uint8(kind), R: uint8(r), G: uint8(255 - r), B: 9}
				want := other
				if kind == 2 {
					want = value{uint16(r) * 257, uint16(255-r) * 257, 9 * 257}
				}
				if kind == 1 && r < most {
					want = value{uint16(r + 1000)}
				}
				if v := color.Resolve(c, p, other); v != want {
					t.Fatalf("Resolve(%v) of %v: %x", c, most, v)
				}
			}
		}
	}
}

// P2.3: how far values are: parts divided by 257 before they are held against each other.
func TestFar(t *testing.T) {
	for _, c := range []struct {
		a, b value
		want int
	}{
		{value{}, value{}, 0},
		{value{256, 256, 256}, value{}, 0},
		{value{257}, value{}, 1},
		{value{257}, value{256}, 1},
		{value{513}, value{257}, 0},
		{value{514}, value{513}, 1},
		{value{0x0303, 0, 0}, value{}, 9},
		{value{0, 0x0303, 0}, value{}, 9},
		{value{0, 0, 0x0303}, value{}, 9},
		{value{0x0101, 0x0202, 0x0303}, value{}, 14},
		{value{0x0a0a, 0x0101, 0x0505}, value{0x0101, 0x0303, 0x0404}, 81 + 4 + 1},
		{value{65535, 65535, 65535}, value{}, 3 * 255 * 255},
		{value{65535, 0, 65535}, value{0, 65535, 0}, 3 * 255 * 255},
		{value{65534}, value{65535}, 1},
	} {
		if d := color.Far(c.a, c.b); d != c.want {
			t.Errorf("Far(%x, %x): %v, not %v", c.a, c.b, d, c.want)
		}
		if d := color.Far(c.b, c.a); d != c.want {
			t.Errorf("Far(%x, %x): %v, not %v", c.b, c.a, d, c.want)
		}
	}
}

// P2.3: each part, at each distance, in each place, by another reckoning.
func TestFarAll(t *testing.T) {
	for p := range 65536 {
		q := p * 40503 % 65536
		d := int(math.Floor(float64(p)/257)) - int(math.Floor(float64(q)/257))
		for n := range 3 {
			var a, b value
			a[n], b[n] = uint16(p), uint16(q)
			if got := color.Far(a, b); got != d*d {
				t.Fatalf("Far(%v, %v): %v, not %v", a, b, got, d*d)
			}
		}
		all, none := value{uint16(p), uint16(p), uint16(p)}, value{uint16(q), uint16(q), uint16(q)}
		if got := color.Far(all, none); got != 3*d*d {
			t.Fatalf("Far(%v, %v): %v", all, none, got)
		}
	}
}

// P2.3: the nearest, the first of several that are as near, none of none.
func TestNearest(t *testing.T) {
	red, green, blue, black := value{0xffff}, value{0, 0xffff}, value{0, 0, 0xffff}, value{}
	for _, c := range []struct {
		v       value
		palette []value
		want    int
	}{
		{black, nil, -1},
		{red, []value{}, -1},
		{red, []value{black}, 0},
		{black, []value{{65535, 65535, 65535}}, 0},
		{red, []value{black, green, red}, 2},
		{red, []value{red, black, green}, 0},
		{blue, []value{black, green, red}, 0},
		{black, []value{red, green, blue}, 0},
		{black, []value{red, black, green, black}, 1},
		{value{0xf000, 0x1000}, []value{black, green, red, blue}, 2},
		// which of them are as near is told of parts divided
		{value{256}, []value{{257}, {255}, {256}}, 1},
		{value{256}, []value{{511}, {512}, {257}}, 0},
		{value{300}, []value{black, {513}, {300}}, 1},
		{value{0x1010, 0x1010, 0x1010}, []value{{0x1313, 0x1010, 0x1010}, {0x1212, 0x1212, 0x1010}, {0x1010, 0x1010, 0x0d0d}}, 1},
		{value{0x1010, 0x1010, 0x1010}, []value{{0x1313, 0x1010, 0x1010}, {0x1010, 0x1010, 0x0d0d}}, 0},
		{value{0x1010, 0x1010, 0x1010}, []value{{0x1414, 0x1010, 0x1010}, {0x1212, 0x1212, 0x1212}}, 1},
	} {
		if n := color.Nearest(c.v, c.palette...); n != c.want {
			t.Errorf("Nearest(%x, %x): %v, not %v", c.v, c.palette, n, c.want)
		}
	}
}

// P2.2, P2.3: of the palette at first, each colour is nearest to the first that has its value.
func TestNearestOfPalette(t *testing.T) {
	var all []value
	for n := range api.Palette {
		v, _ := color.Default(n)
		all = append(all, v)
	}
	for n, v := range all {
		if got := color.Nearest(v, all...); got != slices.Index(all, v) {
			t.Errorf("%v: %v", n, got)
		}
	}
	for p := 0; p < 65536; p += 97 {
		v := value{uint16(p), uint16(p * 7), uint16(p * 31)}
		got := color.Nearest(v, all...)
		for n, w := range all {
			if d, least := color.Far(v, w), color.Far(v, all[got]); d < least || d == least && n < got {
				t.Fatalf("%x: %v is %v far, %v is %v", v, got, least, n, d)
			}
		}
	}
}

// What is handed in stays as it is.
func TestKept(t *testing.T) {
	p := []value{{1, 2, 3}, {4, 5, 6}, {7, 8, 9}}
	was := slices.Clone(p)
	v := color.Resolve(api.Color{Kind: api.ColorIndex, R: 1}, p, value{})
	v[0] = 99
	color.Nearest(value{4, 5, 6}, p...)
	if !slices.Equal(p, was) {
		t.Error(p)
	}
}

// P1, P2.1: each call ends and none panics, at all short texts, and all that go on from the beginning of a spec.
func TestAllArguments(t *testing.T) {
	bytes := []byte("rgb:#/0fF\x00\xff\x80 g")
	var s []byte
	var all func(depth int)
	all = func(depth int) {
		v, is := color.Parse(string(s))
		if want, wanted := specOf(string(s)); is != wanted || v != want {
			t.Fatalf("Parse(%q): %x, %v; not %x, %v", s, v, is, want, wanted)
		}
		if depth == 0 {
			return
		}
		for _, c := range bytes {
			s = append(s, c)
			all(depth - 1)
			s = s[:len(s)-1]
		}
	}
	for _, from := range []string{"", "rgb:", "rgb:0/", "rgb:0/0/", "rgb:ffff/0000/", "#", "#0f0"} {
		s = append(s[:0], from...)
		all(4)
	}
}

// specOf: the same as Parse, from the words, by splitting.
func specOf(s string) (value, bool) {
	var rows []string
	switch {
	case strings.HasPrefix(s, "rgb:"):
		rows = strings.Split(s[4:], "/")
	case strings.HasPrefix(s, "#") && len(s) == 4:
		rows = []string{s[1:2], s[2:3], s[3:4]}
	case strings.HasPrefix(s, "#") && len(s) == 7:
		rows = []string{s[1:3], s[3:5], s[5:7]}
	}
	if len(rows) != 3 {
		return value{}, false
	}
	var v value
	for n, r := range rows {
		d := 0
		for _, c := range []byte(r) {
			x, is := digitOf(c)
			if !is {
				return value{}, false
			}
			d = d*16 + x
		}
		if len(r) < 1 || len(r) > 4 {
			return value{}, false
		}
		v[n] = partOf(d, len(r))
	}
	return v, true
}
