package token_test

import (
	"math"
	"regexp"
	"slices"
	"strconv"
	"strings"
	"testing"
	"unicode/utf8"

	"marquee/api"
	"marquee/token"
)

// The limits, as the document writes them.
const (
	maxParams = 32
	maxSubs   = 8
	maxParam  = 65535
	maxString = 1024
)

// tok: a token of each kind, with all parts that its kind has.
func tok(kind int) api.Token {
	return []api.Token{
		{Kind: api.TokPrint, Rune: 0x20ac},
		{Kind: api.TokControl, Final: 7},
		{Kind: api.TokEsc, Inter: "(", Final: 'B'},
		{Kind: api.TokCsi, Private: '?', Params: [][]int{{1, 2}, {-1}, {3}}, Inter: "$", Final: 'p'},
		{Kind: api.TokOsc, Data: "0;title"},
		{Kind: api.TokDcs, Private: '>', Params: [][]int{{4}, {5, -1, 6}}, Inter: "!", Final: 'q', Data: "m"},
	}[kind]
}

// allKinds: the kinds that there are.
func allKinds() []int {
	return []int{api.TokPrint, api.TokControl, api.TokEsc, api.TokCsi, api.TokOsc, api.TokDcs}
}

// headed: the kinds that have a head; stringed: those that have data.
func headed() []int   { return []int{api.TokCsi, api.TokDcs} }
func stringed() []int { return []int{api.TokOsc, api.TokDcs} }

// one: a token of a kind, with a change.
func one(kind int, change func(*api.Token)) api.Token {
	t := tok(kind)
	change(&t)
	return t
}

// judge: is a token right just if want says so, also for Put, which tells its bytes or ErrForm?
func judge(t *testing.T, x api.Token, want bool) {
	t.Helper()
	if is := token.Right(x); is != want {
		t.Fatalf("Right(%.120q): %v", show(x), is)
	}
	s, e := token.Put(x)
	if !want {
		if s != "" || e != api.ErrForm {
			t.Fatalf("Put(%.120q): %.120q, %v", show(x), s, e)
		}
		return
	}
	if e != api.OK || s != laid(x) {
		t.Fatalf("Put(%.120q): %.120q, %v; not %.120q", show(x), s, e, laid(x))
	}
}

// show: a token's parts, to be told.
func show(t api.Token) string {
	return strconv.Itoa(t.Kind) + " " + strconv.Itoa(int(t.Rune)) + " " + strconv.Itoa(int(t.Private)) + " " +
		written(t.Params) + " " + strconv.Quote(t.Inter) + " " + strconv.Itoa(int(t.Final)) + " " + strconv.Quote(t.Data)
}

// written: parameters, as the document says.
func written(p [][]int) string {
	s := ""
	for i, row := range p {
		if i > 0 {
			s += ";"
		}
		for k, n := range row {
			if k > 0 {
				s += ":"
			}
			if n != -1 {
				s += strconv.Itoa(n)
			}
		}
	}
	return s
}

// laid: the bytes of a token that is right, as the document says.
func laid(t api.Token) string {
	head := written(t.Params) + t.Inter + string(rune(t.Final))
	if t.Private != 0 {
		head = string(rune(t.Private)) + head
	}
	switch t.Kind {
	case api.TokPrint:
		return string(t.Rune)
	case api.TokControl:
		return string(rune(t.Final))
	case api.TokEsc:
		return "\x1b" + t.Inter + string(rune(t.Final))
	case api.TokCsi:
		return "\x1b[" + head
	case api.TokOsc:
		return "\x1b]" + t.Data + "\x07"
	}
	return "\x1bP" + head + t.Data + "\x1b\\"
}

// sameParams: have both the same numbers?
func sameParams(a, b [][]int) bool {
	return slices.EqualFunc(a, b, func(x, y []int) bool { return slices.Equal(x, y) })
}

// sameAll: have both the same tokens?
func sameAll(a, b []api.Token) bool {
	return slices.EqualFunc(a, b, func(x, y api.Token) bool {
		return x.Kind == y.Kind && x.Rune == y.Rune && x.Private == y.Private && sameParams(x.Params, y.Params) &&
			x.Inter == y.Inter && x.Final == y.Final && x.Data == y.Data
	})
}

// P7.1, P7.2: the document's examples.
func TestExamples(t *testing.T) {
	for _, c := range []struct {
		t    api.Token
		want string
		err  api.Errno
	}{
		{token.Csi('H', 3, -1), "\x1b[3;H", api.OK},
		{api.Token{Kind: api.TokCsi, Params: [][]int{{4, 3}, {38, 2, -1, 1, 2, 3}}, Final: 'm'}, "\x1b[4:3;38:2::1:2:3m", api.OK},
		{token.Esc("#", '8'), "\x1b#8", api.OK},
		{token.Esc("", '['), "", api.ErrForm},
		{api.Token{Kind: api.TokOsc, Data: "0;t"}, "\x1b]0;t\x07", api.OK},
		{api.Token{Kind: api.TokDcs, Inter: "$", Final: 'q', Data: "m"}, "\x1bP$qm\x1b\\", api.OK},
		{api.Token{Kind: api.TokDcs, Params: [][]int{{1}}, Inter: "$", Final: 'q', Data: "m"}, "\x1bP1$qm\x1b\\", api.OK},
		{tok(api.TokCsi), "\x1b[?1:2;;3$p", api.OK},
		{tok(api.TokDcs), "\x1bP>4;5::6!qm\x1b\\", api.OK},
		{tok(api.TokPrint), "\xe2\x82\xac", api.OK},
		{tok(api.TokControl), "\x07", api.OK},
		{api.Token{Kind: api.TokControl}, "\x00", api.OK},
		{api.Token{}, "", api.ErrForm},
		{api.Token{Kind: api.TokOsc}, "\x1b]\x07", api.OK},
		{token.Csi('m'), "\x1b[m", api.OK},
		{token.Csi('m', 0), "\x1b[0m", api.OK},
		{token.Csi('m', -1), "", api.ErrForm},
		{token.Csi('m', -1, -1), "\x1b[;m", api.OK},
	} {
		if s, e := token.Put(c.t); s != c.want || e != c.err {
			t.Errorf("Put(%q): %q, %v; not %q, %v", show(c.t), s, e, c.want, c.err)
		}
		judge(t, c.t, c.err == api.OK)
	}
}

// P7.1: a token that has all its parts is right; of a kind that is none, none is.
func TestKinds(t *testing.T) {
	// What one kind has may be right for another one that has the same parts.
	also := map[[2]int]bool{{api.TokEsc, api.TokCsi}: true, {api.TokEsc, api.TokDcs}: true, {api.TokCsi, api.TokDcs}: true}
	for _, kind := range allKinds() {
		judge(t, tok(kind), true)
		for _, other := range []int{-1, api.LastTok + 1, 7, 100, 256, math.MaxInt, math.MinInt} {
			judge(t, one(kind, func(x *api.Token) { x.Kind = other }), false)
		}
		for _, other := range allKinds() {
			judge(t, one(kind, func(x *api.Token) { x.Kind = other }), other == kind || also[[2]int{kind, other}])
		}
	}
	judge(t, api.Token{Kind: api.LastTok + 1}, false)
	judge(t, api.Token{Kind: -1}, false)
}

// P7.1: what a kind does not have is zero, or without anything.
func TestPartsThatAreNotHad(t *testing.T) {
	parts := []struct {
		name   string
		of     []int
		change func(*api.Token)
	}{
		{"a rune", []int{api.TokPrint}, func(x *api.Token) { x.Rune = 'a' }},
		{"a rune that is none", nil, func(x *api.Token) { x.Rune = -1 }},
		{"private", headed(), func(x *api.Token) { x.Private = '?' }},
		{"parameters", headed(), func(x *api.Token) { x.Params = [][]int{{1}} }},
		{"a parameter without numbers", nil, func(x *api.Token) { x.Params = [][]int{{}} }},
		{"a parameter that is nil", nil, func(x *api.Token) { x.Params = [][]int{nil} }},
		{"many parameters", nil, func(x *api.Token) { x.Params = make([][]int, 1000) }},
		{"inter", []int{api.TokEsc, api.TokCsi, api.TokDcs}, func(x *api.Token) { x.Inter = " " }},
		{"final", []int{api.TokEsc, api.TokCsi, api.TokDcs}, func(x *api.Token) { x.Final = 'm' }},
		{"a final that is a control", []int{api.TokControl}, func(x *api.Token) { x.Final = 1 }},
		{"data", stringed(), func(x *api.Token) { x.Data = "x" }},
	}
	for _, kind := range allKinds() {
		for _, p := range parts {
			x := one(kind, p.change)
			if want := slices.Contains(p.of, kind); token.Right(x) != want {
				t.Errorf("kind %v, %v: Right is not %v", kind, p.name, want)
			} else {
				judge(t, x, want)
			}
		}
		// Lists without anything are those that are nil.
		empty := one(kind, func(x *api.Token) { x.Params = [][]int{} })
		judge(t, empty, true)
	}
}

// P7.1: a TokPrint's rune: all that there are, and numbers that are none.
func TestRunes(t *testing.T) {
	try := func(r rune) {
		t.Helper()
		want := r >= 0x20 && !(r >= 0x7f && r <= 0x9f) && utf8.ValidRune(r)
		judge(t, api.Token{Kind: api.TokPrint, Rune: r}, want)
	}
	for r := rune(-300); r < 0x110200; r++ {
		try(r)
	}
	for _, r := range []rune{math.MinInt32, math.MinInt32 + 'a', math.MaxInt32, 1 << 24, 1<<24 + 'a', -1} {
		try(r)
	}
	for r, want := range map[rune]bool{
		0: false, 0x1b: false, 0x1f: false, 0x20: true, 0x7e: true, 0x7f: false, 0x80: false, 0x9f: false, 0xa0: true,
		0x301: true, 0xd7ff: true, 0xd800: false, 0xdfff: false, 0xe000: true, 0xfffd: true, 0xffff: true, 0x10ffff: true, 0x110000: false,
	} {
		judge(t, api.Token{Kind: api.TokPrint, Rune: r}, want)
	}
}

// P7.1: a TokControl's byte: each that there is.
func TestControls(t *testing.T) {
	for c := range 256 {
		want := c < 0x20 && c != 0x18 && c != 0x1a && c != 0x1b
		judge(t, api.Token{Kind: api.TokControl, Final: byte(c)}, want)
	}
}

// P7.1: final bytes of an escape sequence, with Inter and without, and of heads.
func TestFinals(t *testing.T) {
	for c := range 256 {
		f := byte(c)
		in := f >= 0x30 && f <= 0x7e
		judge(t, token.Esc("", f), in && !strings.ContainsRune("PX[]^_", rune(f)))
		for _, inter := range []string{" ", "/", "(", "#%", "  "} {
			judge(t, token.Esc(inter, f), in)
		}
		for _, kind := range headed() {
			judge(t, api.Token{Kind: kind, Final: f}, f >= 0x40 && f <= 0x7e)
			judge(t, one(kind, func(x *api.Token) { x.Final = f }), f >= 0x40 && f <= 0x7e)
		}
	}
	for f, want := range map[byte]bool{
		'/': false, '0': true, 'O': true, 'P': false, 'Q': true, 'W': true, 'X': false, 'Y': true, 'Z': true,
		'[': false, '\\': true, ']': false, '^': false, '_': false, '`': true, '~': true, 0x7f: false, 0x80: false,
	} {
		judge(t, token.Esc("", f), want)
	}
}

// P7.1: Private is 0, or one of four.
func TestPrivates(t *testing.T) {
	for c := range 256 {
		want := c == 0 || c == '<' || c == '=' || c == '>' || c == '?'
		for _, kind := range headed() {
			judge(t, one(kind, func(x *api.Token) { x.Private = byte(c) }), want)
			judge(t, api.Token{Kind: kind, Private: byte(c), Final: 'm'}, want)
		}
	}
}

// P7.1: Inter has two bytes at most, each from 20 to 2F.
func TestInters(t *testing.T) {
	in := func(c int) bool { return c >= 0x20 && c <= 0x2f }
	for _, kind := range []int{api.TokEsc, api.TokCsi, api.TokDcs} {
		with := func(inter string) api.Token {
			return one(kind, func(x *api.Token) { x.Inter = inter })
		}
		judge(t, with(""), true)
		for a := range 256 {
			judge(t, with(string([]byte{byte(a)})), in(a))
			for b := range 256 {
				judge(t, with(string([]byte{byte(a), byte(b)})), in(a) && in(b))
			}
		}
		for _, long := range []string{"   ", "(((", "!\"#$", strings.Repeat(" ", 1024), "\u20ac", "\u00a0"} {
			judge(t, with(long), false)
		}
	}
}

// row: n numbers, each of them x.
func row(n, x int) []int { return slices.Repeat([]int{x}, n) }

// P7.1: how many parameters and subparameters there may be, and which numbers.
func TestParams(t *testing.T) {
	many := func(n int, p []int) [][]int { return slices.Repeat([][]int{p}, n) }
	at := func(place int, p []int) [][]int {
		l := many(maxParams, []int{1})
		l[place] = p
		return l
	}
	type try struct {
		p    [][]int
		want bool
	}
	tries := []try{
		{nil, true},
		{[][]int{}, true},
		{[][]int{nil}, false},
		{[][]int{{}}, false},
		{[][]int{{1}, nil}, false},
		{[][]int{{}, {1}}, false},
		{[][]int{{-1}}, false},
		{[][]int{{-1, -1}}, true},
		{[][]int{{-1}, {-1}}, true},
		{[][]int{{0}}, true},
		{[][]int{{-1, 0}}, true},
		{[][]int{{0, -1}}, true},
		{[][]int{{-1}, {0}}, true},
		{[][]int{{0}, {-1}}, true},
		{[][]int{row(8, -1)}, true},
		{many(maxParams, []int{-1}), true},
		{many(maxParams, row(maxSubs, maxParam)), true},
		{many(maxParams, row(maxSubs, -1)), true},
		{many(maxParams, row(maxSubs+1, 1)), false},
		{many(maxParams+1, row(maxSubs, 1)), false},
		{many(maxParams+1, nil), false},
		{many(1000, []int{-1}), false},
		{[][]int{row(1000, 1)}, false},
	}
	for n := range 2 * maxParams {
		tries = append(tries, try{many(n, []int{1}), n <= maxParams})
	}
	for n := range 3 * maxSubs {
		is := n >= 1 && n <= maxSubs
		tries = append(tries, try{[][]int{row(n, 5)}, is}, try{at(0, row(n, 5)), is}, try{at(maxParams-1, row(n, 5)), is})
	}
	for _, n := range []int{math.MinInt, math.MinInt32, -65536, -65535, -3, -2, -1, 0, 1, 9, 10, 65534, 65535, 65536, 65537, 1 << 31, 1<<32 + 1, math.MaxInt} {
		is := n >= -1 && n <= maxParam
		tries = append(tries, try{[][]int{{n}}, is && n != -1}, try{[][]int{{3, n}}, is}, try{[][]int{{n, 3}}, is}, try{[][]int{{3}, {n}}, is})
		for k := range maxSubs {
			deep := row(maxSubs, 1)
			deep[k] = n
			tries = append(tries, try{[][]int{deep}, is}, try{at(0, deep), is}, try{at(maxParams-1, deep), is})
		}
	}
	for _, c := range tries {
		for _, kind := range headed() {
			judge(t, one(kind, func(x *api.Token) { x.Params = c.p }), c.want)
			judge(t, api.Token{Kind: kind, Params: c.p, Final: 'm'}, c.want)
		}
	}
}

// P7.1: each number that may be is laid without a 0 ahead, and one that is not said as nothing.
func TestNumbers(t *testing.T) {
	for n := range maxParam + 1 {
		if s, e := token.Put(token.Csi('m', n, -1, n)); s != "\x1b["+strconv.Itoa(n)+";;"+strconv.Itoa(n)+"m" || e != api.OK {
			t.Fatalf("%v: %q, %v", n, s, e)
		}
	}
}

// P7.1: data are 1024 bytes at most, each from 20 on but 7F.
func TestData(t *testing.T) {
	for _, kind := range stringed() {
		with := func(data string) api.Token {
			return one(kind, func(x *api.Token) { x.Data = data })
		}
		judge(t, with(""), true)
		for c := range 256 {
			want := c >= 0x20 && c != 0x7f
			s := string([]byte{byte(c)})
			judge(t, with(s), want)
			judge(t, with("ab"+s), want)
			judge(t, with(s+"ab"), want)
			judge(t, with(strings.Repeat("x", maxString-1)+s), want)
			judge(t, with(s+strings.Repeat("\xff", maxString-1)), want)
			judge(t, with(strings.Repeat("x", maxString)+s), false)
		}
		for _, n := range []int{1023, 1024, 1025, 2048, 70000} {
			judge(t, with(strings.Repeat("x", n)), n <= maxString)
			judge(t, with(strings.Repeat("\x80", n)), n <= maxString)
		}
		judge(t, with(strings.Repeat("\u20ac", 341)), true)
		judge(t, with(strings.Repeat("\u20ac", 342)), false)
	}
}

// P7.1: of several tokens the bytes stand one behind the other; one that is not right, wherever, and there are none.
func TestPut(t *testing.T) {
	if s, e := token.Put(); s != "" || e != api.OK {
		t.Errorf("of none: %q, %v", s, e)
	}
	var all []api.Token
	want := ""
	for range 3 {
		for _, kind := range allKinds() {
			all = append(all, tok(kind))
			want += laid(tok(kind))
		}
	}
	if s, e := token.Put(all...); s != want || e != api.OK {
		t.Errorf("%q, %v; not %q", s, e, want)
	}
	for _, bad := range []api.Token{{}, {Kind: 6}, {Kind: api.TokControl, Final: 0x1b}, token.Csi('m', -1), token.Csi('m', 65536)} {
		for at := range len(all) + 1 {
			if s, e := token.Put(slices.Insert(slices.Clone(all), at, bad)...); s != "" || e != api.ErrForm {
				t.Errorf("with %q at %v: %q, %v", show(bad), at, s, e)
			}
		}
	}
	long := slices.Repeat(all, 2000)
	if s, e := token.Put(long...); s != strings.Repeat(want, 2000) || e != api.OK {
		t.Error("many tokens:", len(s), e)
	}
}

// variants: tokens each of which differs from all others, right ones and others.
func variants() []api.Token {
	l := []api.Token{{}, {Kind: -1}, {Kind: 6}, {Rune: -1}, {Rune: 0xd800}, {Private: 1}, {Inter: "x"}, {Inter: "xyz"}, {Final: 255}, {Data: "\x00"}}
	for _, p := range [][][]int{{nil}, {nil, nil}, {{-1}}, {{0}}, {{1}}, {{1, 2}}, {{1}, {2}}, {{2, 1}}, {{1, 2}, nil}, {nil, {1, 2}}, {{12}}, {{65536}}, {{1, 2, 3}}, {{1, 2}, {3}}, {{1}, {2, 3}}} {
		l = append(l, api.Token{Params: p}, api.Token{Kind: api.TokCsi, Params: p, Final: 'm'})
	}
	for _, kind := range allKinds() {
		l = append(l, tok(kind),
			one(kind, func(x *api.Token) { x.Rune += 'a' }),
			one(kind, func(x *api.Token) { x.Private++ }),
			one(kind, func(x *api.Token) { x.Params = append(x.Params, []int{9}) }),
			one(kind, func(x *api.Token) { x.Inter += "+" }),
			one(kind, func(x *api.Token) { x.Final++ }),
			one(kind, func(x *api.Token) { x.Data += "d" }))
	}
	return l
}

// P7.1: two are the same just if each of their parts is.
func TestSame(t *testing.T) {
	l := variants()
	for i, a := range l {
		for k, b := range l {
			if is := token.Same(a, token.Copy(b)); is != (i == k) {
				t.Errorf("%q, %q: %v", show(a), show(b), is)
			}
		}
	}
	// Lists without anything are alike; a list of one that is without anything is another one.
	for _, c := range []struct {
		a, b [][]int
		want bool
	}{
		{nil, [][]int{}, true},
		{[][]int{}, nil, true},
		{[][]int{{}}, [][]int{nil}, true},
		{[][]int{nil, {1}}, [][]int{{}, {1}}, true},
		{nil, [][]int{nil}, false},
		{[][]int{nil}, [][]int{nil, nil}, false},
		{make([][]int, 0, 9), nil, true},
	} {
		for _, kind := range allKinds() {
			a := one(kind, func(x *api.Token) { x.Params = c.a })
			b := one(kind, func(x *api.Token) { x.Params = c.b })
			if token.Same(a, b) != c.want || token.Same(b, a) != c.want {
				t.Errorf("%v, %v: not %v", c.a, c.b, c.want)
			}
		}
	}
}

// P7.1: a copy is the same, and has lists of its own.
func TestCopy(t *testing.T) {
	for _, x := range variants() {
		if c := token.Copy(x); !token.Same(c, x) || !sameAll([]api.Token{c}, []api.Token{x}) {
			t.Errorf("%q: %q", show(x), show(c))
		}
	}
	back := []int{1, 2, 3, 4}
	x := api.Token{Kind: api.TokCsi, Params: [][]int{back[:2], {5}, back[:0]}, Final: 'm'}
	c, d := token.Copy(x), token.Copy(x)
	for i := range c.Params {
		for k := range c.Params[i] {
			c.Params[i][k] = 70 + k
		}
		c.Params[i] = append(c.Params[i], 80, 81, 82, 83, 84, 85, 86, 87, 88)
	}
	c.Params[1] = []int{90}
	c.Params = append(c.Params, []int{91})
	want := [][]int{{1, 2}, {5}, {}}
	if !sameParams(x.Params, want) || !slices.Equal(back, []int{1, 2, 3, 4}) || !sameParams(d.Params, want) {
		t.Error("changed by a copy:", x.Params, back, d.Params)
	}
	back[0], x.Params[1][0] = 60, 61
	x.Params[2] = []int{62}
	if !sameParams(d.Params, want) {
		t.Error("a copy is changed:", d.Params)
	}
	// One list that stands at two places stands there twice in the copy.
	row := []int{1}
	e := token.Copy(api.Token{Params: [][]int{row, row}})
	e.Params[0][0] = 2
	if !sameParams(e.Params, [][]int{{2}, {1}}) {
		t.Error("lists of a copy share:", e.Params)
	}
}

// P7.2: Csi has the numbers as they are, each as a parameter of its own.
func TestCsi(t *testing.T) {
	for _, c := range []struct {
		final byte
		l     []int
		want  [][]int
	}{
		{'H', []int{3, -1}, [][]int{{3}, {-1}}},
		{'m', nil, nil},
		{'m', []int{}, nil},
		{'m', []int{-1}, [][]int{{-1}}},
		{'m', []int{0, 65535, 65536, -2, math.MaxInt, math.MinInt}, [][]int{{0}, {65535}, {65536}, {-2}, {math.MaxInt}, {math.MinInt}}},
		{0, []int{1}, [][]int{{1}}},
		{255, []int{1}, [][]int{{1}}},
	} {
		x := token.Csi(c.final, c.l...)
		if !sameAll([]api.Token{x}, []api.Token{{Kind: api.TokCsi, Params: c.want, Final: c.final}}) {
			t.Errorf("%v, %v: %q", c.final, c.l, show(x))
		}
	}
	for n := range 2 * maxParams {
		judge(t, token.Csi('m', row(n, 7)...), n <= maxParams)
	}
	l := []int{1, 2, 3}
	x := token.Csi('m', l...)
	l[0] = 9
	if !sameParams(x.Params, [][]int{{1}, {2}, {3}}) {
		t.Error("the numbers are kept:", x.Params)
	}
	x.Params[1] = append(x.Params[1], 8)
	x.Params[0][0] = 7
	if !sameParams(x.Params, [][]int{{7}, {2, 8}, {3}}) || !slices.Equal(l, []int{9, 2, 3}) {
		t.Error("the lists share:", x.Params, l)
	}
}

// P7.2: Esc has these parts as they are.
func TestEsc(t *testing.T) {
	for _, inter := range []string{"", "#", "(", "  ", "xyz", "\xff"} {
		for c := range 256 {
			x := token.Esc(inter, byte(c))
			if !sameAll([]api.Token{x}, []api.Token{{Kind: api.TokEsc, Inter: inter, Final: byte(c)}}) {
				t.Fatalf("%q, %v: %q", inter, c, show(x))
			}
		}
	}
}

// P7.2: Print has the runes that bytes mean, but those that no TokPrint may have.
func TestPrint(t *testing.T) {
	for _, c := range []struct {
		text string
		want []rune
	}{
		{"", nil},
		{"h\u00e9", []rune{'h', 0xe9}},
		{"a\u4e2d\u0301\U0001f600", []rune{'a', 0x4e2d, 0x301, 0x1f600}},
		{"a\x00b\nc\x18\x1a\x1b\x1f\x7fd", []rune{'a', 'b', 'c', 'd'}},
		{"a\u0080\u009b\u009fb\u00a0", []rune{'a', 'b', 0xa0}},
		{" ~", []rune{' ', '~'}},
		{"\x1b[1m", []rune{'[', '1', 'm'}},
		{"\xe2\x82A", []rune{0xfffd, 'A'}},
		{"\x80\x9f", []rune{0xfffd, 0xfffd}},
		{"\xed\xa0\x80", []rune{0xfffd, 0xfffd, 0xfffd}},
		{"\xf0\x9f\x98", []rune{0xfffd}},
		{"\xf0\x9f\x1b\xf0\x9f", []rune{0xfffd, 0xfffd}},
		{"\ufffd", []rune{0xfffd}},
		{"\ufeff\U0010ffff", []rune{0xfeff, 0x10ffff}},
		{"\n\r\t\x7f", nil},
	} {
		var want []api.Token
		for _, r := range c.want {
			want = append(want, api.Token{Kind: api.TokPrint, Rune: r})
		}
		l := token.Print(c.text)
		if !sameAll(l, want) {
			t.Errorf("%q: %v tokens, not %U", c.text, len(l), c.want)
		}
		if s, e := token.Put(l...); s != string(c.want) || e != api.OK {
			t.Errorf("%q: laid %q, %v", c.text, s, e)
		}
	}
}

// P7.2: of each rune that there is there is one token, or none.
func TestPrintEachRune(t *testing.T) {
	for r := rune(0); r <= 0x10ffff; r++ {
		if !utf8.ValidRune(r) {
			continue
		}
		x := api.Token{Kind: api.TokPrint, Rune: r}
		var want []api.Token
		if token.Right(x) {
			want = append(want, x)
		}
		if l := token.Print(string(r)); !sameAll(l, want) {
			t.Fatalf("%U: %v tokens", r, len(l))
		}
	}
}

// reader: each kind's bytes, as the document says which they are. Bytes are told as the runes of the same numbers.
type reader struct {
	kind int
	form *regexp.Regexp
}

func readers() []reader {
	head := `([<=>?]?)([0-9:;]*)([ -/]{0,2})([@-~])`
	data := `([ -~\x{80}-\x{ff}]{0,1000}[ -~\x{80}-\x{ff}]{0,24})` // one count goes no further than 1000
	return []reader{
		{api.TokControl, regexp.MustCompile(`^([\x00-\x17\x19\x1c-\x1f])`)},
		{api.TokCsi, regexp.MustCompile(`^\x1b\[` + head)},
		{api.TokOsc, regexp.MustCompile(`^\x1b\]` + data + `\x07`)},
		{api.TokDcs, regexp.MustCompile(`^\x1bP` + head + data + `\x1b\\`)},
		{api.TokEsc, regexp.MustCompile(`^\x1b([ -/]{0,2})([0-~])`)},
	}
}

// wide and narrow: bytes as the runes of the same numbers, and back.
func wide(s string) string {
	var l []rune
	for n := range len(s) {
		l = append(l, rune(s[n]))
	}
	return string(l)
}

func narrow(s string) string {
	var b []byte
	for _, r := range s {
		b = append(b, byte(r))
	}
	return string(b)
}

// readOne: the token at the beginning of bytes, and what is behind it.
func readOne(t *testing.T, s string, rs []reader) (api.Token, string) {
	t.Helper()
	w := wide(s)
	for _, r := range rs {
		m := r.form.FindStringSubmatch(w)
		if m == nil {
			continue
		}
		for i := range m {
			m[i] = narrow(m[i])
		}
		x := api.Token{Kind: r.kind}
		switch r.kind {
		case api.TokControl:
			x.Final = m[1][0]
		case api.TokEsc:
			x.Inter, x.Final = m[1], m[2][0]
		case api.TokOsc:
			x.Data = m[1]
		default:
			if m[1] != "" {
				x.Private = m[1][0]
			}
			x.Params, x.Inter, x.Final = numbers(t, m[2]), m[3], m[4][0]
			if r.kind == api.TokDcs {
				x.Data = m[5]
			}
		}
		return x, s[len(m[0]):]
	}
	r, n := utf8.DecodeRuneInString(s)
	if r == utf8.RuneError && n < 2 {
		t.Fatalf("%.120q: no token", s)
	}
	return api.Token{Kind: api.TokPrint, Rune: r}, s[n:]
}

// numbers: the parameters that bytes tell.
func numbers(t *testing.T, s string) [][]int {
	t.Helper()
	var p [][]int
	if s == "" {
		return nil
	}
	for _, x := range strings.Split(s, ";") {
		var row []int
		for _, y := range strings.Split(x, ":") {
			n := -1
			if y != "" {
				var err error
				if n, err = strconv.Atoi(y); err != nil {
					t.Fatal(err)
				}
			}
			row = append(row, n)
		}
		p = append(p, row)
	}
	return p
}

// pool: tokens that are right, with parts at the ends of what they may be.
func pool() []api.Token {
	l := token.Print("A[]P\\0;m \u20ac\u00a0\U0001f600\ufffd")
	for _, c := range "\x00\x07\n\x17\x19\x1c\x1f" {
		l = append(l, api.Token{Kind: api.TokControl, Final: byte(c)})
	}
	for _, c := range "0O\\~" {
		l = append(l, token.Esc("", byte(c)))
	}
	l = append(l, token.Esc("(", 'P'), token.Esc("/ ", '['), token.Esc(" ", ']'), token.Esc("#", '_'))
	for _, kind := range headed() {
		for _, p := range [][][]int{nil, {{0}}, {{-1, -1}}, {{-1}, {-1}}, {{12}}, {{1}, {2}}, {{1, 2}}, {{-1}, {3, -1}}, {{65535}}} {
			l = append(l, api.Token{Kind: kind, Params: p, Final: 'm'})
		}
		l = append(l,
			api.Token{Kind: kind, Final: '@'},
			api.Token{Kind: kind, Private: '<', Final: '~'},
			api.Token{Kind: kind, Private: '?', Params: [][]int{{25}}, Final: 'h'},
			api.Token{Kind: kind, Private: '?', Params: [][]int{{2}, {5}}, Inter: "$", Final: 'p'},
			api.Token{Kind: kind, Inter: "! ", Final: 'p'})
	}
	for _, s := range []string{"", "m", "1m", "0;t", "\x80\xff", "\u20ac]P[\\"} {
		l = append(l, api.Token{Kind: api.TokOsc, Data: s}, api.Token{Kind: api.TokDcs, Final: 'm', Data: s}, api.Token{Kind: api.TokDcs, Params: [][]int{{1}}, Inter: "$", Final: 'q', Data: s})
	}
	// A TokDcs with nothing but its final byte came twice.
	return slices.CompactFunc(sorted(l), token.Same)
}

// sorted: tokens in the order of what is told of them.
func sorted(l []api.Token) []api.Token {
	slices.SortFunc(l, func(a, b api.Token) int { return strings.Compare(show(a), show(b)) })
	return l
}

// P7.3: two rows of tokens have the same bytes only if they are the same: all rows of up to three of the pool.
func TestBytesTellTokens(t *testing.T) {
	l := pool()
	rows := map[string][]int{"": nil}
	var grow func(row []int, tokens []api.Token)
	grow = func(row []int, tokens []api.Token) {
		for i, x := range l {
			now := append(slices.Clone(row), i)
			all := append(slices.Clone(tokens), x)
			s, e := token.Put(all...)
			if e != api.OK {
				t.Fatalf("%q is not right", show(x))
			}
			if other, is := rows[s]; is {
				t.Fatalf("%q: the tokens %v, and %v", s, other, now)
			}
			rows[s] = now
			if len(now) < 3 {
				grow(now, all)
			}
		}
	}
	grow(nil, nil)
}

// P7.3: from bytes that were laid the same tokens are read: rows without any order, but the same ones each time.
func TestReadAgain(t *testing.T) {
	l, rs := pool(), readers()
	seed := uint64(1)
	next := func(n int) int {
		seed = seed*6364136223846793005 + 1442695040888963407
		return int(seed >> 33 % uint64(n))
	}
	for range 3000 {
		var all []api.Token
		for range next(12) {
			all = append(all, l[next(len(l))])
		}
		s, e := token.Put(all...)
		if e != api.OK {
			t.Fatal(e)
		}
		var got []api.Token
		for rest := s; rest != ""; {
			var x api.Token
			x, rest = readOne(t, rest, rs)
			got = append(got, x)
		}
		if !sameAll(got, all) {
			t.Fatalf("%q is read as other tokens", s)
		}
	}
}

// P7.3: the longest token of each kind is read again, too.
func TestLongest(t *testing.T) {
	rs := readers()
	p := slices.Repeat([][]int{row(maxSubs, maxParam)}, maxParams)
	data := strings.Repeat("\xff", maxString)
	for _, x := range []api.Token{
		{Kind: api.TokPrint, Rune: 0x10ffff},
		{Kind: api.TokEsc, Inter: "//", Final: '~'},
		{Kind: api.TokCsi, Private: '?', Params: p, Inter: "//", Final: '~'},
		{Kind: api.TokOsc, Data: data},
		{Kind: api.TokDcs, Private: '?', Params: p, Inter: "//", Final: '~', Data: data},
	} {
		judge(t, x, true)
		s, _ := token.Put(x)
		if got, rest := readOne(t, s, rs); rest != "" || !token.Same(got, x) {
			t.Errorf("%.120q is read as %.120q", show(x), show(got))
		}
	}
}

// P7.3: which bytes stand where: 80 and above, and ESC.
func TestWhereBytesStand(t *testing.T) {
	for _, x := range pool() {
		s, _ := token.Put(x)
		for n := range len(s) {
			if s[n] >= 0x80 && x.Kind != api.TokPrint && !strings.Contains(x.Data, s[n:n+1]) {
				t.Errorf("%q: %x", s, s[n])
			}
			if s[n] == 0x1b && n != 0 && !(x.Kind == api.TokDcs && n == len(s)-2) {
				t.Errorf("%q: ESC at %v", s, n)
			}
		}
		if begins := x.Kind != api.TokPrint && x.Kind != api.TokControl; begins != (s[0] == 0x1b) {
			t.Errorf("%q: begins so", s)
		}
	}
}

// P1: what is handed in stays as it is, whatever it is.
func TestHandedInStays(t *testing.T) {
	back := []int{1, -1, 65535, 70000}
	p := [][]int{back[:2], {-1}, back[:3], nil, {}}
	x := api.Token{Kind: api.TokDcs, Private: '?', Params: p[:3:4], Inter: "$", Final: 'q', Data: "m"}
	l := []api.Token{x, tok(api.TokOsc), {Kind: 99, Params: p}}
	keep := []api.Token{token.Copy(l[0]), token.Copy(l[1]), token.Copy(l[2])}
	token.Put(l...)
	token.Put(l[:2]...)
	for _, y := range l {
		token.Right(y)
		token.Copy(y)
		for _, z := range l {
			token.Same(y, z)
		}
	}
	if !sameAll(l, keep) || !slices.Equal(back, []int{1, -1, 65535, 70000}) || p[3] != nil || p[4] == nil {
		t.Error("changed:", l, back, p)
	}
}
