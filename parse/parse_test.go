package parse_test

import (
	"reflect"
	"slices"
	"strconv"
	"strings"
	"testing"

	"marquee/api"
	"marquee/parse"
	"marquee/token"
)

// The limits, as the document writes them.
const (
	maxParams = 32
	maxSubs   = 8
	maxParam  = 65535
	maxString = 1024
)

// Tokens of each kind, in few words.

func control(c byte) api.Token { return api.Token{Kind: api.TokControl, Final: c} }

func osc(data string) api.Token { return api.Token{Kind: api.TokOsc, Data: data} }

func dcs(final byte, data string) api.Token {
	return api.Token{Kind: api.TokDcs, Final: final, Data: data}
}

func printed(l ...rune) []api.Token {
	var all []api.Token
	for _, r := range l {
		all = append(all, api.Token{Kind: api.TokPrint, Rune: r})
	}
	return all
}

func all(l ...any) []api.Token {
	var row []api.Token
	for _, x := range l {
		switch x := x.(type) {
		case api.Token:
			row = append(row, x)
		case []api.Token:
			row = append(row, x...)
		case string:
			row = append(row, printed([]rune(x)...)...)
		}
	}
	return row
}

// csi: a TokCsi with all that it may have.
func csi(private byte, inter string, final byte, p ...[]int) api.Token {
	return api.Token{Kind: api.TokCsi, Private: private, Params: p, Inter: inter, Final: final}
}

// sameAll: are both the same tokens?
func sameAll(a, b []api.Token) bool {
	return slices.EqualFunc(a, b, func(x, y api.Token) bool {
		same := slices.EqualFunc(x.Params, y.Params, func(p, q []int) bool { return slices.Equal(p, q) })
		return same && x.Kind == y.Kind && x.Rune == y.Rune && x.Private == y.Private &&
			x.Inter == y.Inter && x.Final == y.Final && x.Data == y.Data
	})
}

// tell: tokens' parts, to be told.
func tell(l []api.Token) string {
	s := ""
	for _, t := range l {
		s += "{" + strconv.Itoa(t.Kind) + " " + strconv.QuoteRune(t.Rune) + " " + strconv.Itoa(int(t.Private))
		for _, row := range t.Params {
			s += " ;"
			for _, n := range row {
				s += " " + strconv.Itoa(n)
			}
		}
		s += " " + strconv.Quote(t.Inter) + " " + strconv.Itoa(int(t.Final)) + " " + strconv.Quote(t.Data) + "}"
	}
	return s
}

// rowCase: bytes, and the tokens of them.
type rowCase struct {
	bytes string
	want  []api.Token
}

func judge(t *testing.T, l []rowCase) {
	t.Helper()
	for _, c := range l {
		if got := parse.Tokens(c.bytes); !sameAll(got, c.want) {
			t.Errorf("%.80q: %.400s; not %.400s", c.bytes, tell(got), tell(c.want))
		}
	}
}

// P8.1: the chapter's examples.
func TestExamples(t *testing.T) {
	judge(t, []rowCase{
		{"a\x1b[31m", all("a", token.Csi('m', 31))},
		{"\x1b[1\n;2H", all(control('\n'), token.Csi('H', 1, 2))},
		{"\x1b]0;hi\x07", all(osc("0;hi"))},
		{"\x1b]0;hi\x1b\\", all(osc("0;hi"))},
		{"\xc3\x1b7", all("\ufffd", token.Esc("", '7'))},
		{"\x1b[1\xe4\xb8\xad", all("\u4e2d")},
		{"\x1bP1$qm\x1b\\x", all(api.Token{Kind: api.TokDcs, Params: [][]int{{1}}, Inter: "$", Final: 'q', Data: "m"}, "x")},
	})
}

// P8.1: in the ground.
func TestGround(t *testing.T) {
	judge(t, []rowCase{
		{"", nil},
		{" ~", all(" ~")},
		{"a\u00e9\u20ac\U0001f600", all("a\u00e9\u20ac\U0001f600")},
		{"\u0080\u009b\u009f\u00a0", all("\u00a0")},
		{"a\x7fb", all("ab")},
		{"\x9b1m\x80", all("\ufffd1m\ufffd")},
		{"\x00\x07\x0a\x17\x19\x1c\x1f", all(control(0), control(7), control(10), control(0x17), control(0x19), control(0x1c), control(0x1f))},
		{"a\x18b\x1ac", all("abc")},
		// What the decoder held ends.
		{"\xc3\n", all("\ufffd", control('\n'))},
		{"\xe2\x82\x18", all("\ufffd")},
		{"\xe2\x82\x1a\xac", all("\ufffd\ufffd")},
		{"\xf0\x9f\x98\x7f\x80", all("\ufffd\ufffd")},
		{"\xe2\x1b\x82", all("\ufffd\ufffd")},
		{"\xc3A", all("\ufffdA")},
		{"\xc3\xc2\x85", all("\ufffd")},
		// What it holds still may go on.
		{"\xf0\x9f\x98", nil},
		{"a\xc3", all("a")},
	})
}

// P8.1: escape sequences.
func TestEscapeSequences(t *testing.T) {
	judge(t, []rowCase{
		{"\x1b7x", all(token.Esc("", '7'), "x")},
		{"\x1b0\x1b~", all(token.Esc("", '0'), token.Esc("", '~'))},
		{"\x1b\\", all(token.Esc("", '\\'))},
		{"\x1b(0\x1b$)C", all(token.Esc("(", '0'), token.Esc("$)", 'C'))},
		{"\x1b [\x1b/P\x1b#]\x1b X\x1b ^\x1b _", all(token.Esc(" ", '['), token.Esc("/", 'P'), token.Esc("#", ']'), token.Esc(" ", 'X'), token.Esc(" ", '^'), token.Esc(" ", '_'))},
		{"\x1b(((0x", all("x")},
		{"\x1b(((]x\x1b(((((Px", all("xx")},
		{"\x1b\x7f(\x7f0", all(token.Esc("(", '0'))},
		{"\x1b\n(\x07B", all(control('\n'), control(7), token.Esc("(", 'B'))},
		{"\x1b(((\nB", all(control('\n'))},
		{"\x1b\x1b\x1b7", all(token.Esc("", '7'))},
		{"\x1b(\x1b7", all(token.Esc("", '7'))},
		{"\x1b(\x18B", all("B")},
		{"\x1b\x1aB", all("B")},
		{"\x1b\xc3\xa9", all("\u00e9")},
		{"\x1b(((\xe2\x82\xac", all("\u20ac")},
		{"\x1b\x9bm", all("\ufffdm")},
	})
}

// P8.1: heads.
func TestHeads(t *testing.T) {
	judge(t, []rowCase{
		{"\x1b[m", all(csi(0, "", 'm'))},
		{"\x1b[@\x1b[~", all(csi(0, "", '@'), csi(0, "", '~'))},
		{"\x1b[[x", all(csi(0, "", '['), "x")},
		{"\x1b[P", all(csi(0, "", 'P'))},
		{"\x1b[;m", all(token.Csi('m', -1, -1))},
		{"\x1b[:m", all(csi(0, "", 'm', []int{-1, -1}))},
		{"\x1b[4:3;38:2::1:2:3m", all(csi(0, "", 'm', []int{4, 3}, []int{38, 2, -1, 1, 2, 3}))},
		{"\x1b[007;70000m", all(token.Csi('m', 7, 65535))},
		{"\x1b[?25h\x1b[>c\x1b[<M\x1b[=1c", all(csi('?', "", 'h', []int{25}), csi('>', "", 'c'), csi('<', "", 'M'), csi('=', "", 'c', []int{1}))},
		{"\x1b[1 q\x1b[!p\x1b[?2$p\x1b[ /p", all(csi(0, " ", 'q', []int{1}), csi(0, "!", 'p'), csi('?', "$", 'p', []int{2}), csi(0, " /", 'p'))},
		// Spoilt ones: x is what is behind them.
		{"\x1b[??hx", all("x")},
		{"\x1b[1?hx", all("x")},
		{"\x1b[;?hx", all("x")},
		{"\x1b[$?px", all("x")},
		{"\x1b[$1px", all("x")},
		{"\x1b[$;px", all("x")},
		{"\x1b[1$:px", all("x")},
		{"\x1b[   mx", all("x")},
		{"\x1b[1?2;3mx\x1b[1m", all("x", token.Csi('m', 1))},
		// C0 and 7F are no bytes of the head.
		{"\x1b[\x07?\n2\x7f5\x00h", all(control(7), control('\n'), control(0), csi('?', "", 'h', []int{25}))},
		{"\x1b[\x7f?1h", all(csi('?', "", 'h', []int{1}))},
		{"\x1b[??\nh", all(control('\n'))},
		{"\x1bP\n$\x07q\x7fm\n\x1b\\", all(control('\n'), control(7), api.Token{Kind: api.TokDcs, Inter: "$", Final: 'q', Data: "m"})},
		// Given up.
		{"\x1b[1\x18m", all("m")},
		{"\x1b[1\x1am", all("m")},
		{"\x1b[1\x1b[2m", all(token.Csi('m', 2))},
		{"\x1b[1\x1b\\m", all(token.Esc("", '\\'), "m")},
		{"\x1b[1\xc3\xa9m", all("\u00e9m")},
		{"\x1bP1\xc3\xa9q", all("\u00e9q")},
		{"\x1bP1\x18q", all("q")},
		{"\x1bP1\x1b\\q", all(token.Esc("", '\\'), "q")},
		{"\x1b[?\x80", all("\ufffd")},
		// Without an end.
		{"\x1b[1;2", nil},
		{"\x1bP1;2", nil},
	})
}

// P8.1: parameters that are left out don't spoil a head.
func TestLeftOut(t *testing.T) {
	many := strings.Repeat("1;", maxParams-1)
	deep := strings.Repeat("2:", maxSubs-1)
	ones := slices.Repeat([][]int{{1}}, maxParams-1)
	twos := slices.Repeat([]int{2}, maxSubs-1)
	for _, c := range []struct {
		bytes string
		want  [][]int
	}{
		{many + "3", append(slices.Clone(ones), []int{3})},
		{many + "3;4;5:6", append(slices.Clone(ones), []int{3})},
		{many, append(slices.Clone(ones), []int{-1})},
		{deep + "3", [][]int{append(slices.Clone(twos), 3)}},
		{deep + "3:4:5;6", [][]int{append(slices.Clone(twos), 3), {6}}},
		{many + deep + "3:4;5", append(slices.Clone(ones), append(slices.Clone(twos), 3))},
		{strings.Repeat("9", 1000), [][]int{{maxParam}}},
		{strings.Repeat("0", 1000) + "7", [][]int{{7}}},
	} {
		judge(t, []rowCase{
			{"\x1b[" + c.bytes + "m", all(csi(0, "", 'm', c.want...))},
			{"\x1bP" + c.bytes + "m\x1b\\", all(api.Token{Kind: api.TokDcs, Params: c.want, Final: 'm'})},
		})
	}
}

// P8.1: data, and other strings.
func TestStrings(t *testing.T) {
	judge(t, []rowCase{
		{"\x1b]\x07\x1b]\x1b\\", all(osc(""), osc(""))},
		{"\x1b]a\xff\x80\xc3~ \x07", all(osc("a\xff\x80\xc3~ "))},
		{"\x1b]a\n\x00\x7fb\x19\x1f\x07", all(osc("ab"))},
		{"\x1b]ab", nil},
		{"\x1b]ab\x1b", all(osc("ab"))},
		{"\x1b]ab\x18c", all("c")},
		{"\x1b]ab\x1a\x07", all(control(7))},
		{"\x1b]a\u009cb\x07", all(osc("a\u009cb"))},
		{"\x1bPq\x1b\\\x1bPqab\x1b\\", all(dcs('q', ""), dcs('q', "ab"))},
		{"\x1bPqa\x07b\n\x7f\xff\x1b\\", all(dcs('q', "ab\xff"))},
		{"\x1bPqab\x18\x1b\\", all(token.Esc("", '\\'))},
		{"\x1bP?1;2$qab\x1b\\", all(api.Token{Kind: api.TokDcs, Private: '?', Params: [][]int{{1}, {2}}, Inter: "$", Final: 'q', Data: "ab"})},
		{"\x1bP1?qab\x1b\\x", all("x")},
		{"\x1bP   qab\x1b\\x", all("x")},
		{"\x1bP$1qab\n\x07\x1b\\x", all("x")},
		{"\x1bP1?qab\x18x", all("x")},
		{"\x1bXab\x07\n\xff\x7fc\x1b\\x", all("x")},
		{"\x1b^ab\x1b\\\x1b_[1m\x1b\\x", all("x")},
		{"\x1bXab\x18x\x1b_\x1ay", all("xy")},
		{"\x1bX\x1bX\x1b\\x", all("x")},
	})
}

// P8.1: the escape sequence behind a string gives no token, if \ is its next byte.
func TestStringsEnds(t *testing.T) {
	for _, c := range []struct {
		bytes string
		want  []api.Token
	}{
		{"\x1b]s", all(osc("s"))},
		{"\x1bPqs", all(dcs('q', "s"))},
		{"\x1bP1?qs", nil},
		{"\x1bXs", nil},
		{"\x1b^s", nil},
		{"\x1b_s", nil},
		{"\x1b]" + strings.Repeat("s", maxString+1), nil},
	} {
		for _, d := range []rowCase{
			{"\x1b\\x", all("x")},
			{"\x1b\n\x7f\\x", all(control('\n'), "x")},
			{"\x1b\x07\x00\\x", all(control(7), control(0), "x")},
			{"\x1b \\x", all(token.Esc(" ", '\\'), "x")},
			{"\x1b7x", all(token.Esc("", '7'), "x")},
			{"\x1b(Bx", all(token.Esc("(", 'B'), "x")},
			{"\x1b[1mx", all(token.Csi('m', 1), "x")},
			{"\x1b[\\x", all(token.Csi('\\'), "x")},
			{"\x1b]y\x1b\\x", all(osc("y"), "x")},
			{"\x1b\x1b\\x", all(token.Esc("", '\\'), "x")},
			{"\x1b\x18\\x", all("\\x")},
			{"\x1b\xc3\xa9\\", all("\u00e9\\")},
			{"\x1b\\\x1b\\x", all(token.Esc("", '\\'), "x")},
		} {
			judge(t, []rowCase{{c.bytes + d.bytes, all(c.want, d.want)}})
		}
	}
}

// P8.1: data of as many bytes as may be, and of one more.
func TestLongData(t *testing.T) {
	x := strings.Repeat("x", maxString)
	for _, end := range []string{"\x07", "\x1b\\"} {
		judge(t, []rowCase{
			{"\x1b]" + x + end, all(osc(x))},
			{"\x1b]" + x + "\n\x7f" + end, all(osc(x))},
			{"\x1b]" + x + "x" + end + "y", all("y")},
			{"\x1b]" + x + x + x + end + "y", all("y")},
			{"\x1b]" + x + "\xff" + end + "\x1b]y" + end, all(osc("y"))},
		})
	}
	judge(t, []rowCase{
		{"\x1bP1q" + x + "\x1b\\", all(api.Token{Kind: api.TokDcs, Params: [][]int{{1}}, Final: 'q', Data: x})},
		{"\x1bP1q" + x + "x\x1b\\y", all("y")},
		{"\x1bX" + x + x + "\x1b\\y", all("y")},
	})
}

// P8.1: Push, Read and Tokens tell the same; the texts of Read count as one.
func TestPushRead(t *testing.T) {
	if l := parse.New().Read(); len(l) != 0 {
		t.Error(tell(l))
	}
	if l := parse.Tokens(); len(l) != 0 {
		t.Error(tell(l))
	}
	s := "a\x1b[1\n;2m\x1b]0;\xe2\x82\xac\x1b\\\xe2\x82\xac\xc3\n\x1b(B"
	want := all("a", control('\n'), token.Csi('m', 1, 2), osc("0;\u20ac"), "\u20ac\ufffd", control('\n'), token.Esc("(", 'B'))
	var l []api.Token
	p := parse.New()
	for n := range len(s) {
		l = append(l, p.Push(s[n])...)
	}
	cut := strings.SplitAfter(s, "")
	for i, got := range [][]api.Token{l, parse.New().Read(s), parse.Tokens(s), parse.New().Read(cut...), parse.Tokens(cut...), parse.Tokens("", s, "")} {
		if !sameAll(got, want) {
			t.Errorf("%v: %s", i, tell(got))
		}
	}
	// A new one each time.
	if l := parse.Tokens("\x1b["); len(l) != 0 {
		t.Error(tell(l))
	}
	if l := parse.Tokens("1m"); !sameAll(l, all("1m")) {
		t.Error(tell(l))
	}
}

// P8.1: a token comes with the byte that makes it known.
func TestWhenTokensCome(t *testing.T) {
	for _, c := range []struct {
		bytes string
		want  [][]api.Token
	}{
		{"\xe2\x82\xac", [][]api.Token{nil, nil, all("\u20ac")}},
		{"\xc3\n", [][]api.Token{nil, all("\ufffd", control('\n'))}},
		{"\xc3A", [][]api.Token{nil, all("\ufffdA")}},
		{"\xc3\x1b7", [][]api.Token{nil, all("\ufffd"), all(token.Esc("", '7'))}},
		{"\x1b[\n1m", [][]api.Token{nil, nil, all(control('\n')), nil, all(token.Csi('m', 1))}},
		{"\x1b]a\x1b\\", [][]api.Token{nil, nil, nil, all(osc("a")), nil}},
		{"\x1b]a\x07", [][]api.Token{nil, nil, nil, all(osc("a"))}},
		{"\x1bPqa\x1b\\", [][]api.Token{nil, nil, nil, nil, all(dcs('q', "a")), nil}},
		{"\x1b[1a", [][]api.Token{nil, nil, nil, all(token.Csi('a', 1))}},
		{"\x1b[\x80", [][]api.Token{nil, nil, all("\ufffd")}},
	} {
		p := parse.New()
		for n := range len(c.bytes) {
			if l := p.Push(c.bytes[n]); !sameAll(l, c.want[n]) {
				t.Errorf("%q, byte %v: %s", c.bytes, n, tell(l))
			}
		}
	}
}

// P8.2: Ground and Held.
func TestGroundHeld(t *testing.T) {
	x := strings.Repeat("x", maxString)
	for _, c := range []struct {
		bytes  string
		ground bool
		held   int
	}{
		{"", true, 0},
		{"ab\n\x18\x7f", true, 0},
		{"\xc3", false, 1},
		{"\xe2\x82", false, 2},
		{"\xf0\x9f\x98", false, 3},
		{"\xf0\x9f\x98\x80", true, 0},
		{"\xf0\x9f\x98\x18", true, 0},
		{"\xf0\x9f\x98\x7f", true, 0},
		{"\xf0\x9f\x98\xf0", false, 1},
		{"\xf0\x9f\x98\x1b", false, 0},
		{"\x1b", false, 0},
		{"\x1b(", false, 0},
		{"\x1b(B", true, 0},
		{"\x1b(((", false, 0},
		{"\x1b(((B", true, 0},
		{"\x1b[?1;2$", false, 0},
		{"\x1b[?1;2$p", true, 0},
		{"\x1b[1\xc3", false, 1},
		{"\x1bP?1;2$", false, 0},
		{"\x1bP1$q", false, 0},
		{"\x1bP1$qab", false, 2},
		{"\x1bP1$qab\x1b", false, 0},
		{"\x1bP1$qab\x1b\\", true, 0},
		{"\x1bP1?qab", false, 2},
		{"\x1b]", false, 0},
		{"\x1b]0;\xe2\x82", false, 4},
		{"\x1b]0;\n\x7f", false, 2},
		{"\x1b]ab\x07", true, 0},
		{"\x1b]ab\x18", true, 0},
		{"\x1b]ab\x1b[", false, 0},
		{"\x1b]" + x[1:], false, maxString - 1},
		{"\x1b]" + x, false, maxString},
		{"\x1b]" + x + "x", false, maxString},
		{"\x1b]" + x + x, false, maxString},
		{"\x1b]" + x + "\x1b\\\xf0\x9f\x98", false, 3},
		{"\x1bX" + x, false, 0},
		{"\x1b_ab\x1b", false, 0},
		{"\x1b_ab\x1b\\", true, 0},
	} {
		p := parse.New()
		p.Read(c.bytes)
		if p.Ground() != c.ground || p.Held() != c.held {
			t.Errorf("%.80q: %v, %v", c.bytes, p.Ground(), p.Held())
		}
	}
}

// alike: rows of texts; those of a row leave parsers in the same state, those of two rows in other ones.
func alike() [][]string {
	x := strings.Repeat("x", maxString)
	many := "\x1b[" + strings.Repeat("1;", maxParams-1)
	deep := strings.Repeat("2:", maxSubs-1)
	return [][]string{
		{"", "a", "\u00e9\n", "\x18", "\xc3\x18", "\x7f", "\x1b7", "\x1b\x18", "\x1b(((B", "\x1b[1;2m", "\x1b[1?m", "\x1b]x\x07", "\x1b]x\x1b\\", "\x1bPqx\x1a", "\x1b]" + x + "x\x07", "\x1b[1\u00e9", many + ";m"},
		{"\xc3", "a\xc3", "\x1b[1\xc3", "\xe2\x82\xc3"},
		{"\xc4"},
		{"\xe2\x82"},
		{"\xe2"},
		{"\xf0\x9f\x98"},
		{"\x1b", "\x1b\n\x7f", "\x1b\x1b", "\xc3\x1b", "\x1b(\x1b", "\x1b[1?\x1b", "\x1bP1\x1b", "\x1b]x\x1b\x1b"},
		{"\x1b]x\x1b", "\x1b]\x1b\n\x7f", "\x1bP1qx\x1b", "\x1bP1?qx\x1b", "\x1b_x\x1b", "\x1b]" + x + x + "\x1b"},
		{"\x1b(", "\x1b\n(\x7f", "\x1b]x\x1b("},
		{"\x1b)"},
		{"\x1b(("},
		{"\x1b(((", "\x1b((/", "\x1b(((((("},
		{"\x1b[", "\x1b]x\x1b[", "\x1b[\n\x7f"},
		{"\x1bP", "\x1b]x\x1bP"},
		{"\x1b[?"},
		{"\x1b[>"},
		{"\x1b[??", "\x1b[?>?"},
		{"\x1b[1", "\x1b[01", "\x1b[00\n1"},
		{"\x1b[0", "\x1b[000"},
		{"\x1b[1?", "\x1b[1>?", "\x1b[01=="},
		{"\x1b[1;"},
		{"\x1b[;1"},
		{"\x1b[1:"},
		{"\x1b[;"},
		{"\x1b[:"},
		{"\x1b[?1"},
		{"\x1bP1"},
		{"\x1b[65535", "\x1b[65536", "\x1b[99999999"},
		{"\x1b[6553"},
		{"\x1b[ "},
		{"\x1b[1 "},
		{"\x1b[1 1", "\x1b[1 2;3"},
		{many + "5"},
		{many + "5;", many + "5;6", many + "5;:;7"},
		{many},
		{many + ";", many + ";6"},
		{"\x1b[" + deep + "5"},
		{"\x1b[" + deep + "5:", "\x1b[" + deep + "5:6", "\x1b[" + deep + "5::7"},
		{"\x1b[" + deep + "5;", "\x1b[" + deep + "5::7;"},
		{many + deep + "5"},
		{many + deep + "5;", many + deep + "5:", many + deep + "5:6;7"},
		{"\x1bPq", "\x1bPq\n\x07\x7f"},
		{"\x1bPr"},
		{"\x1bP1q"},
		{"\x1bP?q"},
		{"\x1bP$q"},
		{"\x1bP??q"},
		{"\x1bPqx"},
		{"\x1bPqy"},
		{"\x1bPq" + x},
		{"\x1bPq" + x + "x", "\x1bPq" + x + "yyy"},
		{"\x1b]", "\x1b]\n\x7f", "\x1bX\x1b]"},
		{"\x1b]x", "\x1b]\nx\x7f"},
		{"\x1b]" + x},
		{"\x1b]" + x + "x", "\x1b]" + x + x},
		{"\x1bX", "\x1b^", "\x1b_", "\x1bXab\x07\n\x7f\xff", "\x1bX" + x + x},
	}
}

// after: a parser that has read bytes.
func after(s string) *parse.Parser {
	p := parse.New()
	p.Read(s)
	return p
}

// P8.2: Same.
func TestSame(t *testing.T) {
	type one struct {
		row   int
		bytes string
		p     *parse.Parser
	}
	var l []one
	for i, row := range alike() {
		for _, s := range row {
			l = append(l, one{i, s, after(s)})
		}
	}
	for _, a := range l {
		for _, b := range l {
			if is := parse.Same(a.p, b.p); is != (a.row == b.row) {
				t.Errorf("%.80q, %.80q: %v", a.bytes, b.bytes, is)
			}
		}
	}
}

// P8.2: two in the same state make the same tokens of whatever comes, and are in the same state behind it.
func TestSameGoOn(t *testing.T) {
	for _, row := range alike() {
		a := after(row[0])
		for _, s := range row[1:] {
			b := after(s)
			each(pool, 2, func(more string) {
				for _, end := range []string{"", "5m", "\x07", "\x1b\\"} {
					c, d := a.Copy(), b.Copy()
					if x, y := c.Read(more, end), d.Read(more, end); !sameAll(x, y) || !parse.Same(c, d) {
						t.Fatalf("%.80q, %.80q, behind them %q: %s; %s", row[0], s, more+end, tell(x), tell(y))
					}
				}
			})
		}
	}
}

// silent: does nothing come of what these bytes leave under way: is it spoilt, or another string?
func silent(s string) bool {
	if len(s) > maxString {
		return strings.HasSuffix(s, strings.Repeat("x", maxString+1))
	}
	for _, x := range []string{"??", "1?", "1 1", "(((", "\x1bX"} {
		if strings.Contains(s, x) {
			return true
		}
	}
	return false
}

// P8.2: of two parsers in other states, but of those of which nothing comes, something that comes makes other tokens.
func TestOthersGoOn(t *testing.T) {
	var l []string
	for _, row := range alike() {
		l = append(l, row[0])
	}
	var ends []string
	each("\x1b\\1;m\x80\xa9\x07", 2, func(s string) { ends = append(ends, s, s+"m", s+"\x1b\\", s+"q\x1b\\") })
	told := make([]string, len(l))
	for i, s := range l {
		p := after(s)
		for _, end := range ends {
			told[i] += strconv.Quote(tell(p.Copy().Read(end)))
		}
	}
	for i, a := range l {
		for k, b := range l {
			if i != k && told[i] == told[k] && !(silent(a) && silent(b)) {
				t.Errorf("%.80q and %.80q are told apart by nothing", a, b)
			}
		}
	}
}

// P8.2: a copy is in the same state, and goes on by itself.
func TestCopy(t *testing.T) {
	many := strings.Repeat("1:2;", maxParams+2) + strings.Repeat("3:", maxSubs+2)
	for _, s := range []string{
		"a\x1b[?1;2:3$p\xe2\x82\xac\n",
		"\x1bP1;2$qdata\x1b\\x",
		"\x1b]0;\xe2\x82\xac\x1b\n\\x\x1b(B",
		"\x1bXabc\x1b\\\x1b(((Bx",
		"\x1b[" + many + "m",
		"\x1b[" + strings.Repeat("4:", maxSubs+2) + "5;6" + many + "m",
		"\x1b]" + strings.Repeat("x", maxString+2) + "\x07y",
	} {
		p := parse.New()
		for n := range len(s) {
			c, d := p.Copy(), p.Copy()
			if !parse.Same(c, p) || c.Ground() != p.Ground() || c.Held() != p.Held() {
				t.Fatalf("%.80q: a copy at %v is another one", s, n)
			}
			c.Read("9;8\x1b\\z\x1b]z")
			if !parse.Same(d, p) {
				t.Fatalf("%.80q: changed by a copy at %v", s, n)
			}
			before := parse.Tokens(s[:n])
			if l := d.Read(s[n:]); !sameAll(append(before, l...), parse.Tokens(s)) {
				t.Fatalf("%.80q: a copy at %v goes on otherwise", s, n)
			}
			p.Push(s[n])
		}
	}
	// One goes on while its copy stays.
	p := after("\x1b]ab")
	c := p.Copy()
	p.Read("cd")
	if l := c.Read("x\x07"); !sameAll(l, all(osc("abx"))) {
		t.Error(tell(l))
	}
	if l := p.Read("\x07"); !sameAll(l, all(osc("abcd"))) {
		t.Error(tell(l))
	}
}

// P8.2, P1: a parser that is none; and one that New did not make.
func TestNone(t *testing.T) {
	var p *parse.Parser
	if p.Push('a') != nil || p.Read("a\x1b[m", "b") != nil || !p.Ground() || p.Held() != 0 || p.Copy() != nil {
		t.Error("none answers something")
	}
	for _, q := range []*parse.Parser{parse.New(), after("\x1b[1"), after("\xc3"), {}} {
		if parse.Same(p, q) || parse.Same(q, p) {
			t.Error("none is the same as one")
		}
	}
	if !parse.Same(p, nil) || !parse.Same(nil, nil) {
		t.Error("none is another one")
	}
	var zero parse.Parser
	if !zero.Ground() || !parse.Same(&zero, parse.New()) || !parse.Same(zero.Copy(), &zero) {
		t.Error("not like a new one")
	}
	if l := zero.Read("\x1b[1;2ma"); !sameAll(l, all(token.Csi('m', 1, 2), "a")) {
		t.Error(tell(l))
	}
}

// P8.1, P8.2: a parser has just the methods that the chapter lists; what it embeds gives out none.
func TestMethods(t *testing.T) {
	var names []string
	kind := reflect.TypeFor[*parse.Parser]()
	for i := range kind.NumMethod() {
		names = append(names, kind.Method(i).Name)
	}
	if !slices.Equal(names, []string{"Copy", "Ground", "Held", "Push", "Read"}) {
		t.Error(names)
	}
}

// samples: texts of all that there is.
func samples() []string {
	l := []string{
		"ok\x1b[1;31mred\x1b]2;title\x1b\\\x1bP$qm\x1b\\\u00e9\x1b(0",
		"\xe2\x82\xac\xc3\n\xf0\x9f\x98\x18\x80\x7f",
		"\x1b[" + strings.Repeat("1;", 40) + "m\x1b[1" + strings.Repeat(":2", 20) + ";3m",
		"\x1b]" + strings.Repeat("x", 1030) + "\x1b\\x",
		"\x1bXab\x1b\n\\\x1b_\x1b(B\x1b(((B\x1b]\x1b\x1b\\",
	}
	for seed := range uint64(40) {
		l = append(l, mixed(60, seed, pool))
	}
	return l
}

// P8.3: however bytes are cut, the same tokens come, and the same state.
func TestCuts(t *testing.T) {
	for _, s := range samples() {
		p := parse.New()
		want := p.Read(s)
		for i := range len(s) + 1 {
			for k := i; k <= min(len(s), i+9); k++ {
				q, r := parse.New(), parse.New()
				l := append(append(q.Read(s[:i]), q.Read(s[i:k])...), q.Read(s[k:])...)
				if !sameAll(l, want) || !parse.Same(p, q) {
					t.Fatalf("%.80q, cut at %v, %v: %s", s, i, k, tell(l))
				}
				if l := r.Read(s[:i], s[i:k], s[k:]); !sameAll(l, want) || !parse.Same(p, r) {
					t.Fatalf("%.80q, parted at %v, %v: %s", s, i, k, tell(l))
				}
			}
		}
	}
}

// P8.1, P8.3: byte by byte: the same tokens, two at most of each byte, all of them right; few bytes are held.
func TestByteByByte(t *testing.T) {
	for _, s := range append(samples(), mixed(20000, 1, pool), mixed(20000, 2, "\x1b]x"), mixed(20000, 3, "\xc3\xa9\n\x1b[m")) {
		p := parse.New()
		var l []api.Token
		for n := range len(s) {
			now := p.Push(s[n])
			if len(now) > 2 || p.Held() > maxString+3 {
				t.Fatalf("%.80q, byte %v: %v tokens, %v held", s, n, len(now), p.Held())
			}
			l = append(l, now...)
		}
		if !sameAll(l, parse.Tokens(s)) {
			t.Fatalf("%.80q: %.400s", s, tell(l))
		}
		for _, x := range l {
			if !token.Right(x) {
				t.Fatalf("%.80q: %s is not right", s, tell([]api.Token{x}))
			}
		}
	}
}

// right: tokens that are right, with parts at the ends of what they may be.
func right() []api.Token {
	l := token.Print("A[]P\\0;m~ \u20ac\u00a0\U0001f600\ufffd\U0010ffff")
	for c := range byte(0x20) {
		if x := control(c); token.Right(x) {
			l = append(l, x)
		}
	}
	for c := range byte(0x7f) {
		for _, inter := range []string{"", "(", " /"} {
			if x := token.Esc(inter, c); token.Right(x) {
				l = append(l, x)
			}
		}
	}
	full := slices.Repeat([][]int{slices.Repeat([]int{maxParam}, maxSubs)}, maxParams)
	last := slices.Repeat([][]int{slices.Repeat([]int{-1}, maxSubs)}, maxParams)
	data := []string{"", "m", "1;2m", "0;t", "\x80\xff\u20ac", "]P[\\", strings.Repeat("\xff", maxString)}
	for _, p := range [][][]int{nil, {{0}}, {{-1, -1}}, {{-1}, {-1}}, {{1, 2}, {-1}, {3, -1}}, {{65535}}, full, last} {
		for _, private := range []byte{0, '<', '=', '>', '?'} {
			for _, inter := range []string{"", "$", " /"} {
				for _, final := range []byte{'@', 'm', '[', '\\', '~'} {
					l = append(l, csi(private, inter, final, p...))
					l = append(l, api.Token{Kind: api.TokDcs, Private: private, Params: p, Inter: inter, Final: final, Data: data[len(l)%len(data)]})
				}
			}
		}
	}
	for _, s := range data {
		l = append(l, osc(s), dcs('q', s))
	}
	return l
}

// P8.3: right tokens, laid as bytes, are read as they are; whatever came ahead, behind 18 they are read so, too.
func TestReadAgain(t *testing.T) {
	l := right()
	s, e := token.Put(l...)
	if e != api.OK {
		t.Fatal(e)
	}
	p := parse.New()
	if got := p.Read(s); !sameAll(got, l) || !p.Ground() {
		t.Error("all at once are read as others")
	}
	for _, h := range heads() {
		p := after(h + "\x18")
		if !p.Ground() || !parse.Same(p, parse.New()) {
			t.Fatalf("%.80q: not in the ground", h)
		}
		for _, x := range l {
			s, _ := token.Put(x)
			if got := p.Read(s); !sameAll(got, []api.Token{x}) || !p.Ground() {
				t.Fatalf("%.80q, behind it %.80q: %.400s", h, s, tell(got))
			}
		}
	}
}

// P8.3, P1: what is read again and again stays small: what is spoilt, or left out, comes to one state.
func TestStaysSmall(t *testing.T) {
	for _, c := range []struct{ head, more string }{
		{"\x1b(((", "((((((((("},
		{"\x1b[   ", "         "},
		{"\x1b[1$1", "123;456:7"},
		{"\x1b[99999", "999999999"},
		{"\x1b[" + strings.Repeat("1;", maxParams), "1;2:3;4:;"},
		{"\x1b[" + strings.Repeat("1:", maxSubs), "1:2:3:4::"},
		{"\x1b]" + strings.Repeat("x", maxString+1), "xyz\xff0;1 ("},
		{"\x1bPq" + strings.Repeat("x", maxString+1), "xyz\xff0;1 ("},
		{"\x1bX", "xyz\xff0;1 ("},
	} {
		p, q := after(c.head), after(c.head)
		if l := q.Read(strings.Repeat(c.more, 10000)); len(l) != 0 || !parse.Same(p, q) {
			t.Errorf("%.40q: more comes to another state", c.head)
		}
	}
}

// P1: what is answered is the caller's: changing it changes nothing.
func TestAnswersAreOwn(t *testing.T) {
	const s = "\x1b[1;2:3m\x1bP4;5qx\x1b\\\x1b[1;2:3mab"
	p := parse.New()
	l := p.Read(s)
	want := parse.Tokens(s)
	for i := range l {
		for _, row := range l[i].Params {
			for k := range row {
				row[k] = 77
			}
			_ = append(row, 78, 79, 80)
		}
		_ = append(l[i].Params, []int{81})
	}
	for _, i := range []int{0, 2} {
		if !sameAll([]api.Token{l[i]}, all(csi(0, "", 'm', []int{77}, []int{77, 77}))) {
			t.Error("lists share:", tell(l))
		}
	}
	clear(l)
	_ = append(l[:0], printed('z', 'z')...)
	if again := p.Read(s); !sameAll(again, want) {
		t.Error(tell(again))
	}
	// Of what is under way, too.
	p = after("\x1b[1;2")
	c := p.Copy()
	x := c.Read("m")
	x[0].Params[0][0] = 99
	if y := p.Read(";3m"); !sameAll(y, all(token.Csi('m', 1, 2, 3))) {
		t.Error(tell(y))
	}
}
