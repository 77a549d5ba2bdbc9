package parse_test

import (
	"regexp"
	"strconv"
	"strings"
	"testing"
	"unicode/utf8"

	"marquee/api"
	"marquee/parse"
	"marquee/utf"
)

// reading: what bytes mean by the document's words, looking at all of them at once, without a state that goes on.
type reading struct {
	tokens []api.Token
	ground bool
	held   int
}

var (
	escForm  = regexp.MustCompile(`^([ -/]{0,2})([0-~])$`)
	headForm = regexp.MustCompile(`^([<=>?]?)([0-9:;]*)([ -/]{0,2})([@-~])$`)
)

// nothing: what another string is, whose bytes are not kept.
const nothing = -1

// whole: the reading of a text.
func whole(s string) reading {
	r := reading{ground: true}
	for s != "" {
		switch c := s[0]; {
		case c >= 0x20:
			s = r.text(s)
		case c == 0x1b:
			s = r.sequence(s[1:], false)
		default:
			r.control(c)
			s = s[1:]
		}
	}
	return r
}

// control: a C0 that is no ESC.
func (r *reading) control(c byte) {
	if c != 0x18 && c != 0x1a {
		r.tokens = append(r.tokens, api.Token{Kind: api.TokControl, Final: c})
	}
}

// text: bytes of the ground, up to the first C0.
func (r *reading) text(s string) string {
	n := 0
	for n < len(s) && s[n] >= 0x20 {
		n++
	}
	if n == len(s) {
		r.held = begun(s)
		r.ground = r.held == 0
	}
	for _, c := range utf.Decode(s[:n-r.held]) {
		if c < 0x7f || c > 0x9f {
			r.tokens = append(r.tokens, api.Token{Kind: api.TokPrint, Rune: c})
		}
	}
	return s[n:]
}

// begun: how many bytes at the end of a text are the beginning of a sequence.
func begun(s string) int {
	for n := 1; n <= min(3, len(s)); n++ {
		if !utf8.FullRuneInString(s[len(s)-n:]) {
			return n
		}
	}
	return 0
}

// upto: the bytes up to the first one that is at least final, without C0 (which are told) and 7F; if that comes.
func (r *reading) upto(s string, final byte) (text, rest string, is bool) {
	for n := range len(s) {
		switch c := s[n]; {
		case c >= 0x80 || c == 0x1b:
			return "", s[n:], false
		case c == 0x18 || c == 0x1a:
			return "", s[n+1:], false
		case c == 0x7f:
		case c < 0x20:
			r.control(c)
		default:
			text += s[n : n+1]
			if c >= final {
				return text, s[n+1:], true
			}
		}
	}
	r.ground = false
	return "", "", false
}

// sequence: what is behind an ESC, which ended a string, or did not.
func (r *reading) sequence(s string, ended bool) string {
	text, rest, is := r.upto(s, '0')
	if !is || ended && text == `\` {
		return rest
	}
	switch text {
	case "[":
		t, rest, right := r.head(rest, api.TokCsi)
		if right {
			r.tokens = append(r.tokens, t)
		}
		return rest
	case "P":
		t, rest, right := r.head(rest, api.TokDcs)
		if t.Kind == 0 {
			return rest
		}
		return r.data(rest, t, right, "\x18\x1a\x1b")
	case "]":
		return r.data(rest, api.Token{Kind: api.TokOsc}, true, "\x07\x18\x1a\x1b")
	case "X", "^", "_":
		return r.data(rest, api.Token{Kind: nothing}, false, "\x18\x1a\x1b")
	}
	if m := escForm.FindStringSubmatch(text); m != nil {
		r.tokens = append(r.tokens, api.Token{Kind: api.TokEsc, Inter: m[1], Final: m[2][0]})
	}
	return rest
}

// head: a head, what is behind it, and whether nothing spoilt it; its kind is 0, if it is given up.
func (r *reading) head(s string, kind int) (api.Token, string, bool) {
	text, rest, is := r.upto(s, '@')
	if !is {
		return api.Token{}, rest, false
	}
	t := api.Token{Kind: kind}
	m := headForm.FindStringSubmatch(text)
	if m == nil {
		return t, rest, false
	}
	if m[1] != "" {
		t.Private = m[1][0]
	}
	t.Params, t.Inter, t.Final = numbers(m[2]), m[3], m[4][0]
	return t, rest, true
}

// data: data, up to one of the bytes that end them, and the escape sequence behind them.
func (r *reading) data(s string, t api.Token, right bool, ends string) string {
	n := strings.IndexAny(s, ends)
	text := s[:max(n, 0)]
	if n < 0 {
		text = s
	}
	for n := range len(text) {
		if text[n] >= 0x20 && text[n] != 0x7f {
			t.Data += text[n : n+1]
		}
	}
	if n < 0 {
		r.ground = false
		if t.Kind != nothing {
			r.held = min(len(t.Data), maxString)
		}
		return ""
	}
	if s[n] == 0x18 || s[n] == 0x1a {
		return s[n+1:]
	}
	if right && len(t.Data) <= maxString {
		r.tokens = append(r.tokens, t)
	}
	if s[n] == 7 {
		return s[n+1:]
	}
	return r.sequence(s[n+1:], true)
}

// numbers: the parameters that bytes tell.
func numbers(s string) [][]int {
	if s == "" {
		return nil
	}
	var p [][]int
	for _, x := range first(strings.Split(s, ";"), maxParams) {
		var row []int
		for _, y := range first(strings.Split(x, ":"), maxSubs) {
			n := -1
			if y = strings.TrimLeft(y, "0"); len(y) > 5 {
				n = maxParam
			} else if y != "" {
				n, _ = strconv.Atoi(y)
				n = min(n, maxParam)
			}
			row = append(row, n)
		}
		p = append(p, row)
	}
	return zeros(p, s)
}

// zeros: the same numbers, with 0 where there is nothing but digits 0.
func zeros(p [][]int, s string) [][]int {
	for i, x := range first(strings.Split(s, ";"), maxParams) {
		for k, y := range first(strings.Split(x, ":"), maxSubs) {
			if y != "" && p[i][k] == -1 {
				p[i][k] = 0
			}
		}
	}
	return p
}

// first: those of l that are not left out.
func first(l []string, most int) []string { return l[:min(len(l), most)] }

// agree: do a text's bytes make what they mean, at once, and one by one?
func agree(t *testing.T, s string) {
	t.Helper()
	want := whole(s)
	p := parse.New()
	if got := p.Read(s); !sameAll(got, want.tokens) {
		t.Fatalf("%.80q: %s; not %s", s, tell(got), tell(want.tokens))
	}
	if p.Ground() != want.ground || p.Held() != want.held {
		t.Fatalf("%.80q: %v, %v; not %v, %v", s, p.Ground(), p.Held(), want.ground, want.held)
	}
}

// heads: bytes that leave a parser in unlike states.
func heads() []string {
	x := strings.Repeat("x", maxString)
	return []string{
		"", "a", "\xc3", "\xe2\x82", "\xf0\x9f\x98",
		"\x1b", "\x1b(", "\x1b(/", "\x1b(((",
		"\x1b[", "\x1b[?", "\x1b[1", "\x1b[?1;", "\x1b[ ", "\x1b[?1:2$", "\x1b[1?", "\x1b[?$1", "\x1b[1$$$",
		"\x1bP", "\x1bP>", "\x1bP1;", "\x1bP+", "\x1bP+1",
		"\x1bPq", "\x1bP1$qm", "\x1bP1?qm", "\x1bP$1qm",
		"\x1b]", "\x1b]0;x", "\x1b]" + x[:maxString-1], "\x1b]" + x, "\x1b]" + x + "x",
		"\x1bX", "\x1b^x", "\x1b_x",
		"\x1b]x\x1b", "\x1bPqx\x1b", "\x1bXx\x1b", "\x1b]x\x1b\n\x7f", "\x1b]x\x1b(", "\x1b]x\x1b\x1b",
	}
}

// pool: bytes that are taken in unlike ways.
const pool = "\x07\n\x18\x1a\x1b $/0:;<?@P[\\]^Xm~\x7f\x80\x9b\xa9\xc3\xe2\xf0\xff"

// P8.1: in each state each byte does what the document says, and so does one of each kind behind it.
func TestEachByteInEachState(t *testing.T) {
	for _, h := range heads() {
		for c := range 256 {
			s := h + string([]byte{byte(c)})
			agree(t, s)
			if len(h) > 99 && c%16 != 7 { // those are read slowly
				continue
			}
			for n := range len(pool) {
				agree(t, s+pool[n:n+1])
			}
		}
	}
}

// P8.1: all rows of a few bytes.
func TestEachRow(t *testing.T) {
	each(pool, 3, func(s string) { agree(t, s) })
	each("\x1b[]P\\1;(m\n", 5, func(s string) { agree(t, s) })
	each("\x1b]\\\x07\x18x\xc3", 6, func(s string) { agree(t, s) })
}

// P8.1: long rows, without any order, but the same ones each time.
func TestLongRows(t *testing.T) {
	for seed := range uint64(300) {
		agree(t, mixed(2000, seed, pool))
		agree(t, mixed(300, seed, "\x1b[1;:?$m"))
		agree(t, mixed(300, seed, "\x1b\x1bP]qx\\\x07\n\xe2\x82\xac"))
		agree(t, mixed(300, seed, "a\xc3\xa9\xe2\x82\xac\xf0\x9f\x98\x80\n\x7f"))
	}
}

// each: calls do with all texts of up to so many of the bytes.
func each(bytes string, most int, do func(string)) {
	var grow func(s string)
	grow = func(s string) {
		do(s)
		if len(s) < most {
			for n := range len(bytes) {
				grow(s + bytes[n:n+1])
			}
		}
	}
	grow("")
}

// mixed: n of the bytes, without any order, but the same ones each time.
func mixed(n int, seed uint64, bytes string) string {
	b := make([]byte, n)
	for i := range b {
		seed = seed*6364136223846793005 + 1442695040888963407
		b[i] = bytes[seed>>33%uint64(len(bytes))]
	}
	return string(b)
}
