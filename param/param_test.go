package param_test

import (
	"math"
	"math/big"
	"slices"
	"strconv"
	"strings"
	"testing"

	"marquee/param"
)

// The limits, as the document writes them.
const (
	maxParams = 32
	maxSubs   = 8
	maxParam  = 65535
)

// told: the parameters of bytes, by the document's words, which look at all of them at once.
func told(s string) [][]int {
	if s == "" {
		return nil
	}
	var p [][]int
	for _, x := range first(strings.Split(s, ";"), maxParams) {
		var row []int
		for _, y := range first(strings.Split(x, ":"), maxSubs) {
			row = append(row, number(y))
		}
		p = append(p, row)
	}
	return p
}

// first: those of l that are not left out.
func first(l []string, most int) []string { return l[:min(len(l), most)] }

// number: what a row of digits tells.
func number(digits string) int {
	if digits == "" {
		return -1
	}
	n, is := new(big.Int).SetString(digits, 10)
	if !is {
		panic(digits)
	}
	if n.Cmp(big.NewInt(maxParam)) > 0 {
		return maxParam
	}
	return int(n.Int64())
}

// same: are both the same rows of the same numbers?
func same(a, b [][]int) bool {
	return slices.EqualFunc(a, b, func(x, y []int) bool { return slices.Equal(x, y) })
}

// of: a list that took these bytes, each of which it must take.
func of(t *testing.T, s string) *param.List {
	t.Helper()
	l := param.New()
	push(t, l, s)
	return l
}

func push(t *testing.T, l *param.List, s string) {
	t.Helper()
	for n := range len(s) {
		if !l.Byte(s[n]) {
			t.Fatalf("%.40q: byte %v is not taken", s, n)
		}
	}
}

// agree: do Byte and All, and Parse, make of these bytes the parameters that they tell, and do these hold what is promised of all?
func agree(t *testing.T, s string) {
	t.Helper()
	want := told(s)
	if p := of(t, s).All(); !same(p, want) {
		t.Fatalf("%.80q: %v, not %v", s, p, want)
	}
	p, is := param.Parse(s)
	if !is || !same(p, want) {
		t.Fatalf("Parse(%.80q): %v, %v; not %v", s, p, is, want)
	}
	again(t, p)
}

// again: parameters that were read are no more than may be, and are read again from what is written of them.
func again(t *testing.T, p [][]int) {
	t.Helper()
	sum := 0
	for _, row := range p {
		sum += len(row)
		for _, n := range row {
			if n < -1 || n > maxParam {
				t.Fatalf("%v: the number %v", p, n)
			}
		}
	}
	if sum > 256 {
		t.Fatalf("%v numbers", sum)
	}
	s := param.Write(p)
	if q, is := param.Parse(s); !is || !same(q, p) {
		t.Fatalf("%v is written %q, and read as %v, %v", p, s, q, is)
	}
}

// each: calls do with all texts of up to so many of the letters.
func each(letters string, most int, do func(string)) {
	var grow func(s string)
	grow = func(s string) {
		do(s)
		if len(s) < most {
			for _, c := range letters {
				grow(s + string(c))
			}
		}
	}
	grow("")
}

// mixed: n bytes of parameters, without any order, but the same ones each time.
func mixed(n int, seed uint64, letters string) string {
	b := make([]byte, n)
	for i := range b {
		seed = seed*6364136223846793005 + 1442695040888963407
		b[i] = letters[seed>>33%uint64(len(letters))]
	}
	return string(b)
}

// states: bytes that leave a list in unlike states, before and behind what is left out.
func states() []string {
	full := strings.Repeat("9;", maxParams-1)
	deep := strings.Repeat("8:", maxSubs-1)
	return []string{
		"", "0", "5", "65535", "99999", ";", ":", "1;", "1:", "1:2;3", "1:2;3:", ";;:", ":;",
		deep, deep + "7", deep + "7:", deep + "7:6", deep + "7:6;", deep + "7::;5",
		full, full + "9", full + "9;", full + "9;8", full + "9:8", full + "9:8;7:6",
		full + deep + "1", full + deep + "1:", full + deep + "1:2;3", full + ";", full + ";;::",
	}
}

// P6.1, P6.2: the document's examples, and bytes near to them.
func TestRead(t *testing.T) {
	for _, c := range []struct {
		s    string
		want [][]int
	}{
		{"", nil},
		{"5", [][]int{{5}}},
		{";", [][]int{{-1}, {-1}}},
		{";;", [][]int{{-1}, {-1}, {-1}}},
		{"1;;70000", [][]int{{1}, {-1}, {65535}}},
		{"38:2::7;1", [][]int{{38, 2, -1, 7}, {1}}},
		{":", [][]int{{-1, -1}}},
		{"::", [][]int{{-1, -1, -1}}},
		{":;:", [][]int{{-1, -1}, {-1, -1}}},
		{";:", [][]int{{-1}, {-1, -1}}},
		{"0", [][]int{{0}}},
		{"00", [][]int{{0}}},
		{"007", [][]int{{7}}},
		{"0;", [][]int{{0}, {-1}}},
		{"0:", [][]int{{0, -1}}},
		{";0", [][]int{{-1}, {0}}},
		{"4:3;;255", [][]int{{4, 3}, {-1}, {255}}},
		{"1:2;3:4:5;6", [][]int{{1, 2}, {3, 4, 5}, {6}}},
		{"65534;65535;65536", [][]int{{65534}, {65535}, {65535}}},
	} {
		if p := of(t, c.s).All(); !same(p, c.want) {
			t.Errorf("%q: %v, not %v", c.s, p, c.want)
		}
		if p, is := param.Parse(c.s); !is || !same(p, c.want) {
			t.Errorf("Parse(%q): %v, %v; not %v", c.s, p, is, c.want)
		}
		agree(t, c.s)
	}
}

// P6.1, P6.2, P6.4: all short rows of bytes.
func TestShortRows(t *testing.T) {
	each("09;:", 7, func(s string) { agree(t, s) })
	each("0123456789;:", 3, func(s string) { agree(t, s) })
}

// P6.1: what came is told at each byte, and to tell it changes nothing of what comes.
func TestByteByByte(t *testing.T) {
	for seed := range uint64(40) {
		s := mixed(400, seed, "0123456789;;:::")
		l := param.New()
		for n := range len(s) {
			push(t, l, s[n:n+1])
			if p := l.All(); !same(p, told(s[:n+1])) {
				t.Fatalf("%q: %v", s[:n+1], p)
			}
		}
	}
}

// P6.1: each byte, in each state: digits, ; and : are taken, also where they are left out; others do nothing.
func TestEachByte(t *testing.T) {
	for _, s := range states() {
		for c := range 256 {
			l := of(t, s)
			want := strings.IndexByte("0123456789;:", byte(c)) >= 0
			if is := l.Byte(byte(c)); is != want {
				t.Fatalf("%q: Byte(%x): %v", s, c, is)
			}
			now := s
			if want {
				now += string(rune(c))
			}
			if p := l.All(); !same(p, told(now)) {
				t.Fatalf("%q: behind %x: %v", s, c, p)
			}
			for _, more := range []string{"1", ":2", ";3", "4:5;6"} {
				l := of(t, s)
				l.Byte(byte(c))
				push(t, l, more)
				if p := l.All(); !same(p, told(now+more)) {
					t.Fatalf("%q: behind %x, %q: %v", s, c, more, p)
				}
			}
		}
	}
}

// P6.1: all numbers that may be, those above, zeros ahead of them, and more digits than any number has.
func TestNumbers(t *testing.T) {
	for n := range 70000 {
		s := strconv.Itoa(n)
		if p, is := param.Parse(s); !is || !same(p, [][]int{{min(n, maxParam)}}) {
			t.Fatalf("Parse(%q): %v, %v", s, p, is)
		}
	}
	for _, s := range []string{"100000", "655350", "655360", "2147483648", "4294967296", "4294967297", "9223372036854775807", "9223372036854775808", "18446744073709551616", "18446744073709551617"} {
		if p, is := param.Parse(s); !is || !same(p, [][]int{{maxParam}}) {
			t.Errorf("Parse(%q): %v, %v", s, p, is)
		}
		agree(t, s+"0;1:"+s)
	}
	for digits := 1; digits < 200; digits++ {
		agree(t, strings.Repeat("0", digits))
		agree(t, strings.Repeat("0", digits)+"42:7")
		agree(t, strings.Repeat("9", digits)+";1")
		agree(t, "1"+strings.Repeat("0", digits))
		agree(t, "4:1"+strings.Repeat("0", digits)+":3")
	}
}

// P6.1: what is behind 32 parameters is left out.
func TestParamsLeftOut(t *testing.T) {
	for _, n := range []int{1, 2, 31, 32, 33, 34, 64, 65, 256, 257, 1000, 70000} {
		for _, x := range []string{"", "7", "7:8", ":"} {
			s := x + strings.Repeat(";"+x, n-1)
			if s == "" {
				continue
			}
			agree(t, s)
			if p := of(t, s).All(); len(p) != min(n, maxParams) {
				t.Errorf("%v parameters: %v", n, len(p))
			}
		}
	}
	s := strings.Repeat("1;", maxParams-1) + "2"
	want := told(s)
	for _, more := range []string{";", ";3", ";;", ";:", ";:4", ";3:4;5", ";" + strings.Repeat(":9", 20), ";" + strings.Repeat("9", 20)} {
		if p, is := param.Parse(s + more); !is || !same(p, want) {
			t.Errorf("behind 32 parameters %q: %v, %v", more, p, is)
		}
	}
	// The last one that is kept goes on up to the ; behind it.
	want[maxParams-1] = []int{23, 4}
	if p, is := param.Parse(s + "3:4;5:6"); !is || !same(p, want) {
		t.Error(p, is)
	}
}

// P6.1: what is behind 8 subparameters is left out, up to the next parameter.
func TestSubsLeftOut(t *testing.T) {
	for _, n := range []int{1, 2, 7, 8, 9, 10, 16, 17, 255, 256, 257, 1000} {
		for _, x := range []string{"", "7", "65536"} {
			s := x + strings.Repeat(":"+x, n-1)
			for _, ahead := range []string{"", ";", "1:2;", "1:2:3:4:5:6:7:8:9;", strings.Repeat(";", maxParams-1)} {
				for _, behind := range []string{"", ";", ";5", ":;5:6", "4;:", ";" + s, ";" + s + ";3"} {
					if ahead+s+behind != "" {
						agree(t, ahead+s+behind)
					}
				}
			}
			if s == "" {
				continue
			}
			if p := of(t, s).All(); len(p) != 1 || len(p[0]) != min(n, maxSubs) {
				t.Errorf("%v subparameters: %v", n, p)
			}
		}
	}
	p, is := param.Parse("1:2:3:4:5:6:7:8:9:10;11:12")
	if !is || !same(p, [][]int{{1, 2, 3, 4, 5, 6, 7, 8}, {11, 12}}) {
		t.Error(p, is)
	}
}

// P6.1: a list that is none.
func TestNone(t *testing.T) {
	var l *param.List
	for c := range 256 {
		if l.Byte(byte(c)) {
			t.Errorf("Byte(%x)", c)
		}
	}
	if p := l.All(); len(p) != 0 {
		t.Error(p)
	}
	l.Clear()
	if l != nil {
		t.Error("it became one")
	}
}

// P6.1: a new list has no bytes; a cleared one is as new, whatever came ahead, and comes.
func TestClear(t *testing.T) {
	if l := param.New(); l == nil || len(l.All()) != 0 {
		t.Fatal("new")
	}
	for _, s := range states() {
		for _, more := range append(states(), "x", " ", "1x;2") {
			l, fresh := of(t, s), param.New()
			l.Clear()
			if p := l.All(); len(p) != 0 {
				t.Fatalf("%q, cleared: %v", s, p)
			}
			for n := range len(more) {
				if l.Byte(more[n]) != fresh.Byte(more[n]) {
					t.Fatalf("%q, cleared: %q: byte %v", s, more, n)
				}
			}
			if p, q := l.All(), fresh.All(); !same(p, q) {
				t.Fatalf("%q, cleared: %q: %v, not %v", s, more, p, q)
			}
			l.Clear()
			l.Clear()
			if p := l.All(); len(p) != 0 {
				t.Fatalf("cleared again: %v", p)
			}
		}
	}
}

// P6.1: each list is one of its own.
func TestListsApart(t *testing.T) {
	a, b := of(t, "1;2"), of(t, "3:4")
	push(t, a, "5")
	b.Clear()
	push(t, b, ";6")
	if p, q := a.All(), b.All(); !same(p, [][]int{{1}, {25}}) || !same(q, [][]int{{-1}, {6}}) {
		t.Error(p, q)
	}
}

// P6.1: what All answers is the caller's, each of its lists apart.
func TestAllIsTheCallers(t *testing.T) {
	s := "1:2;3;4:5:6;:"
	l := of(t, s)
	p, q := l.All(), l.All()
	for i := range p {
		p[i] = append(p[i], 77, 78, 79, 80, 81, 82, 83, 84, 85)
	}
	if !same(l.All(), told(s)) || !same(q, told(s)) {
		t.Error("appended:", l.All(), q)
	}
	for i, row := range p {
		if want := told(s)[i]; !slices.Equal(row[:len(want)], want) {
			t.Error("one list runs into another one:", p)
		}
	}
	for i := range q {
		for k := range q[i] {
			q[i][k] = 99
		}
		q[i] = q[i][:0]
	}
	if !same(l.All(), told(s)) {
		t.Error("changed:", l.All())
	}
	r := l.All()
	push(t, l, "7;8")
	if !same(r, told(s)) || !same(l.All(), told(s+"7;8")) {
		t.Error("more bytes:", r, l.All())
	}
	l.Clear()
	if !same(r, told(s)) {
		t.Error("cleared:", r)
	}
}

// P6.2: one byte that is none of parameters, at each place, also among what is left out: nothing, and false.
func TestParseRefuses(t *testing.T) {
	for _, s := range append(states(), "1;22:3") {
		for c := range 256 {
			if strings.IndexByte("0123456789;:", byte(c)) >= 0 {
				continue
			}
			for _, at := range []int{0, len(s) / 2, len(s)} {
				x := s[:at] + string([]byte{byte(c)}) + s[at:]
				if p, is := param.Parse(x); is || len(p) != 0 {
					t.Fatalf("Parse(%q): %v, %v", x, p, is)
				}
			}
		}
	}
	for _, s := range []string{"1a", "-1", "+1", "1 ", " 1", "1,2", "1.5", "0x1", "1_0", "\u0661", "1\u20ac", "1\x00", "1m", "?1", "<", "=", ">", "/"} {
		if p, is := param.Parse(s); is || len(p) != 0 {
			t.Errorf("Parse(%q): %v, %v", s, p, is)
		}
	}
}

// P6.2: writing, at the document's example, and of what no bytes tell.
func TestWrite(t *testing.T) {
	long := make([][]int, 100)
	for i := range long {
		long[i] = []int{i, 1, 2, 3, 4, 5, 6, 7, 8, 9}
	}
	var all []string
	for i := range long {
		all = append(all, strconv.Itoa(i)+":1:2:3:4:5:6:7:8:9")
	}
	for _, c := range []struct {
		p    [][]int
		want string
	}{
		{[][]int{{4, 3}, {-1}, {7}}, "4:3;;7"},
		{nil, ""},
		{[][]int{}, ""},
		{[][]int{nil}, ""},
		{[][]int{{}}, ""},
		{[][]int{{-1}}, ""},
		{[][]int{nil, nil}, ";"},
		{[][]int{nil, {1}, {}, {2}, nil}, ";1;;2;"},
		{[][]int{{-1, -1}}, ":"},
		{[][]int{{-1, -1}, {-1, 5, -1}}, ":;:5:"},
		{[][]int{{0}}, "0"},
		{[][]int{{0, 0}, {0}}, "0:0;0"},
		{[][]int{{10, 100}, {1000}}, "10:100;1000"},
		{[][]int{{65535}, {65536}}, "65535;65536"},
		{[][]int{{math.MaxInt64}}, "9223372036854775807"},
		{[][]int{{-2}}, ""},
		{[][]int{{-2, -3}, {math.MinInt64}, {1}}, ":;;1"},
		{[][]int{{-10}, {-65535, 6}}, ";:6"},
		{long, strings.Join(all, ";")},
	} {
		if s := param.Write(c.p); s != c.want {
			t.Errorf("Write(%v): %q, not %q", c.p, s, c.want)
		}
	}
}

// P6.2: each number that may be is written without a 0 ahead.
func TestWriteNumbers(t *testing.T) {
	for n := range maxParam + 1 {
		if s := param.Write([][]int{{n}, {-1, n}}); s != strconv.Itoa(n)+";:"+strconv.Itoa(n) {
			t.Fatalf("%v: %q", n, s)
		}
	}
}

// ask: the three that look into parameters, at one place.
type ask struct {
	i, other, num, said int
	subs                []int
}

// P6.3: at the document's example, and at places that are none, of lists that no bytes tell.
func TestLook(t *testing.T) {
	for _, c := range []struct {
		p    [][]int
		asks []ask
	}{
		{[][]int{{0}, {3}}, []ask{{0, 9, 9, 0, nil}, {1, 9, 3, 3, nil}, {2, 9, 9, 9, nil}, {-1, 9, 9, 9, nil}}},
		{nil, []ask{{0, 9, 9, 9, nil}, {1, 9, 9, 9, nil}, {-1, -4, -4, -4, nil}, {math.MaxInt, 9, 9, 9, nil}, {math.MinInt, 0, 0, 0, nil}}},
		{[][]int{nil, {}, {7}}, []ask{{0, 9, 9, 9, nil}, {1, 9, 9, 9, nil}, {2, 9, 7, 7, nil}, {3, 9, 9, 9, nil}}},
		{[][]int{{-1}, {-1, 4}, {-1, -1, 0}}, []ask{{0, 9, 9, 9, nil}, {1, 9, 9, 9, []int{4}}, {2, 9, 9, 9, []int{-1, 0}}}},
		{[][]int{{0, 5, 6}, {1, 0}}, []ask{{0, 9, 9, 0, []int{5, 6}}, {1, 9, 1, 1, []int{0}}}},
		{[][]int{{0}, {-1}, {5}}, []ask{{0, 0, 0, 0, nil}, {1, 0, 0, 0, nil}, {2, 0, 5, 5, nil}, {3, 0, 0, 0, nil}}},
		{[][]int{{0}, {-1}, {5}}, []ask{{0, -1, -1, 0, nil}, {1, -1, -1, -1, nil}, {2, -1, 5, 5, nil}, {3, -1, -1, -1, nil}}},
		{[][]int{{65535, 1, 2, 3, 4, 5, 6, 7, 8, 9}}, []ask{{0, 1, 65535, 65535, []int{1, 2, 3, 4, 5, 6, 7, 8, 9}}}},
		{[][]int{{70000, 70000}, {math.MaxInt, math.MinInt}}, []ask{{0, 9, 70000, 70000, []int{70000}}, {1, 9, math.MaxInt, math.MaxInt, []int{math.MinInt}}}},
		// Not said is -1 alone: a number below it is told as it is.
		{[][]int{{-2}, {math.MinInt, -2}}, []ask{{0, 9, -2, -2, nil}, {1, 9, math.MinInt, math.MinInt, []int{-2}}}},
	} {
		for _, a := range c.asks {
			if n := param.Num(c.p, a.i, a.other); n != a.num {
				t.Errorf("Num(%v, %v, %v): %v, not %v", c.p, a.i, a.other, n, a.num)
			}
			if n := param.Said(c.p, a.i, a.other); n != a.said {
				t.Errorf("Said(%v, %v, %v): %v, not %v", c.p, a.i, a.other, n, a.said)
			}
			if l := param.Subs(c.p, a.i); !slices.Equal(l, a.subs) {
				t.Errorf("Subs(%v, %v): %v, not %v", c.p, a.i, l, a.subs)
			}
		}
	}
}

// P6.3: of parameters that were read, at all places that they have, and round them.
func TestLookAtRead(t *testing.T) {
	each("05;:", 6, func(s string) {
		p, want := of(t, s).All(), told(s)
		for i := -2; i < len(want)+2; i++ {
			num, said, subs := 9, 9, []int(nil)
			if i >= 0 && i < len(want) {
				subs = want[i][1:]
				if want[i][0] >= 0 {
					said = want[i][0]
				}
				if want[i][0] > 0 {
					num = want[i][0]
				}
			}
			if n := param.Num(p, i, 9); n != num {
				t.Fatalf("%q: Num at %v: %v", s, i, n)
			}
			if n := param.Said(p, i, 9); n != said {
				t.Fatalf("%q: Said at %v: %v", s, i, n)
			}
			if l := param.Subs(p, i); !slices.Equal(l, subs) {
				t.Fatalf("%q: Subs at %v: %v", s, i, l)
			}
		}
	})
}

// P6.2, P6.3: what is handed in stays, and what Subs answers is the caller's.
func TestHandedInStays(t *testing.T) {
	row := []int{1, 2, 3, 4, 5}
	p := [][]int{row[:3], nil, {-1, 0}}
	param.Write(p)
	param.Num(p, 0, 9)
	param.Said(p, 2, 9)
	l, m := param.Subs(p, 0), param.Subs(p, 0)
	l[0], l[1] = 88, 89
	l = append(l, 90)
	if !slices.Equal(row, []int{1, 2, 3, 4, 5}) || !same(p, [][]int{{1, 2, 3}, nil, {-1, 0}}) || !slices.Equal(m, []int{2, 3}) {
		t.Error(row, p, l, m)
	}
	p[0][1] = 66
	if !slices.Equal(m, []int{2, 3}) {
		t.Error("kept:", m)
	}
}

// P6.4: however many bytes come, the numbers are no more than 256, none above 65535, and are read again as they are written.
func TestManyBytes(t *testing.T) {
	for seed, letters := range []string{"0123456789;:", "0123456789;::::", "9;:", ":", ";", "9", "1;", ":::::::::;", "0;", "00000001;:"} {
		for _, n := range []int{1, 10, 100, 1000, 300000} {
			agree(t, mixed(n, uint64(seed*1000+n), letters))
		}
	}
	s := strings.Repeat(strings.Repeat("99999:", maxSubs)+";", 3*maxParams)
	p := of(t, s).All()
	sum := 0
	for _, row := range p {
		sum += len(row)
	}
	if sum != 256 {
		t.Error(sum, "numbers")
	}
	agree(t, s)
}

// P6.4: what is written of parameters that may be is what tells them, but for zeros ahead and what is left out.
func TestWrittenIsShortest(t *testing.T) {
	each("08;:", 6, func(s string) {
		p, _ := param.Parse(s)
		w := param.Write(p)
		if s == "" && w != "" || strings.Count(w, ";") != strings.Count(s, ";") || strings.Count(w, ":") != strings.Count(s, ":") {
			t.Fatalf("%q is written %q", s, w)
		}
		if again := param.Write(told(w)); again != w || len(w) > len(s) {
			t.Fatalf("%q is written %q, and that %q", s, w, again)
		}
	})
	// The one row of numbers that bytes can't tell: one parameter that is not said is written as no parameter is.
	if p, is := param.Parse(param.Write([][]int{{-1}})); !is || len(p) != 0 {
		t.Error(p, is)
	}
}
