package token_test

import (
	"math"
	"math/big"
	"regexp"
	"slices"
	"strconv"
	"strings"
	"testing"

	"undertow/api"
	"undertow/token"
)

const bound = 1 << 32

func name(text string) api.Token { return api.Token{Kind: api.TkName, Text: text} }
func reg(n int) api.Token        { return api.Token{Kind: api.TkReg, N: n} }
func num(n int) api.Token        { return api.Token{Kind: api.TkNum, N: n} }

var (
	comma = api.Token{Kind: api.TkComma}
	colon = api.Token{Kind: api.TkColon}
)

// bare is tokens but for where they begin.
func bare(l []api.Token) []api.Token {
	var m []api.Token
	for _, t := range l {
		t.At = 0
		m = append(m, t)
	}
	return m
}

// wellFormed, hollow are what the chapter's words say of the first token of what is left: there is one; there is none, though a 0x begins.
var (
	wellFormed = regexp.MustCompile(`^(?:[a-z_][a-z_.0-9]*|-?0x[0-9a-f]+|-?[0-9]+|,|:)`)
	hollow     = regexp.MustCompile(`^-?0x(?:[^0-9a-f]|$)`)
	aRegister  = regexp.MustCompile(`^r(?:[0-9]|1[0-5])$`)
	aName      = regexp.MustCompile(`^[a-z_][a-z_.0-9]*$`)
)

// one is the token of its bytes.
func one(s string, at int) (api.Token, api.Errno) {
	switch {
	case s == ",":
		return api.Token{Kind: 4, At: at}, api.OK
	case s == ":":
		return api.Token{Kind: 5, At: at}, api.OK
	case aRegister.MatchString(s):
		n, _ := strconv.Atoi(s[1:])
		return api.Token{Kind: 2, N: n, At: at}, api.OK
	case aName.MatchString(s):
		return api.Token{Kind: 1, Text: s, At: at}, api.OK
	}
	n, base := new(big.Int), 10
	if strings.Contains(s, "0x") {
		s, base = strings.Replace(s, "0x", "", 1), 16
	}
	if _, is := n.SetString(s, base); !is {
		panic(s)
	}
	if n.CmpAbs(big.NewInt(bound)) > 0 {
		return api.Token{}, api.ErrBig
	}
	return api.Token{Kind: 3, N: int(n.Int64()), At: at}, api.OK
}

// wanted is P20.1.
func wanted(s string) ([]api.Token, int, api.Errno) {
	if len(s) > 200 {
		return nil, 0, api.ErrLong
	}
	s, _, _ = strings.Cut(s, "#")
	var l []api.Token
	for at := 0; at < len(s); {
		if s[at] == ' ' || s[at] == '\t' {
			at++
			continue
		}
		m := wellFormed.FindString(s[at:])
		if m == "" || hollow.MatchString(s[at:]) {
			return nil, at, api.ErrToken
		}
		t, e := one(m, at)
		if e != api.OK {
			return nil, at, e
		}
		l = append(l, t)
		at += len(m)
	}
	return l, 0, api.OK
}

// line asks Line, and holds it against what is wanted.
func line(t *testing.T, s string) ([]api.Token, int, api.Errno) {
	t.Helper()
	l, at, e := token.Line(s)
	m, to, f := wanted(s)
	if !slices.Equal(l, m) || at != to || e != f {
		t.Errorf("Line(%q): %v %d %d; wanted %v %d %d", s, l, at, e, m, to, f)
	}
	return l, at, e
}

// mixed answers numbers below a bound, one behind the other, that look like none of a row.
func mixed(seed uint32) func(below int) int {
	m := seed
	return func(below int) int {
		m = m*1664525 + 1013904223
		return int(m>>8) % below
	}
}

func TestNumbersOfTheDocument(t *testing.T) {
	if api.OK != 0 || api.ErrArg != 2 || api.ErrLong != 3 || api.ErrToken != 200 || api.ErrBig != 201 {
		t.Error("errors", api.OK, api.ErrArg, api.ErrLong, api.ErrToken, api.ErrBig)
	}
	if api.TkName != 1 || api.TkReg != 2 || api.TkNum != 3 || api.TkComma != 4 || api.TkColon != 5 {
		t.Error("kinds", api.TkName, api.TkReg, api.TkNum, api.TkComma, api.TkColon)
	}
	if api.MaxLine != 200 || api.Regs != 16 {
		t.Error("limits", api.MaxLine, api.Regs)
	}
}

// P20.1: lines, and their tokens.
func TestTokens(t *testing.T) {
	for _, r := range []struct {
		s    string
		want []api.Token
	}{
		{"", nil}, {" ", nil}, {"\t", nil}, {" \t \t", nil}, {"#", nil}, {"  # A & \x00 99999999999", nil}, {"##", nil}, {"#\n", nil},
		{"halt", []api.Token{name("halt")}},
		{"halt#halt", []api.Token{name("halt")}},
		{"halt\t#", []api.Token{name("halt")}},
		{"5#", []api.Token{num(5)}},
		{"r5#6", []api.Token{reg(5)}},
		{"0x5#6", []api.Token{num(5)}},
		{"a b\tc \t d", []api.Token{name("a"), name("b"), name("c"), name("d")}},
		{"_", []api.Token{name("_")}},
		{"__a.b._9z", []api.Token{name("__a.b._9z")}},
		{"az_09.", []api.Token{name("az_09.")}},
		{"a.", []api.Token{name("a.")}},
		{"z..z", []api.Token{name("z..z")}},
		{",", []api.Token{comma}},
		{":", []api.Token{colon}},
		{",,::,", []api.Token{comma, comma, colon, colon, comma}},
		{"a:b,c", []api.Token{name("a"), colon, name("b"), comma, name("c")}},
		{"a : b , c", []api.Token{name("a"), colon, name("b"), comma, name("c")}},
		{"add r1,r2,r3", []api.Token{name("add"), reg(1), comma, reg(2), comma, reg(3)}},
		{"x5 5x", []api.Token{name("x5"), num(5), name("x")}},
		{"a-5", []api.Token{name("a"), num(-5)}},
		{"r1-5", []api.Token{reg(1), num(-5)}},
		{"5-6-7", []api.Token{num(5), num(-6), num(-7)}},
		{"5_", []api.Token{num(5), name("_")}},
		{"5r5", []api.Token{num(5), reg(5)}},
		{"5:6,7", []api.Token{num(5), colon, num(6), comma, num(7)}},
		{"0xfg", []api.Token{num(15), name("g")}},
		{"0x1x1", []api.Token{num(1), name("x1")}},
		{"00x1", []api.Token{num(0), name("x1")}},
		{"10x1", []api.Token{num(10), name("x1")}},
		{"0y", []api.Token{num(0), name("y")}},
		{"0a", []api.Token{num(0), name("a")}},
		{"-0a", []api.Token{num(0), name("a")}},
		{"0x0x0", []api.Token{num(0), name("x0")}},
		{"1e5", []api.Token{num(1), name("e5")}},
		{"x0x1", []api.Token{name("x0x1")}},
	} {
		l, at, e := line(t, r.s)
		if !slices.Equal(bare(l), r.want) || at != 0 || e != api.OK {
			t.Errorf("%q: %v %d %d", r.s, l, at, e)
		}
	}
}

// P20.1: numbers, ahead of what is one and behind it.
func TestNumbers(t *testing.T) {
	for s, want := range map[string]int{
		"0": 0, "-0": 0, "00": 0, "1": 1, "-1": -1, "7": 7, "9": 9, "10": 10, "007": 7, "-007": -7, "09": 9, "1234567890": 1234567890,
		"0x0": 0, "-0x0": 0, "0x1": 1, "-0x1": -1, "0x9": 9, "0xa": 10, "0xf": 15, "0x10": 16, "-0x10": -16, "0x0010": 16, "0xdeadbeef": 0xdeadbeef, "-0xabcdef": -0xabcdef, "0x01234567": 0x01234567, "0x89": 137,
		"4294967295": bound - 1, "4294967296": bound, "-4294967295": 1 - bound, "-4294967296": -bound, "0xffffffff": bound - 1, "0x100000000": bound, "-0x100000000": -bound, "-0xffffffff": 1 - bound,
		"2147483647": math.MaxInt32, "2147483648": 1 << 31, "-2147483648": math.MinInt32, "0x80000000": 1 << 31,
		strings.Repeat("0", 190) + "4294967296": bound, "-" + strings.Repeat("0", 199): 0, "0x" + strings.Repeat("0", 189) + "100000000": bound, strings.Repeat("0", 199) + "1": 1,
	} {
		if l, at, e := line(t, s); !slices.Equal(l, []api.Token{num(want)}) || at != 0 || e != api.OK {
			t.Errorf("%q: %v %d %d", s, l, at, e)
		}
	}
}

// P20.1: numbers that are too great; any further digit makes them greater, and none brings them back.
func TestTooGreat(t *testing.T) {
	for _, s := range []string{
		"4294967297", "4294967298", "4294967300", "4294967306", "5000000000", "9999999999", "42949672960", "-4294967297", "-4294967300", "-9999999999", "0x100000001", "0x10000000a", "0x10000000f", "-0x100000001", "0x1000000000", "0xffffffffff",
		"9223372036854775807", "9223372036854775808", "-9223372036854775808", "18446744073709551615", "18446744073709551616", "18446744073709551617", "18446744078004518912", "36893488147419103232", "0x10000000000000000", "0x10000000000000001", "0xffffffffffffffff", "-0x10000000000000000", "0x8000000000000000",
		"0000000000000000004294967297", "0x0000000000000000100000001",
	} {
		for _, before := range []string{"", " ", "set r1, ", "5", ",", "a:", "7 - &"} {
			if before == "5" && s[0] != '-' {
				continue
			}
			for _, behind := range []string{"", " ", ",", " &", "#", " 99999999999", "x", "-"} {
				want, at := api.ErrBig, len(before)
				if strings.HasPrefix(before, "7") {
					want, at = api.ErrToken, 2
				}
				if l, to, e := line(t, before+s+behind); len(l) != 0 || to != at || e != want {
					t.Errorf("%q: %v %d %d", before+s+behind, l, to, e)
				}
			}
		}
	}
	for many := 1; many <= 200; many++ {
		for _, digit := range []string{"1", "4", "8", "9", "a", "f"} {
			for _, before := range []string{"", "-", "0x", "-0x"} {
				if s := before + strings.Repeat(digit, many); len(s) <= 200 {
					line(t, s)
					line(t, s[:len(s)-1]+"0")
				}
			}
		}
		for _, s := range []string{"1" + strings.Repeat("0", many-1), "0x" + "1" + strings.Repeat("0", many-1), "-1" + strings.Repeat("0", many-1)} {
			line(t, s)
		}
	}
}

// P20.1: numbers next to the bounds and to what is a bound elsewhere, to both bases, and by mixed digits.
func TestNumbersByDigits(t *testing.T) {
	middles := []int{0, 10, 16, 255, 1 << 16, 1e9, 1 << 30, 1 << 31, 1 << 32, 1<<32 + 1<<31, 1 << 33, 1e10, 10 * bound, 16 * bound}
	for _, middle := range middles {
		for n := max(middle-40, 0); n <= middle+40; n++ {
			for _, s := range []string{strconv.Itoa(n), "0x" + strconv.FormatInt(int64(n), 16), "0" + strconv.Itoa(n), "0x0" + strconv.FormatInt(int64(n), 16)} {
				for _, sign := range []int{1, -1} {
					if sign < 0 {
						s = "-" + s
					}
					l, _, e := line(t, s)
					if n > bound && e != api.ErrBig || n <= bound && (e != api.OK || len(l) != 1 || l[0].N != sign*n) {
						t.Error(s, l, e)
					}
				}
			}
		}
	}
	next := mixed(7)
	for range 50000 {
		s := []string{"", "-", "0x", "-0x"}[next(4)]
		digits := "0123456789abcdef"
		if !strings.Contains(s, "x") {
			digits = "0123456789"
		}
		for range next(13) + 1 {
			s += string(digits[next(len(digits))])
		}
		line(t, s)
	}
}

// P20.1: registers are 0 to 15, without a 0 ahead; all else that is like one is a name.
func TestRegisters(t *testing.T) {
	for n := range 16 {
		s := "r" + strconv.Itoa(n)
		if l, _, e := line(t, s); !slices.Equal(l, []api.Token{reg(n)}) || e != api.OK {
			t.Error(s, l, e)
		}
		for _, behind := range []string{"a", "_", ".", "r", "x"} {
			if l, _, e := line(t, s+behind); !slices.Equal(l, []api.Token{name(s + behind)}) || e != api.OK {
				t.Error(s+behind, l, e)
			}
		}
	}
	for n := range 2000 {
		for _, s := range []string{"r" + strconv.Itoa(n), "r0" + strconv.Itoa(n), "r00" + strconv.Itoa(n)} {
			want := name(s)
			if n < 16 && len(s) < 4 && (s[1] != '0' || s == "r0") {
				want = reg(n)
			}
			if l, _, e := line(t, s); !slices.Equal(l, []api.Token{want}) || e != api.OK {
				t.Error(s, l, e)
			}
		}
	}
	for _, s := range []string{"r", "rr", "rr1", "r_1", "r.1", "_r1", "s1", "q1", "ra", "r1r2", "r1.", "rx1", "r0x1", "r4294967296", "r18446744073709551616", "r18446744073709551617", "r16", "r00", "r01", "r015", "r150"} {
		if l, _, e := line(t, s); !slices.Equal(l, []api.Token{name(s)}) || e != api.OK {
			t.Error(s, l, e)
		}
	}
	if l, _, e := line(t, "r-1"); !slices.Equal(bare(l), []api.Token{name("r"), num(-1)}) || e != api.OK {
		t.Error(l, e)
	}
	if _, at, e := line(t, "r1 R1"); at != 3 || e != api.ErrToken {
		t.Error(at, e)
	}
}

// P20.1: where tokens begin.
func TestAt(t *testing.T) {
	s := "\t top:load r3 ,-0x10,12 _.# x"
	want := []api.Token{
		{Kind: api.TkName, Text: "top", At: 2}, {Kind: api.TkColon, At: 5}, {Kind: api.TkName, Text: "load", At: 6}, {Kind: api.TkReg, N: 3, At: 11}, {Kind: api.TkComma, At: 14},
		{Kind: api.TkNum, N: -16, At: 15}, {Kind: api.TkComma, At: 20}, {Kind: api.TkNum, N: 12, At: 21}, {Kind: api.TkName, Text: "_.", At: 24},
	}
	if l, at, e := line(t, s); !slices.Equal(l, want) || at != 0 || e != api.OK {
		t.Error(l, at, e)
	}
	for many := range 200 {
		blanks := strings.Repeat(" ", many)
		if l, _, e := line(t, blanks+"a"); !slices.Equal(l, []api.Token{{Kind: api.TkName, Text: "a", At: many}}) || e != api.OK {
			t.Error(many, l, e)
		}
		if l, at, e := line(t, blanks+"&"); len(l) != 0 || at != many || e != api.ErrToken {
			t.Error(many, l, at, e)
		}
	}
}

// P20.1: where no token begins; of two errors the left one.
func TestNoToken(t *testing.T) {
	for s, want := range map[string]int{
		"A": 0, "aA": 1, "5A": 1, "a \x00": 2, "\x00": 0, "\n": 0, "a\n": 1, "a\r": 1, "\v": 0, "\f": 0, "\u00a0": 0, "é": 0, "aé": 1, "\xff": 0, "\x80": 0, "5\x80": 1,
		".": 0, ".a": 0, "a .b": 2, "5.5": 1, "r1 .": 3, "a;": 1, "(r1)": 0, "r1+5": 2, "+5": 0, "'a'": 0, "\"": 0, "a/b": 1, "a@": 1, "[": 0, "`": 0, "{": 0, "5;": 1, "5/": 1, "^": 0, "!": 0, "$1": 0, "a~": 1,
		"-": 0, "--1": 0, "- 1": 0, "-a": 0, "-r1": 0, "-,": 0, "-#": 0, "-.": 0, "7 -": 2, "7-": 1, "a-": 1, "a -b": 2, "5--5": 1, "-\t5": 0,
		"0x": 0, "0xg": 0, "0x ": 0, "0x#": 0, "0x,": 0, "0x-1": 0, "0xF": 0, "0xA1": 0, "0x_": 0, "-0x": 0, "-0xg": 0, "-0xF": 0, "a,0x": 2, "add r1, 0x": 8, "add r1, -0x": 8, "5-0x": 1, "0x0 0x": 4,
		"0X1": 1, "-0X1": 2, "00X": 2, "0x1F": 3, "0x1G": 3, "1A": 1,
		"& 99999999999": 0, "0x 99999999999": 0, "- 99999999999": 0,
	} {
		if l, at, e := line(t, s); len(l) != 0 || at != want || e != api.ErrToken {
			t.Errorf("%q: %v %d %d", s, l, at, e)
		}
	}
}

// P20.1: each byte, alone, and ahead of what may be a token and behind it.
func TestBytes(t *testing.T) {
	around := []string{"", " ", "a", "5", "0x5", "0x", "-", "-0x", "r1", "r", ",", ":", "#", "0", "_", "&"}
	for b := range 256 {
		for _, before := range around {
			for _, behind := range around {
				line(t, before+string([]byte{byte(b)})+behind)
			}
		}
	}
}

// P20.1: all lines of a few bytes, out of those that tokens are made of and their neighbours.
func TestShortLines(t *testing.T) {
	bytes := " \t#,:-_.019xafgrzAF"
	var with func(s string, left int)
	with = func(s string, left int) {
		line(t, s)
		for i := range len(bytes) {
			if left > 0 {
				with(s+bytes[i:i+1], left-1)
			}
		}
	}
	with("", 4)
}

// piece is bytes that often are a token.
func piece(next func(int) int) string {
	const inNames = "abcdefghijklmnopqrstuvwxyz_.0123456789"
	switch next(9) {
	case 0:
		return "r" + strconv.Itoa(next(18))
	case 1:
		return []string{",", ":", ",", ":", ", ", ": "}[next(6)]
	case 2:
		return strconv.Itoa(next(1<<24) << next(10))
	case 3:
		return "-" + strconv.Itoa(next(1<<24)<<next(10))
	case 4:
		return []string{"0x", "-0x"}[next(2)] + strconv.FormatInt(int64(next(1<<24))<<next(10), 16)
	case 5:
		s := inNames[next(27):][:1]
		for range next(9) {
			s += inNames[next(len(inNames)):][:1]
		}
		return s
	case 6:
		if next(12) == 0 {
			return []string{"#", "-", "0x", ".", "&", "A", "4294967297", "\n"}[next(8)]
		}
	}
	return []string{" ", "\t", "  "}[next(3)]
}

// P20.1: lines of many pieces, and of any bytes.
func TestMixedLines(t *testing.T) {
	next, lines, errors, long := mixed(20), 0, 0, 0
	for range 60000 {
		s := ""
		for range next(60) {
			s += piece(next)
		}
		switch _, _, e := line(t, s); e {
		case api.OK:
			lines++
		case api.ErrLong:
			long++
		default:
			errors++
		}
	}
	if lines < 5000 || errors < 5000 || long < 500 {
		t.Error(lines, errors, long)
	}
	for range 60000 {
		b := make([]byte, next(12))
		for i := range b {
			b[i] = byte(next(256))
			if next(2) == 0 {
				b[i] = " ,:-#r0x15az_."[next(14)]
			}
		}
		line(t, string(b))
	}
}

// P20.1: a line has at most 200 bytes, its remark among them; that goes ahead of all else.
func TestLong(t *testing.T) {
	for _, b := range []string{" ", "\t", "a", "_", ".", "0", "1", "-", ",", ":", "#", "&", "\x00", "\xff"} {
		for _, many := range []int{0, 1, 199, 200} {
			line(t, strings.Repeat(b, many))
		}
		for _, many := range []int{201, 202, 255, 256, 257, 400, 456, 65536, 1 << 20} {
			if l, at, e := line(t, strings.Repeat(b, many)); len(l) != 0 || at != 0 || e != api.ErrLong {
				t.Error(b, many, at, e)
			}
		}
	}
	for _, r := range []struct {
		s    string
		many int
	}{
		{strings.Repeat("a", 200), 1}, {strings.Repeat(",", 200), 200}, {strings.Repeat("5 ", 100), 100}, {"halt #" + strings.Repeat("x", 194), 1}, {strings.Repeat(" ", 199) + "5", 1}, {strings.Repeat("-5", 100), 100},
	} {
		if l, at, e := line(t, r.s); len(l) != r.many || at != 0 || e != api.OK {
			t.Error(r.s, l, at, e)
		}
		for _, more := range []string{"a", " ", "#", "&"} {
			if l, at, e := line(t, r.s+more); len(l) != 0 || at != 0 || e != api.ErrLong {
				t.Error(r.s, l, at, e)
			}
		}
	}
	for s, want := range map[string]api.Errno{"&" + strings.Repeat(" ", 199): api.ErrToken, "&" + strings.Repeat(" ", 200): api.ErrLong, "99999999999" + strings.Repeat(" ", 189): api.ErrBig, "99999999999" + strings.Repeat(" ", 190): api.ErrLong} {
		if l, at, e := line(t, s); len(l) != 0 || at != 0 || e != want {
			t.Error(s, l, at, e)
		}
	}
}

// P20.2: the line of tokens, wherever these begin.
func TestText(t *testing.T) {
	for _, r := range []struct {
		l    []api.Token
		want string
	}{
		{nil, ""}, {[]api.Token{}, ""},
		{[]api.Token{name("halt")}, "halt"}, {[]api.Token{reg(0)}, "r0"}, {[]api.Token{reg(9)}, "r9"}, {[]api.Token{reg(10)}, "r10"}, {[]api.Token{reg(15)}, "r15"},
		{[]api.Token{num(0)}, "0"}, {[]api.Token{num(7)}, "7"}, {[]api.Token{num(-16)}, "-16"}, {[]api.Token{num(255)}, "255"}, {[]api.Token{num(bound)}, "4294967296"}, {[]api.Token{num(-bound)}, "-4294967296"}, {[]api.Token{num(bound - 1)}, "4294967295"},
		{[]api.Token{comma}, ","}, {[]api.Token{colon}, ":"}, {[]api.Token{comma, comma}, ",,"}, {[]api.Token{colon, comma, colon}, ":,:"},
		{[]api.Token{name("top"), colon, name("load"), reg(3), comma, num(-16)}, "top: load r3, -16"},
		{[]api.Token{name("a"), name("b")}, "a b"}, {[]api.Token{reg(1), reg(2)}, "r1 r2"}, {[]api.Token{num(5), num(-6)}, "5 -6"}, {[]api.Token{num(0), name("x1")}, "0 x1"},
		{[]api.Token{comma, name("a")}, ", a"}, {[]api.Token{colon, reg(1)}, ": r1"}, {[]api.Token{comma, num(1)}, ", 1"},
		{[]api.Token{name("a"), comma, comma, name("b"), colon}, "a,, b:"},
		{[]api.Token{name("_.0"), name("r16"), name("r00"), name("r01"), name("r"), name("x")}, "_.0 r16 r00 r01 r x"},
	} {
		for _, at := range []int{0, 1, 7, 199, 200, 201, -1, math.MinInt, math.MaxInt} {
			l := slices.Clone(r.l)
			for i := range l {
				l[i].At = at * (i + 1)
			}
			kept := slices.Clone(l)
			if s, e := token.Text(l); s != r.want || e != api.OK {
				t.Errorf("%v: %q %d", l, s, e)
			}
			if !slices.Equal(l, kept) {
				t.Error("changed", l, kept)
			}
		}
	}
}

// noTokens are such as no line has.
func noTokens() []api.Token {
	l := []api.Token{{}}
	for _, kind := range []uint8{0, 6, 7, 8, 16, 32, 128, 129, 131, 254, 255} {
		l = append(l, api.Token{Kind: kind}, api.Token{Kind: kind, Text: "a"}, api.Token{Kind: kind, N: 1})
	}
	for _, n := range []int{-1, -2, -15, -16, 16, 17, 31, 32, 100, 255, 256, 257, 1 << 16, 1 << 32, 1<<32 + 3, -1 << 32, 3 - 1<<32, math.MinInt, math.MaxInt} {
		l = append(l, reg(n), api.Token{Kind: api.TkName, Text: "a", N: n}, api.Token{Kind: api.TkComma, N: n}, api.Token{Kind: api.TkColon, N: n})
	}
	for _, n := range []int{bound + 1, bound + 2, -bound - 1, -bound - 2, 1 << 33, -1 << 33, 1<<33 - 1, 1 << 62, -1 << 62, math.MaxInt, math.MinInt, math.MinInt + 1} {
		l = append(l, num(n))
	}
	for _, s := range []string{"", "A", "aB", "1", "1a", ".", ".a", "-", "-a", "a-b", "a b", " a", "a ", "a\t", "a\n", "a#", "#", "a,", "a:", ",", ":", "a\x00", "\x00a", "é", "aé", "a\xff", "\xff", "0x1", "a`", "a{", "a/", "a@", "A1", "Z", "a;", "5"} {
		l = append(l, name(s))
	}
	for n := range 16 {
		l = append(l, name("r"+strconv.Itoa(n)))
	}
	for _, s := range []string{"a", "r1", "5", ",", ":", "\x00", " "} {
		l = append(l, api.Token{Kind: api.TkReg, N: 1, Text: s}, api.Token{Kind: api.TkNum, N: 1, Text: s}, api.Token{Kind: api.TkComma, Text: s}, api.Token{Kind: api.TkColon, Text: s}, api.Token{Kind: api.TkReg, Text: s}, api.Token{Kind: api.TkNum, Text: s})
	}
	for _, s := range []string{"a", "A", "", " ", "r1", "5", ",", ":"} {
		for _, n := range []int{-1, 16, 1, bound + 1, -bound - 1, math.MinInt, math.MaxInt} {
			if s != "" || n != 1 && n != 16 && n != -1 {
				for _, kind := range []uint8{api.TkName, api.TkReg, api.TkNum, api.TkComma, api.TkColon} {
					l = append(l, api.Token{Kind: kind, Text: s, N: n})
				}
			}
		}
	}
	return append(l, name(strings.Repeat("a", 1000)+"A"), name(strings.Repeat("a", 300)+" "), name("A"+strings.Repeat("a", 300)))
}

// P20.2: tokens that a line may not have, alone, and among others, whatever their At is.
func TestNotText(t *testing.T) {
	for _, x := range noTokens() {
		for _, at := range []int{0, 5, -1} {
			x.At = at
			for _, l := range [][]api.Token{{x}, {x, name("a")}, {name("a"), x}, {reg(1), comma, x, num(5)}, {x, x}, {name("a"), colon, x}} {
				if s, e := token.Text(l); s != "" || e != api.ErrArg {
					t.Errorf("%v: %q %d", l, s, e)
				}
			}
		}
	}
}

// P20.2: whatever a token's bytes are, it has the name's kind only if a line has that name.
func TestTextOfNames(t *testing.T) {
	bytes := " \t#,:-_.0159xarzAR\xff"
	var with func(s string, left int)
	with = func(s string, left int) {
		is := aName.MatchString(s) && !aRegister.MatchString(s)
		if got, e := token.Text([]api.Token{name(s)}); is && (got != s || e != api.OK) || !is && (got != "" || e != api.ErrArg) {
			t.Errorf("%q: %q %d", s, got, e)
		}
		for i := range len(bytes) {
			if left > 0 {
				with(s+bytes[i:i+1], left-1)
			}
		}
	}
	with("", 4)
	for b := range 256 {
		for _, s := range []string{string([]byte{byte(b)}), string([]byte{'a', byte(b)}), string([]byte{'a', byte(b), 'a'})} {
			with(s, 0)
		}
	}
}

// P20.2: the lengths of names, and of the line, do not matter.
func TestTextIsLong(t *testing.T) {
	for _, many := range []int{199, 200, 201, 202, 1000, 100000} {
		long := strings.Repeat("a", many)
		if s, e := token.Text([]api.Token{name(long)}); s != long || e != api.OK {
			t.Error(many, len(s), e)
		}
		if s, e := token.Text([]api.Token{num(5), name(long), comma}); s != "5 "+long+"," || e != api.OK {
			t.Error(many, len(s), e)
		}
		l := slices.Repeat([]api.Token{num(5)}, many)
		if s, e := token.Text(l); s != strings.Repeat("5 ", many)[:2*many-1] || e != api.OK {
			t.Error(many, len(s), e)
		}
		if s, e := token.Text(append(l, api.Token{})); s != "" || e != api.ErrArg {
			t.Error(many, len(s), e)
		}
	}
}

// some is a token that a line may have.
func some(next func(int) int) api.Token {
	at := next(1000) - 300
	switch next(7) {
	case 0:
		return api.Token{Kind: api.TkComma, At: at}
	case 1:
		return api.Token{Kind: api.TkColon, At: at}
	case 2:
		return api.Token{Kind: api.TkReg, N: next(16), At: at}
	case 3:
		n := next(1<<24)<<next(9) + next(2)
		return api.Token{Kind: api.TkNum, N: min(n, bound) * (1 - 2*next(2)), At: at}
	case 4:
		return api.Token{Kind: api.TkNum, N: []int{0, 1, -1, bound, -bound, bound - 1, 1 - bound, 10, 16}[next(9)], At: at}
	case 5:
		return api.Token{Kind: api.TkName, Text: []string{"x", "x1", "xf", "_", "a.b", "r", "r16", "r01", "r1r", "r1.", "f", "e5", "_0x", "z.", "r00"}[next(15)], At: at}
	}
	s := "abcxyz_"[next(7):][:1]
	for range next(20) {
		s += "az_.09xr"[next(8):][:1]
	}
	return api.Token{Kind: api.TkName, Text: s, At: at}
}

// P20.3: Line of Text is the tokens again, or the text is too long.
func TestThereAndBack(t *testing.T) {
	next, lines, long := mixed(3), 0, 0
	for range 60000 {
		var l []api.Token
		for range next(50) {
			l = append(l, some(next))
		}
		s, e := token.Text(l)
		if e != api.OK {
			t.Fatal(l, s, e)
		}
		m, _, e := line(t, s)
		if len(s) > 200 {
			long++
			if e != api.ErrLong || len(m) != 0 {
				t.Errorf("%q: %v %d", s, m, e)
			}
			continue
		}
		lines++
		if !slices.Equal(bare(m), bare(l)) || e != api.OK {
			t.Errorf("%q: %v %v %d", s, l, m, e)
		}
		if u, e := token.Text(m); u != s || e != api.OK {
			t.Errorf("%q: %q %d", s, u, e)
		}
	}
	if lines < 10000 || long < 10000 {
		t.Error(lines, long)
	}
	for _, many := range []int{196, 197} {
		l := []api.Token{name(strings.Repeat("a", many)), comma, reg(1)}
		s, e := token.Text(l)
		m, _, f := line(t, s)
		if e != api.OK || len(s) != many+4 || many == 196 && (f != api.OK || !slices.Equal(bare(m), l)) || many == 197 && f != api.ErrLong {
			t.Error(many, len(s), e, m, f)
		}
	}
}

// P20.2, P20.3: a line is told by its tokens; what Text says of these has the same ones.
func TestBackAndThere(t *testing.T) {
	next, many := mixed(11), 0
	for range 60000 {
		s := ""
		for range next(14) {
			s += piece(next)
		}
		l, _, e := token.Line(s)
		if e != api.OK {
			continue
		}
		u, e := token.Text(l)
		if e != api.OK {
			t.Errorf("%q: %v %d", s, l, e)
		}
		if len(u) > 200 {
			continue
		}
		many++
		if m, _, e := token.Line(u); e != api.OK || !slices.Equal(bare(m), bare(l)) {
			t.Errorf("%q %q: %v %v %d", s, u, l, m, e)
		}
	}
	if many < 10000 {
		t.Error(many)
	}
}

// R5: the same again and again, whatever was asked between; what was answered stays as it was.
func TestTheSameAgain(t *testing.T) {
	next := mixed(2)
	for range 3000 {
		s := ""
		for range next(20) {
			s += piece(next)
		}
		l, at, e := token.Line(s)
		kept := slices.Clone(l)
		token.Line("other r1, 5")
		token.Text([]api.Token{some(next)})
		m, to, f := token.Line(s)
		if !slices.Equal(l, m) || at != to || e != f || !slices.Equal(l, kept) {
			t.Error(s, l, at, e, m, to, f)
		}
		clear(m)
		if !slices.Equal(l, kept) {
			t.Error(s, l, kept)
		}
		a, e := token.Text(l)
		if b, f := token.Text(l); a != b || e != f {
			t.Error(l, a, e, b, f)
		}
	}
}

// The chapter's table.
func TestExamples(t *testing.T) {
	want := []api.Token{name("top"), colon, name("load"), reg(3), comma, num(-16)}
	if l, at, e := token.Line("top: load r3, -0x10 # x"); !slices.Equal(bare(l), want) || at != 0 || e != api.OK {
		t.Error(l, at, e)
	}
	if l, _, e := token.Line("r16, 4294967296"); !slices.Equal(bare(l), []api.Token{name("r16"), comma, num(bound)}) || e != api.OK {
		t.Error(l, e)
	}
	if l, at, e := token.Line("r16, 4294967297"); len(l) != 0 || at != 5 || e != api.ErrBig {
		t.Error(l, at, e)
	}
	if l, at, e := token.Line("add &"); len(l) != 0 || at != 4 || e != api.ErrToken {
		t.Error(l, at, e)
	}
}
