package tests

import (
	"math"
	"regexp"
	"slices"
	"strconv"
	"strings"
	"testing"

	"loop.example/g00711/impl"
)

func TestDecText(t *testing.T) {
	cases := map[int]string{
		0: "0", 7: "7", -7: "-7", 10: "10", -120: "-120", 4096: "4096",
		9999999999: "9999999999", -9999999999: "-9999999999",
		10000000000: "10000000000", -10000000000: "-10000000000",
		math.MaxInt: "9223372036854775807", math.MinInt: "-9223372036854775808",
	}
	for n, want := range cases {
		if got := impl.DecText(n); got != want {
			t.Errorf("DecText(%d) = %q, want %q", n, got, want)
		}
	}
}

func TestReadDecTakes(t *testing.T) {
	cases := map[string]int{
		"0": 0, "5": 5, "-5": -5, "10": 10, "-120": -120, "1234567890": 1234567890,
		"2147483648": 2147483648, "-2147483649": -2147483649,
		"9999999999": 9999999999, "-9999999999": -9999999999,
	}
	for s, want := range cases {
		if got, ok := impl.ReadDec(s); got != want || !ok {
			t.Errorf("ReadDec(%q) = %d, %v, want %d", s, got, ok, want)
		}
	}
}

func TestReadDecRefuses(t *testing.T) {
	for _, s := range []string{
		"", "-", "+", "--", "-0", "--1", "+1", "+0", "-+1", "+-1", "1-",
		"00", "01", "-01", "000", "0000000001", "00000000001", "-0000000001",
		"10000000000", "-10000000000", "12345678901", "-12345678901", "99999999999",
		"9223372036854775807", "-9223372036854775808", "9223372036854775808", "18446744073709551617",
		"1x", "x1", "a", "f", "0x1", "0b1", "0o1", "1_0", "1e3", "1.0", "1.", "1,0",
		" 1", "1 ", "1\n", "\t1", "1\x00", "\x001", "\xff", "1\xff", "\u0661", "\uff11", "\u22121",
		strings.Repeat("9", impl.MaxText+1), strings.Repeat("0", impl.MaxText+1),
	} {
		if got, ok := impl.ReadDec(s); got != 0 || ok {
			t.Errorf("ReadDec(%q) = %d, %v, want 0, false", s, got, ok)
		}
	}
}

// spread tells numbers all over 64 bits: the powers of 2 and 10 with their neighbours, and some in between.
func spread() []int {
	var list []int
	for _, base := range []int{2, 10} {
		for power := 1; power > 0 && power < math.MaxInt/base; power *= base {
			list = append(list, power-1, power, power+1, 1-power, -power, -power-1)
		}
	}
	for k := range 2000 {
		mixed := int(uint64(k) * 0x9e3779b97f4a7c15)
		list = append(list, mixed, mixed>>30, mixed>>33, k, -k)
	}
	return append(list, math.MaxInt, math.MinInt)
}

func TestDecComesBack(t *testing.T) {
	for _, n := range spread() {
		want, wantOk := n, true
		if n < -9999999999 || n > 9999999999 {
			want, wantOk = 0, false
		}
		if got, ok := impl.ReadDec(impl.DecText(n)); got != want || ok != wantOk {
			t.Errorf("%d came back as %d, %v", n, got, ok)
		}
	}
}

func TestHexText(t *testing.T) {
	cases := map[uint32]string{
		0: "0", 9: "9", 10: "a", 15: "f", 16: "10", 160: "a0", 0xdeadbeef: "deadbeef",
		0x01234567: "1234567", 0x89abcdef: "89abcdef", 1 << 31: "80000000", 4294967295: "ffffffff",
	}
	for n, want := range cases {
		if got := impl.HexText(n); got != want {
			t.Errorf("HexText(%d) = %q, want %q", n, got, want)
		}
		if got, ok := impl.ReadHex(want); got != n || !ok {
			t.Errorf("ReadHex(%q) = %d, %v, want %d", want, got, ok, n)
		}
	}
}

func TestReadHexRefuses(t *testing.T) {
	for _, s := range []string{
		"", "-", "-1", "-0", "+1", "+a", "00", "0a", "01", "00000000", "0ffffffff",
		"A", "F", "aB", "FFFFFFFF", "DEADBEEF", "g", "1g", "z", "0x1", "0X1", "x1", "1_0",
		"100000000", "fffffffff", "ffffffff0", "10000000000000000", "ffffffffffffffffffffffff",
		" 1", "1 ", "1\n", "\t1", "1\x00", "\xff", "\uff11", "\uff41",
		strings.Repeat("f", impl.MaxText+1), strings.Repeat("0", impl.MaxText+1),
	} {
		if got, ok := impl.ReadHex(s); got != 0 || ok {
			t.Errorf("ReadHex(%q) = %d, %v, want 0, false", s, got, ok)
		}
	}
}

func TestHexComesBack(t *testing.T) {
	for _, n := range spread() {
		want := uint32(n)
		if got, ok := impl.ReadHex(impl.HexText(want)); got != want || !ok {
			t.Errorf("%d came back as %d, %v", want, got, ok)
		}
	}
}

// eachText tells all texts of at most n of the given signs.
func eachText(signs string, n int, tell func(s string)) {
	tell("")
	if n == 0 {
		return
	}
	for k := range len(signs) {
		eachText(signs, n-1, func(rest string) { tell(signs[k:k+1] + rest) })
	}
}

func TestShortTextsAsNumbers(t *testing.T) {
	dec := regexp.MustCompile(`\A(0|-?[1-9][0-9]*)\z`)
	hex := regexp.MustCompile(`\A(0|[1-9a-f][0-9a-f]*)\z`)
	eachText("-+01 9afAFgx_.\n\xc3", 4, func(s string) {
		n, ok := impl.ReadDec(s)
		if ok != dec.MatchString(s) || ok && strconv.Itoa(n) != s || !ok && n != 0 {
			t.Errorf("ReadDec(%q) = %d, %v", s, n, ok)
		}
		h, ok := impl.ReadHex(s)
		if ok != hex.MatchString(s) || ok && strconv.FormatUint(uint64(h), 16) != s || !ok && h != 0 {
			t.Errorf("ReadHex(%q) = %d, %v", s, h, ok)
		}
	})
}

func TestLines(t *testing.T) {
	cases := map[string][]string{
		"":                               {},
		"\n":                             {""},
		"\n\n":                           {"", ""},
		"a":                              {"a"},
		"a\n":                            {"a"},
		"\na":                            {"", "a"},
		"a\nb":                           {"a", "b"},
		"a\nb\n":                         {"a", "b"},
		"a\n\nb":                         {"a", "", "b"},
		"a\n\n":                          {"a", ""},
		" ":                              {" "},
		"a\n ":                           {"a", " "},
		"a\r\nb\t\n c":                   {"a\r", "b\t", " c"},
		"\x00\xff\n\n\xfe\u0085\u2028\n": {"\x00\xff", "", "\xfe\u0085\u2028"},
	}
	for s, want := range cases {
		if got := impl.Lines(s); !slices.Equal(got, want) {
			t.Errorf("Lines(%q) = %q, want %q", s, got, want)
		}
	}
}

func TestWords(t *testing.T) {
	cases := map[string][]string{
		"":                                     {},
		" ":                                    {},
		"\t\n ":                                {},
		"a":                                    {"a"},
		" a":                                   {"a"},
		"a ":                                   {"a"},
		"\ta\t":                                {"a"},
		"\n\nab\n":                             {"ab"},
		" a\tbc\n d":                           {"a", "bc", "d"},
		"a  b\t\tc":                            {"a", "b", "c"},
		" \t ~dup \t :x\t ":                    {"~dup", ":x"},
		"a\rb\vc\fd":                           {"a\rb\vc\fd"},
		"a\u00a0b\u0085c\u2003d e":             {"a\u00a0b\u0085c\u2003d", "e"},
		"\x00 \xff\xfe \xc3\t\xe2\x82\n\u20ac": {"\x00", "\xff\xfe", "\xc3", "\xe2\x82", "\u20ac"},
	}
	for s, want := range cases {
		if got := impl.Words(s); !slices.Equal(got, want) {
			t.Errorf("Words(%q) = %q, want %q", s, got, want)
		}
	}
}

func TestShortTextsInParts(t *testing.T) {
	eachText("a \n\t\r\xc3\xa9", 6, func(s string) {
		lines := strings.Split(s, "\n")
		if lines[len(lines)-1] == "" {
			lines = lines[:len(lines)-1]
		}
		if got := impl.Lines(s); !slices.Equal(got, lines) {
			t.Errorf("Lines(%q) = %q, want %q", s, got, lines)
		}
		words := strings.FieldsFunc(s, func(r rune) bool { return r == ' ' || r == '\n' || r == '\t' })
		if got := impl.Words(s); !slices.Equal(got, words) {
			t.Errorf("Words(%q) = %q, want %q", s, got, words)
		}
	})
}

func TestEachByteInParts(t *testing.T) {
	for b := range 256 {
		s := "x" + string([]byte{byte(b)}) + "y"
		lines, words := []string{s}, []string{s}
		switch b {
		case '\n':
			lines, words = []string{"x", "y"}, []string{"x", "y"}
		case ' ', '\t':
			words = []string{"x", "y"}
		}
		if got := impl.Lines(s); !slices.Equal(got, lines) {
			t.Errorf("Lines(%q) = %q", s, got)
		}
		if got := impl.Words(s); !slices.Equal(got, words) {
			t.Errorf("Words(%q) = %q", s, got)
		}
	}
}

// Chapter 1 names no limit for Lines and Words: MaxText is a limit of later chapters.
func TestLongTextsInParts(t *testing.T) {
	if impl.MaxText != 6000 {
		t.Error("MaxText", impl.MaxText)
	}
	for _, n := range []int{impl.MaxText / 2, impl.MaxText/2 + 1, 10 * impl.MaxText} {
		if got := len(impl.Lines(strings.Repeat("a\n", n))); got != n {
			t.Errorf("%d lines of %d", got, n)
		}
		if got := len(impl.Words(strings.Repeat("a ", n))); got != n {
			t.Errorf("%d words of %d", got, n)
		}
	}
	long := strings.Repeat("a", impl.MaxText+1)
	if l, w := impl.Lines(long), impl.Words(long); !slices.Equal(l, []string{long}) || !slices.Equal(w, l) {
		t.Error("one long part")
	}
}

// overwrite changes an answer and the spare room behind it.
func overwrite(list []string) {
	list = list[:cap(list)]
	for k := range list {
		list[k] = "changed"
	}
}

func TestListsAreNew(t *testing.T) {
	s := "a b\nc\n"
	lines, words := impl.Lines(s), impl.Words(s)
	overwrite(lines)
	if !slices.Equal(words, []string{"a", "b", "c"}) || !slices.Equal(impl.Lines(s), []string{"a b", "c"}) {
		t.Error("an answer of Lines is shared")
	}
	overwrite(words)
	if !slices.Equal(impl.Words(s), []string{"a", "b", "c"}) {
		t.Error("an answer of Words is shared")
	}
	if s != "a b\nc\n" {
		t.Error("an argument was changed")
	}
}
