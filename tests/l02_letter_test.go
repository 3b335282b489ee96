package tests

import (
	"math"
	"strings"
	"testing"

	"loop.example/g00711/impl"
)

// letterRow is a letter by its number, written out so that no rule of the program is used to test it.
type letterRow struct {
	sign byte
	code string
}

var letterRows = []letterRow{
	{' ', "0000"}, {'r', "0001"}, {'t', "0010"}, {'o', "0011"}, {'e', "0100"}, {'a', "0101"}, {'n', "0110"}, {'i', "0111"},
	{'s', "10000"}, {'m', "10001"}, {'c', "10010"}, {'y', "10011"}, {'l', "10100"}, {'g', "10101"}, {'f', "10110"}, {'w', "10111"},
	{'d', "1100000"}, {'v', "1100001"}, {'p', "1100010"}, {'b', "1100011"}, {'h', "1100100"}, {'x', "1100101"}, {'u', "1100110"}, {'q', "1100111"},
	{'0', "1101000"}, {'1', "1101001"}, {'2', "1101010"}, {'3', "1101011"}, {'4', "1101100"}, {'5', "1101101"}, {'6', "1101110"}, {'7', "1101111"},
	{'8', "1110000"}, {'9', "1110001"}, {'j', "1110010"}, {'-', "1110011"}, {'k', "1110100"}, {'.', "1110101"}, {'z', "1110110"}, {'/', "1110111"},
	{';', "1111000"}, {'\'', "1111001"}, {'!', "1111010"}, {'+', "1111011"}, {'@', "1111100"}, {'*', "1111101"}, {',', "1111110"}, {'?', "1111111"},
}

// bitsOf reads a text of the signs 0 and 1.
func bitsOf(text string) uint32 {
	var bits uint32
	for _, sign := range text {
		bits = bits<<1 | uint32(sign-'0')
	}
	return bits
}

// bitText writes the n lowest of bits as signs.
func bitText(bits uint32, n int) string {
	text := make([]byte, n)
	for at := range text {
		text[at] = '0' + byte(bits>>(n-1-at)&1)
	}
	return string(text)
}

// signOf tells the number of a sign by the rows; -1 where it is in none.
func signOf(sign byte) int {
	for k, row := range letterRows {
		if row.sign == sign {
			return k
		}
	}
	return -1
}

// decodeByRows tells what Decode should tell of a text of the signs 0 and 1.
func decodeByRows(text string) (int, int) {
	for k, row := range letterRows {
		if strings.HasPrefix(text, row.code) {
			return k, len(row.code)
		}
	}
	return -1, 0
}

func TestEachLetter(t *testing.T) {
	if impl.Letters != 48 || len(letterRows) != impl.Letters {
		t.Fatal("not 48 letters", impl.Letters, len(letterRows))
	}
	for k, row := range letterRows {
		if got := impl.LetterAt(k); got != row.sign {
			t.Errorf("LetterAt(%d) = %q, want %q", k, got, row.sign)
		}
		if got := impl.LetterOf(row.sign); got != k {
			t.Errorf("LetterOf(%q) = %d, want %d", row.sign, got, k)
		}
		if got := impl.WidthOf(k); got != len(row.code) {
			t.Errorf("WidthOf(%d) = %d, want %d", k, got, len(row.code))
		}
		if got := impl.BitsOf(k); got != bitsOf(row.code) {
			t.Errorf("BitsOf(%d) = %d, want %d", k, got, bitsOf(row.code))
		}
	}
}

func TestNumbersOfNoLetter(t *testing.T) {
	for _, k := range append(spread(), -1, impl.Letters) {
		if k >= 0 && k < impl.Letters {
			continue
		}
		if b, w, c := impl.LetterAt(k), impl.WidthOf(k), impl.BitsOf(k); b != 0 || w != 0 || c != 0 {
			t.Errorf("letter %d: %q, %d bits, code %d", k, b, w, c)
		}
	}
}

func TestEachByteAsLetter(t *testing.T) {
	found := 0
	for b := range 256 {
		want := signOf(byte(b))
		got := impl.LetterOf(byte(b))
		if got != want {
			t.Errorf("LetterOf(%q) = %d, want %d", byte(b), got, want)
		}
		if got >= 0 {
			found++
		}
	}
	if found != impl.Letters {
		t.Error(found, "bytes are letters")
	}
}

func TestDecodeEachCode(t *testing.T) {
	for k, row := range letterRows {
		width := len(row.code)
		for n := width; n <= 32; n++ {
			below := uint32(1)<<(n-width) - 1
			above := ^uint32(0) << (n - 1) << 1
			for _, rest := range []uint32{0, 1, below / 3, below - 1, below} {
				for _, high := range []uint32{0, above, above & 0x5a5a5a5a, above & 0xa5a5a5a5} {
					bits := bitsOf(row.code)<<(n-width) | rest&below | high
					if got, w := impl.Decode(bits, n); got != k || w != width {
						t.Fatalf("Decode(%#x, %d) = %d, %d, want %d, %d", bits, n, got, w, k, width)
					}
				}
			}
		}
		for n := range width {
			bits := bitsOf(row.code) >> (width - n)
			for _, high := range []uint32{0, ^uint32(0) << n, bitsOf(row.code) << n} {
				if got, w := impl.Decode(bits|high, n); got != -1 || w != 0 {
					t.Errorf("Decode(%#x, %d) = %d, %d of a code that ends too soon", bits|high, n, got, w)
				}
			}
		}
	}
}

func TestDecodeShortTexts(t *testing.T) {
	for n := 1; n <= 12; n++ {
		for bits := range uint32(1) << n {
			want, wantWidth := decodeByRows(bitText(bits, n))
			if k, w := impl.Decode(bits, n); k != want || w != wantWidth {
				t.Errorf("Decode(%s) = %d, %d, want %d, %d", bitText(bits, n), k, w, want, wantWidth)
			}
		}
	}
}

func TestDecodeAnyBits(t *testing.T) {
	for _, number := range spread() {
		for n := 1; n <= 32; n++ {
			bits := uint32(number)
			want, wantWidth := decodeByRows(bitText(bits, n))
			if k, w := impl.Decode(bits, n); k != want || w != wantWidth {
				t.Errorf("Decode(%#x, %d) = %d, %d, want %d, %d", bits, n, k, w, want, wantWidth)
			}
		}
	}
}

func TestDecodeOfNoText(t *testing.T) {
	for _, n := range append(spread(), 0, 33, -1, 64, 65, 36, math.MinInt+4) {
		if n >= 1 && n <= 32 {
			continue
		}
		for _, bits := range []uint32{0, 1, 0x7f, 0xffffffff} {
			if k, w := impl.Decode(bits, n); k != -1 || w != 0 {
				t.Errorf("Decode(%#x, %d) = %d, %d", bits, n, k, w)
			}
		}
	}
}

func TestLettersComeBackFromTheirBits(t *testing.T) {
	for k := range impl.Letters {
		if got := impl.LetterOf(impl.LetterAt(k)); got != k {
			t.Errorf("%d came back as %d", k, got)
		}
		for next := range impl.Letters {
			width := impl.WidthOf(k) + impl.WidthOf(next)
			bits := impl.BitsOf(k)<<impl.WidthOf(next) | impl.BitsOf(next)
			first, taken := impl.Decode(bits, width)
			second, rest := impl.Decode(bits, width-taken)
			if first != k || second != next || taken+rest != width {
				t.Errorf("%d and %d came back as %d and %d", k, next, first, second)
			}
		}
	}
}

func TestNameOk(t *testing.T) {
	full := strings.Repeat("?", impl.MaxName)
	for s, want := range map[string]bool{
		"": false, "r": true, "?": true, "0": true, "dup": true, "2/mod?": true, "-": true, "a.b,c;d'e": true,
		" ": false, " a": false, "a ": false, "a b": false, "a  b": false,
		"Dup": false, "duP": false, "a\n": false, "\ta": false, "\x00": false, "r\x00": false, "a\xff": false, "\u00e9": false, "a:b": false, "a=b": false,
		full: true, full + "r": false, full[1:]: true, full[1:] + " ": false, full[1:] + "A": false, " " + full[1:]: false,
		full[:12] + "A" + full[13:]: false, strings.Repeat("r", 6000): false, strings.Repeat(" ", impl.MaxName): false,
	} {
		if got := impl.NameOk(s); got != want {
			t.Errorf("NameOk(%q) = %v, want %v", s, got, want)
		}
	}
	if impl.MaxName != 24 {
		t.Error("MaxName", impl.MaxName)
	}
}

func TestNameOkOfEachByte(t *testing.T) {
	for n := 1; n <= impl.MaxName+1; n++ {
		for at := range n {
			for b := range 256 {
				name := []byte(strings.Repeat("e", n))
				name[at] = byte(b)
				want := n <= impl.MaxName && signOf(byte(b)) > 0
				if got := impl.NameOk(string(name)); got != want {
					t.Errorf("NameOk(%q) = %v, want %v", name, got, want)
				}
			}
		}
	}
}
