package tests

import (
	"fmt"
	"math"
	"regexp"
	"slices"
	"strconv"
	"strings"
	"testing"
	"unsafe"

	"loop.example/g00711/impl"
)

// wordMarks are the first bytes of the texts of items with a name, by their kinds.
var wordMarks = map[int]string{impl.IExec: "~", impl.IDef: ":", impl.IComp: "=", impl.INote: "\"", impl.ICap: "^", impl.ICaps: "_"}

// numberMarks are those of numbers.
var numberMarks = map[int]string{impl.IYel: "~", impl.IGreen: "="}

const (
	decShape = `(0|-?[1-9][0-9]*)`
	hexShape = `(0|[1-9a-f][0-9a-f]{0,7})`
)

// The shapes of the texts of items: with a name, of a number in base 10 and in base 16, of a variable, of a raw cell.
var (
	wordText = regexp.MustCompile(`\A([~:="^_])(` + letterShape() + `{1,24})\z`)
	decText  = regexp.MustCompile(`\A([~=])#` + decShape + `\z`)
	hexText  = regexp.MustCompile(`\A([~=])\$` + hexShape + `\z`)
	varText  = regexp.MustCompile(`\A(&)(` + letterShape() + `{1,7})#` + decShape + `\z`)
	rawText  = regexp.MustCompile(`\A(%)` + hexShape + `\z`)
	anyWord  = regexp.MustCompile(`[^ \n\t]+`)
)

func letterShape() string {
	var class strings.Builder
	for _, sign := range []byte(nameLetters()) {
		fmt.Fprintf(&class, `\x%02x`, sign)
	}
	return "[" + class.String() + "]"
}

// readByRows tells what ReadItem should tell of a text.
func readByRows(s string) (impl.Item, bool) {
	if found := wordText.FindStringSubmatch(s); found != nil {
		return impl.Item{Kind: kindOf(wordMarks, found[1]), Name: found[2]}, true
	}
	if found := decText.FindStringSubmatch(s); found != nil {
		n, err := strconv.ParseInt(found[2], 10, 32)
		if err != nil {
			return impl.Item{}, false
		}
		return impl.Item{Kind: kindOf(numberMarks, found[1]), N: int32(n)}, true
	}
	if found := hexText.FindStringSubmatch(s); found != nil {
		return impl.Item{Kind: kindOf(numberMarks, found[1]), N: int32(cellOf(found[2])), Hex: true}, true
	}
	if found := varText.FindStringSubmatch(s); found != nil {
		n, err := strconv.ParseInt(found[3], 10, 32)
		if err != nil || len(packByRows(found[2])) != 1 {
			return impl.Item{}, false
		}
		return impl.Item{Kind: impl.IVar, Name: found[2], N: int32(n)}, true
	}
	if found := rawText.FindStringSubmatch(s); found != nil {
		return impl.Item{Raw: cellOf(found[2])}, true
	}
	return impl.Item{}, false
}

func kindOf(marks map[int]string, mark string) int {
	for kind, other := range marks {
		if other == mark {
			return kind
		}
	}
	return -1
}

func cellOf(digits string) uint32 {
	cell, _ := strconv.ParseUint(digits, 16, 32)
	return uint32(cell)
}

// textByRows tells what ItemText should tell of an item that is one.
func textByRows(it impl.Item) string {
	if mark, ok := wordMarks[it.Kind]; ok {
		return mark + it.Name
	}
	if mark, ok := numberMarks[it.Kind]; ok && it.Hex {
		return fmt.Sprintf("%s$%x", mark, uint32(it.N))
	} else if ok {
		return fmt.Sprintf("%s#%d", mark, it.N)
	}
	if it.Kind == impl.IVar {
		return fmt.Sprintf("&%s#%d", it.Name, it.N)
	}
	return fmt.Sprintf("%%%x", it.Raw)
}

// cellsByRows tells the cells of an item that is one.
func cellsByRows(it impl.Item) []uint32 {
	if tag, ok := wordTags[it.Kind]; ok {
		return wordCells(it.Name, tag)
	}
	if _, ok := numberTags[it.Kind]; ok {
		return numberCells(it.Kind, it.N, it.Hex)
	}
	if it.Kind == impl.IVar {
		return []uint32{packByRows(it.Name)[0]*16 + 12, uint32(it.N)}
	}
	return []uint32{it.Raw}
}

// exportByRows tells what Export should tell of cells.
func exportByRows(cells []uint32) string {
	if len(cells) > 64 {
		return ""
	}
	text := ""
	for _, it := range parseByRows(cells) {
		if it.Kind == impl.IDef {
			text += "\n" + textByRows(it)
		} else {
			text += " " + textByRows(it)
		}
	}
	if text == "" {
		return ""
	}
	return text[1:] + "\n"
}

// importByRows tells what Import should tell of a text.
func importByRows(s string) ([]uint32, impl.Spot) {
	if len(s) > 6000 {
		return nil, impl.Spot{Code: 1}
	}
	var list []impl.Item
	var cells []uint32
	var last impl.Spot
	for _, place := range anyWord.FindAllStringIndex(s, -1) {
		ahead := s[:place[0]]
		last = impl.Spot{Line: 1 + strings.Count(ahead, "\n"), Col: len(ahead) - strings.LastIndex(ahead, "\n")}
		it, ok := readByRows(s[place[0]:place[1]])
		if !ok {
			return nil, impl.Spot{Code: 2, Line: last.Line, Col: last.Col}
		}
		list, cells = append(list, it), append(cells, cellsByRows(it)...)
		if len(cells) > 64 {
			return nil, impl.Spot{Code: 3, Line: last.Line, Col: last.Col}
		}
	}
	if !slices.Equal(parseByRows(cells), list) {
		return nil, impl.Spot{Code: 4, Line: last.Line, Col: last.Col}
	}
	return cells, impl.Spot{}
}

// heldText is a text that is an argument, over bytes that can be looked at and written over, with room behind it.
type heldText struct {
	all  []byte
	kept string
	size int
}

func holdText(s string) heldText {
	kept := s + strings.Repeat("~", 40)
	return heldText{[]byte(kept), kept, len(s)}
}

func (h heldText) text() string { return unsafe.String(&h.all[0], h.size) }

// wipe holds the bytes against what they were, and writes over them, of which no answer may see anything.
func (h heldText) wipe(t *testing.T) {
	t.Helper()
	if string(h.all) != h.kept {
		t.Fatalf("an argument was written into: %q of %q", h.all, h.kept)
	}
	clear(h.all)
}

// checkText holds the text of an item against what it should be.
func checkText(t *testing.T, it impl.Item, want string) {
	t.Helper()
	for range 2 {
		argument := holdText(it.Name)
		asked := it
		asked.Name = argument.text()
		got := impl.ItemText(asked)
		argument.wipe(t)
		if got != want {
			t.Fatalf("ItemText(%+v) = %q, want %q", it, got, want)
		}
	}
}

// checkReadItem holds the item that is read of a text against what it should be.
func checkReadItem(t *testing.T, s string, want impl.Item, isOne bool) {
	t.Helper()
	for range 2 {
		argument := holdText(s)
		got, ok := impl.ReadItem(argument.text())
		argument.wipe(t)
		if ok != isOne || got != want {
			t.Fatalf("ReadItem(%q) = %+v, %v, want %+v, %v", s, got, ok, want, isOne)
		}
	}
}

func checkReadByRows(t *testing.T, s string) bool {
	t.Helper()
	want, isOne := readByRows(s)
	checkReadItem(t, s, want, isOne)
	return isOne
}

// checkNoItem holds that a text is none of an item's, by the rows too.
func checkNoItem(t *testing.T, s string) {
	t.Helper()
	if it, ok := readByRows(s); ok {
		t.Fatalf("by the rows %q is the text of %+v", s, it)
	}
	checkReadItem(t, s, impl.Item{}, false)
}

func checkBothWays(t *testing.T, it impl.Item, s string) {
	t.Helper()
	checkText(t, it, s)
	checkReadItem(t, s, it, true)
}

// checkExport holds the text of cells against what it should be.
func checkExport(t *testing.T, cells []uint32, want string) {
	t.Helper()
	argument := holdCells(cells)
	for range 2 {
		if got := impl.Export(argument.list()); got != want {
			t.Fatalf("Export(%x) = %q, want %q", cells, got, want)
		}
		argument.check(t)
	}
}

// checkImport holds what is told of a text against what it should be.
func checkImport(t *testing.T, s string, want []uint32, spot impl.Spot) {
	t.Helper()
	for range 2 {
		argument := holdText(s)
		cells, got := impl.Import(argument.text())
		argument.wipe(t)
		if got != spot || !slices.Equal(cells, want) {
			t.Fatalf("Import(%q) = %x, %+v, want %x, %+v", s, cells, got, want, spot)
		}
		for at := range cells[:cap(cells)] {
			cells[:cap(cells)][at] = 0x77777777
		}
	}
}

func checkImportByRows(t *testing.T, s string) {
	t.Helper()
	want, spot := importByRows(s)
	checkImport(t, s, want, spot)
}

// checkRefused holds that a text is refused, by the rows too.
func checkRefused(t *testing.T, s string, code, line, col int) {
	t.Helper()
	spot := impl.Spot{Code: code, Line: line, Col: col}
	if _, told := importByRows(s); told != spot {
		t.Fatalf("by the rows %q is refused by %+v, not by %+v", s, told, spot)
	}
	checkImport(t, s, nil, spot)
}

// checkTaken holds that a text is taken, and that the text of its cells is taken too, and is its own.
func checkTaken(t *testing.T, s string, want []uint32) {
	t.Helper()
	checkImport(t, s, want, impl.Spot{})
	own := exportByRows(want)
	checkExport(t, want, own)
	checkImport(t, own, want, impl.Spot{})
}

func TestCodesOfImport(t *testing.T) {
	for want, code := range []int{impl.ImOk, impl.ImLong, impl.ImWord, impl.ImFull, impl.ImList} {
		if code != want {
			t.Errorf("code %d is %d", want, code)
		}
	}
}

func TestItemsAsTextsByHand(t *testing.T) {
	rows := []struct {
		it impl.Item
		s  string
	}{
		{impl.Item{Kind: impl.IExec, Name: "go"}, "~go"},
		{impl.Item{Kind: impl.IDef, Name: "go"}, ":go"},
		{impl.Item{Kind: impl.IComp, Name: "go"}, "=go"},
		{impl.Item{Kind: impl.INote, Name: "go"}, "\"go"},
		{impl.Item{Kind: impl.ICap, Name: "go"}, "^go"},
		{impl.Item{Kind: impl.ICaps, Name: "go"}, "_go"},
		{impl.Item{Kind: impl.IComp, Name: "r"}, "=r"},
		{impl.Item{Kind: impl.INote, Name: "abcdefghijklmnopqrstuvwx"}, "\"abcdefghijklmnopqrstuvwx"},
		{impl.Item{Kind: impl.ICaps, Name: "????????????????????????"}, "_????????????????????????"},
		// Words whose names are the digits of numbers, beside the numbers.
		{impl.Item{Kind: impl.IComp, Name: "12"}, "=12"},
		{impl.Item{Kind: impl.IGreen, N: 12}, "=#12"},
		{impl.Item{Kind: impl.IGreen, N: 18, Hex: true}, "=$12"},
		{impl.Item{Kind: impl.IExec, Name: "12"}, "~12"},
		{impl.Item{Kind: impl.IYel, N: 12}, "~#12"},
		{impl.Item{Kind: impl.IYel, N: 18, Hex: true}, "~$12"},
		{impl.Item{Kind: impl.IExec, Name: "-1"}, "~-1"},
		{impl.Item{Kind: impl.IExec, Name: "-"}, "~-"},
		{impl.Item{Kind: impl.IComp, Name: "007"}, "=007"},
		{impl.Item{Kind: impl.IComp, Name: "-0"}, "=-0"},
		{impl.Item{Kind: impl.IComp, Name: "99999999999999999999"}, "=99999999999999999999"},
		{impl.Item{Kind: impl.IDef, Name: "a0"}, ":a0"},
		{impl.Item{Kind: impl.IVar, Name: "0", N: 1}, "&0#1"},
		{impl.Item{Kind: impl.IVar, Name: "-12", N: -12}, "&-12#-12"},
		// Numbers of one cell and of two.
		{impl.Item{Kind: impl.IYel}, "~#0"},
		{impl.Item{Kind: impl.IYel, Hex: true}, "~$0"},
		{impl.Item{Kind: impl.IYel, N: -1}, "~#-1"},
		{impl.Item{Kind: impl.IYel, N: -1, Hex: true}, "~$ffffffff"},
		{impl.Item{Kind: impl.IYel, N: 67108863}, "~#67108863"},
		{impl.Item{Kind: impl.IYel, N: 67108864}, "~#67108864"},
		{impl.Item{Kind: impl.IYel, N: -67108864, Hex: true}, "~$fc000000"},
		{impl.Item{Kind: impl.IYel, N: -67108865, Hex: true}, "~$fbffffff"},
		{impl.Item{Kind: impl.IGreen, N: 0xabc, Hex: true}, "=$abc"},
		{impl.Item{Kind: impl.IGreen, N: math.MaxInt32}, "=#2147483647"},
		{impl.Item{Kind: impl.IGreen, N: math.MaxInt32, Hex: true}, "=$7fffffff"},
		{impl.Item{Kind: impl.IGreen, N: math.MinInt32}, "=#-2147483648"},
		{impl.Item{Kind: impl.IGreen, N: math.MinInt32, Hex: true}, "=$80000000"},
		{impl.Item{Kind: impl.IVar, Name: "x"}, "&x#0"},
		{impl.Item{Kind: impl.IVar, Name: "rtoeani", N: math.MaxInt32}, "&rtoeani#2147483647"},
		{impl.Item{Kind: impl.IVar, Name: "dddd", N: math.MinInt32}, "&dddd#-2147483648"},
		// An IRaw of any cell, also of one that another item has; its text tells of nothing else.
		{impl.Item{}, "%0"},
		{impl.Item{Raw: 255}, "%ff"},
		{impl.Item{Raw: 0xa8}, "%a8"},
		{impl.Item{Raw: 0x10000003}, "%10000003"},
		{impl.Item{Raw: math.MaxUint32}, "%ffffffff"},
	}
	for _, row := range rows {
		checkBothWays(t, row.it, row.s)
		if s := textByRows(row.it); s != row.s {
			t.Errorf("by the rows the text of %+v is %q", row.it, s)
		}
	}
}

func TestAnyItemAsText(t *testing.T) {
	odd := oddCells()
	for seed := range 20000 {
		m := mixer(seed)
		it := mixedItem(&m, odd)
		checkBothWays(t, it, textByRows(it))
	}
	for _, n := range numbers32() {
		for kind := range numberMarks {
			for _, hex := range []bool{false, true} {
				it := impl.Item{Kind: kind, N: n, Hex: hex}
				checkBothWays(t, it, textByRows(it))
			}
		}
		for _, it := range []impl.Item{{Kind: impl.IVar, Name: "rts", N: n}, {Raw: uint32(n)}} {
			checkBothWays(t, it, textByRows(it))
		}
	}
}

// No two items have the same text.
func TestShortWordsHaveTextsOfTheirOwn(t *testing.T) {
	owners := map[string]impl.Item{}
	own := func(it impl.Item) {
		s := impl.ItemText(it)
		if other, known := owners[s]; known {
			t.Fatalf("%+v and %+v have the same text %q", it, other, s)
		}
		owners[s] = it
		checkBothWays(t, it, textByRows(it))
	}
	eachText(nameLetters(), 2, func(name string) {
		if name == "" {
			return
		}
		for kind := range wordMarks {
			own(impl.Item{Kind: kind, Name: name})
		}
		own(impl.Item{Kind: impl.IVar, Name: name, N: int32(len(name))})
	})
	for n := range int32(300) {
		for kind := range numberMarks {
			own(impl.Item{Kind: kind, N: n - 150})
			own(impl.Item{Kind: kind, N: n - 150, Hex: true})
		}
		own(impl.Item{Raw: uint32(n)})
	}
}

func TestTextsOfItemsThatAreNone(t *testing.T) {
	var list []impl.Item
	for _, kind := range []int{-1, 10, 11, 12, 256, 1 << 32, 1<<32 + impl.IDef, math.MaxInt, math.MinInt} {
		list = append(list, impl.Item{Kind: kind}, impl.Item{Kind: kind, Name: "r"}, impl.Item{Kind: kind, N: 1}, impl.Item{Kind: kind, Raw: 1})
	}
	for _, name := range []string{"", " ", "A", "a b", "r ", "r\n", "#1", "$1", "r#1", "~r", "\x00", "\xff", "\u20ac", strings.Repeat("r", 25), strings.Repeat("r", 6001)} {
		for kind := range wordMarks {
			list = append(list, impl.Item{Kind: kind, Name: name})
		}
		list = append(list, impl.Item{Kind: impl.IVar, Name: name, N: 3})
	}
	for kind := range wordMarks {
		list = append(list, impl.Item{Kind: kind, Name: "r", N: 1}, impl.Item{Kind: kind, Name: "r", Hex: true}, impl.Item{Kind: kind, Name: "r", Raw: 1})
	}
	for kind := range numberMarks {
		list = append(list, impl.Item{Kind: kind, Name: "r"}, impl.Item{Kind: kind, N: 5, Raw: 1}, impl.Item{Kind: kind, N: 5, Name: "5", Hex: true})
	}
	list = append(list,
		impl.Item{Kind: impl.IVar, Name: "rtoeanir"}, impl.Item{Kind: impl.IVar, Name: "ddddd", N: 1}, impl.Item{Kind: impl.IVar, N: 5},
		impl.Item{Kind: impl.IVar, Name: "r", Hex: true}, impl.Item{Kind: impl.IVar, Name: "r", Raw: 1},
		impl.Item{Name: "r"}, impl.Item{N: 1}, impl.Item{Hex: true}, impl.Item{Raw: 7, N: 7})
	for _, it := range list {
		checkText(t, it, "")
	}
}

func TestReadItemRefuses(t *testing.T) {
	for _, s := range []string{
		"", " ", "\n", "go", "12", "-12", "0", "A", "\x00", "\xff", "\u20ac",
		// A mark alone, marks that are none, two of them, and one that stands behind.
		"~", ":", "=", "\"", "^", "_", "&", "%", "#", "$", "~#", "~$", "=#", "=$", "&#", "&#1",
		"#1", "$1", "@go", "!go", "'go", "`go", "-go", "+go", "|go", "<go", ";go", "(go", "~~go", "~:go", "==go", ":=go", "&&x#1", "%%1", "%#1", "%$1", "go~", "go:", " ~go", "~ go", "~go ", "~go\n", "\t~go",
		// Numbers by the marks that have none, and without a mark of their own.
		":#1", "\"#1", "^#1", "_#1", ":$1", "\"$f", "^$1", "_$1", "#~1", "=##1", "~$$1", "~#$1", "~$#1", "=#1#", "~#1$", "=1#", "=r#1", "~r$1",
		// Needless noughts, signs and digits.
		"~#-0", "~#00", "~#01", "~#-01", "~#+1", "~#--1", "~#1-", "~#-", "~#a", "~#1a", "~#0x1", "~#1_0", "~#1.0", "~#1e3", "~# 1", "~#1 ", "~#\u0661", "=#-0", "=#007", "=#+0",
		"~$00", "~$0f", "~$00000001", "~$-1", "~$+1", "~$x", "~$0x1", "~$1g", "~$ 1", "=$01", "=$-f", "=$1_0", "%00", "%0f", "%-1", "%+1", "%x", "%0x1", "%g", "%00000000",
		// Capitals.
		"~$F", "~$FF", "~$aB", "=$DEADBEEF", "=$A", "%F", "%Ff", "%FFFFFFFF", "%DeadBeef", ":Go", "=DUP", "~A", "&X#1",
		// Out of range.
		"~#2147483648", "~#-2147483649", "~#4294967295", "~#4294967296", "~#-4294967296", "~#9999999999", "~#-9999999999", "~#10000000000", "~#99999999999999999999", "~#18446744073709551616",
		"=#2147483648", "=#-2147483649", "=#4294967301", "~$100000000", "~$fffffffff", "=$100000000", "=$10000000000000001", "%100000000", "%1ffffffff", "%ffffffff0", "%10000000000000000",
		"&x#2147483648", "&x#-2147483649", "&x#4294967296", "&x#10000000000",
		// Variables without a number, with two, or with one that is none; names of no field, of two, and of none.
		"&x", "&x#", "&x##1", "&x#1#2", "&x#1#", "&x#-0", "&x#01", "&x#+1", "&x#-", "&x#a", "&x$1", "&x#$1", "&x# 1", "& x#1", "&x #1", "&x#1 ", "&rtoeanir#1", "&ddddd#1", "&rtoeanid#0", "&abcdefghijklmnopqrstuvwx#1", "&a b#1", "&a_b#1", "&~x#1",
		// Names of too many bytes, or of bytes that are no letters.
		"=abcdefghijklmnopqrstuvwxy", ":rrrrrrrrrrrrrrrrrrrrrrrrr", "=a b", "=a\tb", "=a\nb", "=a\x00", "=\xff", "=\u00e9", "=a=", "=a:b", "=a_b", "=a^", "=a%b", "=a&b", "=a\"b", "=a~b", "=a(b", "=a)b", "=a[b", "=a<b", "=a\\b",
	} {
		checkNoItem(t, s)
	}
	for _, mark := range []string{"~", ":", "=", "\"", "^", "_", "&", "%", "~#", "~$", "=#", "=$", "&r#", ""} {
		for _, sign := range []string{"r", "1", "0", "f", "#", "~", " ", "\xff"} {
			checkNoItem(t, mark+strings.Repeat(sign, 6001))
			checkNoItem(t, mark+strings.Repeat(sign, 1<<20))
		}
	}
}

func TestShortTextsAsItems(t *testing.T) {
	taken := 0
	check := func(s string) {
		if checkReadByRows(t, s) {
			taken++
		}
	}
	eachText("~:=\"^_&%#$-09afArg \n\xc3", 4, check)
	eachText("~=&%#$-01r", 5, check)
	if taken < 3000 {
		t.Errorf("only %d texts were items'", taken)
	}
}

// Each byte stands once at each place of texts of each kind, instead of the one there and ahead of it.
func TestEachByteInItems(t *testing.T) {
	for _, s := range []string{"~go", ":go", "=dup", "\"r", "^12", "_ab", "~#-12", "=#2147483647", "~$ffffffff", "=$1a", "&x#3", "&rtoeani#-9", "%ff", "%10000003"} {
		for at := range len(s) + 1 {
			for b := range 256 {
				sign := string([]byte{byte(b)})
				texts := []string{s[:at] + sign + s[at:]}
				if at < len(s) {
					texts = append(texts, s[:at]+sign+s[at+1:])
				}
				for _, text := range texts {
					checkReadByRows(t, text)
				}
			}
			checkReadByRows(t, s[:at])
			checkReadByRows(t, s[at:])
		}
	}
}

func TestExportByHand(t *testing.T) {
	rows := []struct {
		cells []uint32
		want  string
	}{
		{nil, ""}, {[]uint32{0}, ""}, {make([]uint32, 64), ""}, {make([]uint32, 65), ""}, {slices.Repeat([]uint32{7}, 65), ""}, {slices.Repeat([]uint32{7}, 1<<16), ""},
		{[]uint32{7}, "%7\n"}, {[]uint32{0, 7, 0, 0}, "%0 %7\n"}, {[]uint32{0x10000004}, "=r\n"},
		// The first item has nothing ahead of it, an IDef or not; each later IDef begins a line, and nothing else does.
		{[]uint32{0x10000003}, ":r\n"}, {[]uint32{0x10000003, 0x10000003}, ":r\n:r\n"}, {[]uint32{0x10000004, 0x10000003}, "=r\n:r\n"},
		{[]uint32{0, 0x10000003}, "%0\n:r\n"}, {[]uint32{0x10000003, 0x10000004, 0x10000003, 0x10000001}, ":r =r\n:r ~r\n"},
		{[]uint32{0x10000001, 0x10000004, 0x10000009, 0x1000000a, 0x1000000b, 0xa8, 0xa6, 0x1000000c, 3, 7}, "~r =r \"r ^r _r ~#5 =#5 &r#3 %7\n"},
		{[]uint32{0x1234567a, 0x10000000, 0x12345673, 0x20000000, 0xb8}, "^rtoeanir\n:rtoeanit ~$5\n"},
		{[]uint32{2, 0x4000000, 0x15, 0x80000000, 2, 0x3ffffff, 5}, "~#67108864 =$80000000 %2 %3ffffff %5\n"},
		{[]uint32{0x1000000c, 0, 0}, "&r#0\n"}, {[]uint32{0x1000000c}, "%1000000c\n"}, {[]uint32{2, 0, 0}, "%2\n"}, {[]uint32{0xffffffff, 0xffffffff}, "%ffffffff %ffffffff\n"},
		{slices.Repeat([]uint32{0xffffffff}, 64), strings.Repeat(" %ffffffff", 64)[1:] + "\n"}, {slices.Repeat([]uint32{0x10000003}, 64), strings.Repeat(":r\n", 64)},
		{append(make([]uint32, 63), 7), strings.Repeat("%0 ", 63) + "%7\n"}, {append(make([]uint32, 63), 0x1000000c), strings.Repeat("%0 ", 63) + "%1000000c\n"},
	}
	for _, row := range rows {
		checkExport(t, row.cells, row.want)
		if s := exportByRows(row.cells); s != row.want {
			t.Errorf("by the rows the text of %x is %q", row.cells, s)
		}
	}
}

// checkCellsComeBack holds the text of cells against the rows, and what is read of it against the cells.
func checkCellsComeBack(t *testing.T, cells []uint32) {
	t.Helper()
	text := exportByRows(cells)
	checkExport(t, cells, text)
	back, spot := impl.Import(text)
	if spot != (impl.Spot{}) || len(back) > len(cells) {
		t.Fatalf("Import(%q) = %x, %+v, the text of %x", text, back, spot, cells)
	}
	checkExport(t, back, text)
	if !slices.Equal(append(slices.Clone(back), make([]uint32, len(cells)-len(back))...), cells) {
		t.Fatalf("%x came back as %x", cells, back)
	}
}

func TestAnyThreeCellsAsText(t *testing.T) {
	odd := oddCells()
	for _, first := range odd {
		checkCellsComeBack(t, []uint32{first})
		for _, second := range odd {
			checkCellsComeBack(t, []uint32{first, second})
			for _, third := range odd[:24] {
				checkCellsComeBack(t, []uint32{first, second, third})
			}
		}
	}
}

func TestAnyBlockAsText(t *testing.T) {
	odd := oddCells()
	for seed := range 5000 {
		m := mixer(seed)
		cells := mixedCells(&m, []int{64, m.below(65)}[seed%2])
		for at := range cells {
			switch m.below(4) {
			case 0:
				copy(cells[at:], impl.CellsOf(mixedItem(&m, odd)))
			case 1:
				cells[at] = odd[m.below(len(odd))]
			}
		}
		checkCellsComeBack(t, cells)
		clear(cells[m.below(len(cells)+1):])
		checkCellsComeBack(t, cells)
	}
	for _, cell := range odd {
		for n := range 65 {
			checkCellsComeBack(t, slices.Repeat([]uint32{cell}, n))
		}
	}
}

func TestImportByHand(t *testing.T) {
	rows := []struct {
		s     string
		cells []uint32
	}{
		{"", nil}, {" ", nil}, {"\n", nil}, {"\t", nil}, {" \n\t\n \t\n", nil}, {strings.Repeat("\n", 6000), nil}, {strings.Repeat(" ", 6000), nil},
		{"=r", []uint32{0x10000004}}, {"=r\n", []uint32{0x10000004}}, {"\n\n \t=r\t\n\n", []uint32{0x10000004}},
		{":r =r\n=r\t~#5\n:r ~r\n", []uint32{0x10000003, 0x10000004, 0x10000004, 0xa8, 0x10000003, 0x10000001}},
		{":r\n:r\n\n\n:r", []uint32{0x10000003, 0x10000003, 0x10000003}},
		{"=r\t=r  =r \t \n\t =r", []uint32{0x10000004, 0x10000004, 0x10000004, 0x10000004}},
		{"=12 =#12 =$12", append(wordCells("12", 4), 0x186, 0x256)},
		{"~#67108863 ~#67108864 =$fbffffff", []uint32{0x7fffffe8, 2, 0x4000000, 0x15, 0xfbffffff}},
		{"&r#-1 %7 &r#0", []uint32{0x1000000c, 0xffffffff, 7, 0x1000000c, 0}},
		{"%0 %0 =r %0 %7", []uint32{0, 0, 0x10000004, 0, 7}},
		{"^rtoeanir _rtoeani \"r", []uint32{0x1234567a, 0x10000000, 0x1234567b, 0x10000009}},
		{"%2", []uint32{2}}, {"%1000000c", []uint32{0x1000000c}}, {"%2 %3ffffff", []uint32{2, 0x3ffffff}}, {"%10000004 %10000000", []uint32{0x10000004, 0x10000000}},
		{"=rtoeani %0 %10000000", []uint32{0x12345674, 0, 0x10000000}}, {"&r#5 %10000000", []uint32{0x1000000c, 5, 0x10000000}},
		{"=r" + strings.Repeat(" ", 5998), []uint32{0x10000004}}, {strings.Repeat("\t\n", 2999) + "=r", []uint32{0x10000004}},
	}
	for _, row := range rows {
		checkTaken(t, row.s, row.cells)
		if cells, spot := importByRows(row.s); !slices.Equal(cells, row.cells) || spot != (impl.Spot{}) {
			t.Errorf("by the rows %q is %x, %+v", row.s, cells, spot)
		}
	}
}

func TestTextsOfTooManyBytes(t *testing.T) {
	for _, s := range []string{
		strings.Repeat(" ", 6001), strings.Repeat("\n", 6001), "=r" + strings.Repeat(" ", 5999), strings.Repeat("=r ", 2001), strings.Repeat("x", 6001),
		strings.Repeat("\x00", 6001), strings.Repeat("x", 1<<20), "dup" + strings.Repeat("\n", 5998), "%0" + strings.Repeat(" ", 5999), strings.Repeat("\u20ac", 2001),
	} {
		checkRefused(t, s, impl.ImLong, 0, 0)
	}
	// A byte less is long no more, and another refusal is told.
	checkRefused(t, strings.Repeat("x", 6000), impl.ImWord, 1, 1)
	checkRefused(t, "dup"+strings.Repeat("\n", 5997), impl.ImWord, 1, 1)
	checkRefused(t, strings.Repeat("\n", 5997)+"dup", impl.ImWord, 5998, 1)
	checkRefused(t, strings.Repeat(" ", 5997)+"dup", impl.ImWord, 1, 5998)
	checkRefused(t, strings.Repeat("=r ", 2000), impl.ImFull, 1, 193)
	checkRefused(t, "%0"+strings.Repeat(" ", 5998), impl.ImList, 1, 1)
	checkRefused(t, strings.Repeat("\u20ac", 2000), impl.ImWord, 1, 1)
}

func TestWordsThatAreRefused(t *testing.T) {
	rows := []struct {
		s         string
		line, col int
	}{
		{"dup", 1, 1}, {" dup", 1, 2}, {"\tdup", 1, 2}, {"\ndup", 2, 1}, {"\n\n\t dup =r", 3, 3}, {"=r dup", 1, 4}, {"=r  \t dup", 1, 7},
		{"=r\ndup", 2, 1}, {"=r\n  dup", 2, 3}, {"=r =r\n=r\n\n =rtoeani 1 x", 4, 11}, {"=r\n\x00", 2, 1}, {"=r \xff\xfe =r", 1, 4}, {"=r\r\n=r", 1, 1}, {"=r \r\n=r", 1, 4},
		{"=r\v=r", 1, 1}, {"=\u20ac", 1, 1}, {"=r\u00a0=r", 1, 1}, {"=r =\u20ac", 1, 4}, {"~#1 ~# 1", 1, 5}, {"~", 1, 1}, {"=r :", 1, 4}, {"&x", 1, 1}, {"=r &x# 1", 1, 4},
		// The first one that is refused is told, and ahead of the list that is none.
		{"a b c", 1, 1}, {"=r b\nc", 1, 4}, {"%0 dup", 1, 4}, {"%a8\n dup\n%0", 2, 2}, {"dup %0", 1, 1},
	}
	for _, row := range rows {
		checkRefused(t, row.s, impl.ImWord, row.line, row.col)
	}
}

func TestBlocksThatAreFull(t *testing.T) {
	full := strings.Repeat("=r ", 64)
	checkTaken(t, full, slices.Repeat([]uint32{0x10000004}, 64))
	checkRefused(t, full+"=r", impl.ImFull, 1, 193)
	checkRefused(t, full+"\n =r =r", impl.ImFull, 2, 2)
	checkRefused(t, full+"%0", impl.ImFull, 1, 193)
	checkTaken(t, full+" \n\t", slices.Repeat([]uint32{0x10000004}, 64))
	// Items of two cells, and of one behind them.
	pairs := strings.Repeat("&r#1\n", 32)
	checkTaken(t, pairs, slices.Repeat([]uint32{0x1000000c, 1}, 32))
	checkRefused(t, pairs+"=r", impl.ImFull, 33, 1)
	checkRefused(t, full[:63*3]+"&r#1", impl.ImFull, 1, 190)
	checkRefused(t, full[:63*3]+"~#67108864", impl.ImFull, 1, 190)
	checkRefused(t, full[:63*3]+"=$fbffffff =r", impl.ImFull, 1, 190)
	checkRefused(t, full[:63*3]+":rtoeanir", impl.ImFull, 1, 190)
	checkTaken(t, full[:62*3]+":rtoeanir", append(slices.Repeat([]uint32{0x10000004}, 62), 0x12345673, 0x10000000))
	checkRefused(t, full[:61*3]+":????????????????????????", impl.ImFull, 1, 184)
	// A word that is refused counts where it stands ahead of the first one too many, or is that one.
	checkRefused(t, full+"dup", impl.ImWord, 1, 193)
	checkRefused(t, full+"dup =r", impl.ImWord, 1, 193)
	checkRefused(t, full+"=r dup", impl.ImFull, 1, 193)
	checkRefused(t, full[:60]+"dup "+full, impl.ImWord, 1, 61)
	// Cells that are too many count ahead of a list that is none.
	checkRefused(t, strings.Repeat("%0 ", 65), impl.ImFull, 1, 193)
	checkRefused(t, strings.Repeat("%0 ", 64), impl.ImList, 1, 190)
	checkRefused(t, "%a8 "+full, impl.ImFull, 1, 194)
	checkRefused(t, "%a8 "+full[:189], impl.ImList, 1, 191)
	checkTaken(t, strings.Repeat("%0 ", 63)+"%7", append(make([]uint32, 63), 7))
}

func TestListsThatAreRefused(t *testing.T) {
	rows := []struct {
		s         string
		line, col int
	}{
		// Noughts at the end.
		{"%0", 1, 1}, {"=r %0", 1, 4}, {"%0 %0", 1, 4}, {"%7\n\n %0 \n", 3, 2},
		// Cells that another item has alone.
		{"%a8", 1, 1}, {"%6", 1, 1}, {"%10000004", 1, 1}, {"=r %10000003", 1, 4}, {"%a8\n=r", 2, 1}, {"%a8 =r\n\t~r  \n", 2, 2},
		// Cells that one has with the one behind it, or that one ahead takes.
		{"%1000000c %7", 1, 11}, {"%1000000c =r", 1, 11}, {"%1000000c %0", 1, 11}, {"%2 =r", 1, 4}, {"%2 %4000000", 1, 4}, {"%12345674\n%10000000", 2, 1}, {"%2 ~r =r :r", 1, 10},
		{"=rtoeani %10000000", 1, 10}, {"=r %10000000", 1, 4}, {"=r %10", 1, 4}, {":r\n%10000000\n=r", 3, 1},
	}
	for _, row := range rows {
		checkRefused(t, row.s, impl.ImList, row.line, row.col)
	}
}

// mixedText tells a text of words, some of them no item's, with all that parts words between them.
func mixedText(m *mixer, odd []uint32) string {
	gaps := []string{" ", "\n", "\t", "  ", " \n", "\n\n", "\t ", "\n\t"}
	bads := []string{"dup", "=", "~#-0", "%0f", "&x", "=\xff", "\r"}
	var text strings.Builder
	text.WriteString(gaps[m.below(len(gaps))][m.below(2):])
	for range m.below(1 + m.below(50)) {
		switch m.below(60) {
		case 0:
			text.WriteString(bads[m.below(len(bads))])
		case 1:
			text.WriteString("%0")
		default:
			it := mixedItem(m, odd)
			if it.Kind == impl.IRaw && m.below(8) > 0 {
				it.Raw = 7
			}
			text.WriteString(textByRows(it))
		}
		text.WriteString(gaps[m.below(len(gaps))])
	}
	return text.String()
}

func TestAnyTextAsBlock(t *testing.T) {
	odd := oddCells()
	var counts [5]int
	for seed := range 6000 {
		m := mixer(seed)
		s := mixedText(&m, odd)
		want, spot := importByRows(s)
		counts[spot.Code]++
		checkImport(t, s, want, spot)
		if spot == (impl.Spot{}) {
			checkTaken(t, s, want)
		}
	}
	for code, count := range counts {
		if code != impl.ImLong && count < 100 {
			t.Errorf("only %d texts were told with the code %d", count, code)
		}
	}
}

func TestShortTextsAsBlocks(t *testing.T) {
	eachText("=r \n\t%0\xff", 5, func(s string) { checkImportByRows(t, s) })
}
