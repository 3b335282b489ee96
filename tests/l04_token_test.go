package tests

import (
	"math"
	"slices"
	"strings"
	"testing"

	"loop.example/g00711/impl"
)

// wordTags are the tags of the first cells of items with a name, by their kinds.
var wordTags = map[int]uint32{impl.IExec: 1, impl.IDef: 3, impl.IComp: 4, impl.INote: 9, impl.ICap: 10, impl.ICaps: 11}

// numberTags are the tags of numbers of one cell and of two, by their kinds.
var numberTags = map[int][2]uint32{impl.IYel: {8, 2}, impl.IGreen: {6, 5}}

// Numbers of one cell are those of 27 bits.
const (
	leastOfOne = -67108864
	mostOfOne  = 67108863
)

// wordCells tells the cells of a name, by the rows of the tests of chapter 3.
func wordCells(name string, tag uint32) []uint32 {
	var cells []uint32
	for _, field := range packByRows(name) {
		cells = append(cells, field*16+tag)
		tag = 0
	}
	return cells
}

// numberCells tells the cells of a number, written as texts of bits.
func numberCells(kind int, n int32, hex bool) []uint32 {
	flag := "0"
	if hex {
		flag = "1"
	}
	tags := numberTags[kind]
	if n >= leastOfOne && n <= mostOfOne {
		return []uint32{bitsOf(bitText(uint32(n), 27) + flag + bitText(tags[0], 4))}
	}
	return []uint32{bitsOf(flag + bitText(tags[1], 4)), uint32(n)}
}

// parseByRows tells what ParseCells should tell of cells.
func parseByRows(cells []uint32) []impl.Item {
	var list []impl.Item
	for at := 0; at < len(cells); {
		it, count := itemByRows(cells[at:])
		list = append(list, it)
		at += count
	}
	for len(list) > 0 && list[len(list)-1] == (impl.Item{}) {
		list = list[:len(list)-1]
	}
	return list
}

func itemByRows(cells []uint32) (impl.Item, int) {
	first := cells[0]
	for kind, tag := range wordTags {
		if first%16 != tag {
			continue
		}
		count, name := 1, unpackByRows(first/16)
		for count < len(cells) && cells[count]%16 == 0 && cells[count] != 0 {
			name += unpackByRows(cells[count] / 16)
			count++
		}
		if impl.NameOk(name) && slices.Equal(wordCells(name, tag), cells[:count]) {
			return impl.Item{Kind: kind, Name: name}, count
		}
	}
	for kind, tags := range numberTags {
		hex := first/16%2 == 1
		if first%16 == tags[0] {
			n := int64(first / 32)
			if first>>31 == 1 {
				n -= 1 << 27
			}
			return impl.Item{Kind: kind, N: int32(n), Hex: hex}, 1
		}
		if first%16 == tags[1] && first < 32 && len(cells) > 1 {
			if n := int32(cells[1]); n < leastOfOne || n > mostOfOne {
				return impl.Item{Kind: kind, N: n, Hex: hex}, 2
			}
		}
	}
	if first%16 == 12 && len(cells) > 1 {
		name := unpackByRows(first / 16)
		if impl.NameOk(name) && slices.Equal(packByRows(name), []uint32{first / 16}) {
			return impl.Item{Kind: impl.IVar, Name: name, N: int32(cells[1])}, 2
		}
	}
	return impl.Item{Raw: first}, 1
}

// checkItem holds all that is told of an item alone against its cells; of what is none there are no cells.
func checkItem(t *testing.T, it impl.Item, want []uint32) {
	t.Helper()
	if got := impl.CellsOf(it); !slices.Equal(got, want) {
		t.Fatalf("CellsOf(%+v) = %x, want %x", it, got, want)
	}
	isOne := len(want) > 0
	if got := impl.ItemOk(it); got != isOne {
		t.Fatalf("ItemOk(%+v) = %v", it, got)
	}
	list := []impl.Item{it}
	if got, ok := impl.Unparse(list); ok != isOne || !slices.Equal(got, want) {
		t.Fatalf("Unparse(%+v) = %x, %v, want %x", list, got, ok, want)
	}
	if !isOne {
		if impl.ListOk(list) {
			t.Fatalf("ListOk(%+v)", list)
		}
		return
	}
	if it.Kind == impl.IRaw {
		return
	}
	if got := impl.ParseCells(want); !slices.Equal(got, list) {
		t.Fatalf("ParseCells(%x) = %+v, want %+v", want, got, list)
	}
	if !impl.ListOk(list) {
		t.Fatalf("ListOk(%+v) = false", list)
	}
}

// checkCells holds all that is told of cells, and of their items, against the rows.
func checkCells(t *testing.T, cells []uint32) {
	t.Helper()
	want := parseByRows(cells)
	list := impl.ParseCells(cells)
	if !slices.Equal(list, want) {
		t.Fatalf("ParseCells(%x) = %+v, want %+v", cells, list, want)
	}
	if !impl.ListOk(list) {
		t.Fatalf("ListOk(%+v) = false, the items of %x", list, cells)
	}
	back, ok := impl.Unparse(list)
	if !ok || len(back) > len(cells) {
		t.Fatalf("Unparse(%+v) = %x, %v, want %x", list, back, ok, cells)
	}
	if !slices.Equal(append(back, make([]uint32, len(cells)-len(back))...), cells) {
		t.Fatalf("%x came back as %x", cells, back)
	}
}

func TestKindsAndLimit(t *testing.T) {
	kinds := []int{impl.IRaw, impl.IExec, impl.IDef, impl.IComp, impl.INote, impl.ICap, impl.ICaps, impl.IYel, impl.IGreen, impl.IVar}
	for want, kind := range kinds {
		if kind != want {
			t.Errorf("kind %d is %d", want, kind)
		}
	}
	if impl.BlockCells != 64 {
		t.Error("BlockCells", impl.BlockCells)
	}
}

func TestItemsByHand(t *testing.T) {
	rows := []struct {
		it    impl.Item
		cells []uint32
	}{
		{impl.Item{Kind: impl.IExec, Name: "r"}, []uint32{0x10000001}},
		{impl.Item{Kind: impl.IDef, Name: "go"}, []uint32{0xa9800003}},
		{impl.Item{Kind: impl.IComp, Name: "dup"}, []uint32{0xc19b1004}},
		{impl.Item{Kind: impl.INote, Name: "rtoeani"}, []uint32{0x12345679}},
		{impl.Item{Kind: impl.ICap, Name: "rtoeanir"}, []uint32{0x1234567a, 0x10000000}},
		{impl.Item{Kind: impl.ICaps, Name: "rtoeanirtoeanit"}, []uint32{0x1234567b, 0x12345670, 0x20000000}},
		{impl.Item{Kind: impl.IYel}, []uint32{8}},
		{impl.Item{Kind: impl.IYel, Hex: true}, []uint32{0x18}},
		{impl.Item{Kind: impl.IYel, N: 1}, []uint32{0x28}},
		{impl.Item{Kind: impl.IYel, N: -1, Hex: true}, []uint32{0xfffffff8}},
		{impl.Item{Kind: impl.IYel, N: 67108863}, []uint32{0x7fffffe8}},
		{impl.Item{Kind: impl.IYel, N: 67108864}, []uint32{2, 0x4000000}},
		{impl.Item{Kind: impl.IYel, N: -67108864, Hex: true}, []uint32{0x80000018}},
		{impl.Item{Kind: impl.IYel, N: -67108865, Hex: true}, []uint32{0x12, 0xfbffffff}},
		{impl.Item{Kind: impl.IGreen}, []uint32{6}},
		{impl.Item{Kind: impl.IGreen, N: 5, Hex: true}, []uint32{0xb6}},
		{impl.Item{Kind: impl.IGreen, N: 67108863, Hex: true}, []uint32{0x7ffffff6}},
		{impl.Item{Kind: impl.IGreen, N: 67108864, Hex: true}, []uint32{0x15, 0x4000000}},
		{impl.Item{Kind: impl.IGreen, N: -67108864}, []uint32{0x80000006}},
		{impl.Item{Kind: impl.IGreen, N: -67108865}, []uint32{5, 0xfbffffff}},
		{impl.Item{Kind: impl.IGreen, N: math.MaxInt32}, []uint32{5, 0x7fffffff}},
		{impl.Item{Kind: impl.IGreen, N: math.MinInt32, Hex: true}, []uint32{0x15, 0x80000000}},
		{impl.Item{Kind: impl.IVar, Name: "r"}, []uint32{0x1000000c, 0}},
		{impl.Item{Kind: impl.IVar, Name: "rtoeani", N: 7}, []uint32{0x1234567c, 7}},
		{impl.Item{Kind: impl.IVar, Name: "dup", N: math.MinInt32}, []uint32{0xc19b100c, 0x80000000}},
		{impl.Item{}, []uint32{0}},
		{impl.Item{Raw: 7}, []uint32{7}},
		{impl.Item{Raw: 0x10000003}, []uint32{0x10000003}},
		{impl.Item{Raw: math.MaxUint32}, []uint32{math.MaxUint32}},
	}
	for _, row := range rows {
		checkItem(t, row.it, row.cells)
	}
}

func TestItemsOfNames(t *testing.T) {
	var names []string
	eachText(nameLetters(), 2, func(name string) { names = append(names, name) })
	for n := 3; n <= impl.MaxName; n++ {
		for seed := range uint64(20) {
			names = append(names, mixedName(n, seed))
		}
	}
	for _, name := range names {
		for kind, tag := range wordTags {
			checkItem(t, impl.Item{Kind: kind, Name: name}, wordCells(name, tag))
		}
		var cells []uint32
		if fields := packByRows(name); len(fields) == 1 {
			cells = []uint32{fields[0]*16 + 12, math.MaxUint32}
		}
		checkItem(t, impl.Item{Kind: impl.IVar, Name: name, N: -1}, cells)
	}
}

// numbers32 are numbers of 32 bits, and all near the ends of those of one cell.
func numbers32() []int32 {
	list := []int32{math.MinInt32, math.MinInt32 + 1, math.MaxInt32 - 1, math.MaxInt32}
	for near := int32(-40); near <= 40; near++ {
		list = append(list, near, leastOfOne+near, mostOfOne+near)
	}
	for _, n := range spread() {
		list = append(list, int32(n))
	}
	return list
}

func TestItemsOfNumbers(t *testing.T) {
	for _, n := range numbers32() {
		for kind := range numberTags {
			checkItem(t, impl.Item{Kind: kind, N: n}, numberCells(kind, n, false))
			checkItem(t, impl.Item{Kind: kind, N: n, Hex: true}, numberCells(kind, n, true))
		}
		checkItem(t, impl.Item{Kind: impl.IVar, Name: "rts", N: n}, []uint32{fieldOf("0001"+"0010"+"10000")*16 + 12, uint32(n)})
	}
}

func TestItemsThatAreNone(t *testing.T) {
	var list []impl.Item
	for _, kind := range []int{-1, 10, 11, 12, 16, math.MaxInt, math.MinInt, 1 << 32, 1<<32 + impl.IYel} {
		list = append(list, impl.Item{Kind: kind}, impl.Item{Kind: kind, Name: "r"}, impl.Item{Kind: kind, N: 1}, impl.Item{Kind: kind, Raw: 1}, impl.Item{Kind: kind, Name: "r", N: 1})
	}
	for kind := range wordTags {
		list = append(list,
			impl.Item{Kind: kind, Name: "r", N: 1}, impl.Item{Kind: kind, Name: "r", Hex: true}, impl.Item{Kind: kind, Name: "r", Raw: 1},
			impl.Item{Kind: kind, N: 1}, impl.Item{Kind: kind, Raw: 0x10000001}, impl.Item{Kind: kind, Name: "rtoeanir", N: -1})
	}
	for kind := range numberTags {
		list = append(list,
			impl.Item{Kind: kind, Name: "r"}, impl.Item{Kind: kind, Name: "r", N: 5, Hex: true}, impl.Item{Kind: kind, Raw: 1},
			impl.Item{Kind: kind, N: math.MaxInt32, Raw: 1}, impl.Item{Kind: kind, N: 5, Name: " "})
	}
	list = append(list,
		impl.Item{Kind: impl.IVar, Name: "r", Hex: true}, impl.Item{Kind: impl.IVar, Name: "r", N: 5, Raw: 1}, impl.Item{Kind: impl.IVar, N: 5},
		impl.Item{Kind: impl.IVar, Name: "rtoeanir"}, impl.Item{Kind: impl.IVar, Name: "ddddd", N: 1}, impl.Item{Kind: impl.IVar, Name: strings.Repeat("r", impl.MaxName)},
		impl.Item{Name: "r"}, impl.Item{N: 1}, impl.Item{Hex: true}, impl.Item{Raw: 7, Name: "r"}, impl.Item{Raw: 7, N: -1}, impl.Item{Raw: 7, Hex: true})
	for _, name := range []string{"", " ", "A", "a b", "r ", "r\n", "\x00", "\xff", "dup=", strings.Repeat("r", impl.MaxName+1), strings.Repeat("r", 6000)} {
		for kind := range wordTags {
			list = append(list, impl.Item{Kind: kind, Name: name})
		}
		list = append(list, impl.Item{Kind: impl.IVar, Name: name, N: 3})
	}
	for _, it := range list {
		checkItem(t, it, nil)
	}
}

func TestParseByHand(t *testing.T) {
	raws := func(cells ...uint32) []impl.Item {
		var list []impl.Item
		for _, cell := range cells {
			list = append(list, impl.Item{Raw: cell})
		}
		return list
	}
	r := impl.Item{Kind: impl.IDef, Name: "r"}
	rows := []struct {
		cells []uint32
		want  []impl.Item
	}{
		{nil, nil},
		{[]uint32{0}, nil},
		{make([]uint32, impl.BlockCells), nil},
		{[]uint32{0, 7, 0, 0}, raws(0, 7)},
		{[]uint32{0x10000003, 0, 0}, []impl.Item{r}},
		{[]uint32{0, 0, 0x10000003, 0, 0x10000003}, append(raws(0, 0), r, impl.Item{}, r)},
		// What a tag of a colour begins that is no name.
		{[]uint32{3}, raws(3)},
		{[]uint32{0x13}, raws(0x13)},
		{[]uint32{3, 0x10000000}, raws(3, 0x10000000)},
		{[]uint32{0x10010003}, raws(0x10010003)},
		// What stands behind a name and is not of it: another tag, a nought, or a field that no name has there.
		{[]uint32{0x12345673, 0x10000003}, []impl.Item{{Kind: impl.IDef, Name: "rtoeani"}, r}},
		{[]uint32{0x12345673, 0x10000007}, append([]impl.Item{{Kind: impl.IDef, Name: "rtoeani"}}, raws(0x10000007)...)},
		{[]uint32{0x12345673, 0, 0x10000000}, append([]impl.Item{{Kind: impl.IDef, Name: "rtoeani"}}, raws(0, 0x10000000)...)},
		{[]uint32{0x12345673, 0x10000000, 0x10000000}, raws(0x12345673, 0x10000000, 0x10000000)},
		{[]uint32{0x10000003, 0x10000000}, raws(0x10000003, 0x10000000)},
		{[]uint32{0x12345673, 0x10}, raws(0x12345673, 0x10)},
		{[]uint32{0x10000003, 0x10000000, 0x10000003}, append(raws(0x10000003, 0x10000000), r)},
		// Names of 24 letters and of one more.
		{[]uint32{0x12345673, 0x12345670, 0x12345670, 0x12300000}, []impl.Item{{Kind: impl.IDef, Name: "rtoeanirtoeanirtoeanirto"}}},
		{[]uint32{0x12345673, 0x12345670, 0x12345670, 0x12340000}, raws(0x12345673, 0x12345670, 0x12345670, 0x12340000)},
		// A number of two cells that would fit in one, has bits too many, or has no second cell.
		{[]uint32{2, 0x4000000}, []impl.Item{{Kind: impl.IYel, N: 0x4000000}}},
		{[]uint32{2, 0x3ffffff}, raws(2, 0x3ffffff)},
		{[]uint32{0x12, 0xfbffffff}, []impl.Item{{Kind: impl.IYel, N: -67108865, Hex: true}}},
		{[]uint32{0x12, 0xfc000000}, raws(0x12, 0xfc000000)},
		{[]uint32{5, 0x18}, append(raws(5), impl.Item{Kind: impl.IYel, Hex: true})},
		{[]uint32{0x22, 0x4000000}, raws(0x22, 0x4000000)},
		{[]uint32{0x80000005, 0x80000000}, raws(0x80000005, 0x80000000)},
		{[]uint32{2}, raws(2)}, {[]uint32{0x15}, raws(0x15)}, {[]uint32{2, 0}, raws(2)},
		{[]uint32{2, 2, 0x80000003}, append(raws(2), impl.Item{Kind: impl.IYel, N: -0x7ffffffd})},
		{[]uint32{2, 0x80000002, 5}, append([]impl.Item{{Kind: impl.IYel, N: -0x7ffffffe}}, raws(5)...)},
		// A variable without a second cell, of no field, of one with bits behind the name; its number may be a nought.
		{[]uint32{0x1000000c}, raws(0x1000000c)},
		{[]uint32{0x1000000c, 0}, []impl.Item{{Kind: impl.IVar, Name: "r"}}},
		{[]uint32{0x1000000c, 0, 0}, []impl.Item{{Kind: impl.IVar, Name: "r"}}},
		{[]uint32{0x1000000c, 0x10000003, 0x10000003}, []impl.Item{{Kind: impl.IVar, Name: "r", N: 0x10000003}, r}},
		{[]uint32{0x1234567c, 0x10000000, 0x10000000}, append([]impl.Item{{Kind: impl.IVar, Name: "rtoeani", N: 0x10000000}}, raws(0x10000000)...)},
		{[]uint32{12, 1}, raws(12, 1)},
		{[]uint32{0x1001000c, 7}, raws(0x1001000c, 7)},
		{[]uint32{0x1000001c, 0x10000003}, append(raws(0x1000001c), r)},
		// Tags that begin nothing.
		{[]uint32{0x10000000, 0x10000007, 0x1000000d, 0x1000000e, 0x1000000f}, raws(0x10000000, 0x10000007, 0x1000000d, 0x1000000e, 0x1000000f)},
	}
	for _, row := range rows {
		if got := impl.ParseCells(row.cells); !slices.Equal(got, row.want) {
			t.Errorf("ParseCells(%x) = %+v, want %+v", row.cells, got, row.want)
		}
		checkCells(t, row.cells)
	}
}

// oddCells are cells that begin, go on with or break items of every kind.
func oddCells() []uint32 {
	list := []uint32{0, 0x10, 0x10000000, 0x12345670, 0x20000000, 0x3ffffff, 0x4000000, 0x7fffffff, 0x80000000, 0xfbffffff, 0xfc000000, math.MaxUint32}
	for tag := range uint32(16) {
		list = append(list, tag, 0x10|tag, 0x20|tag, 0x10000000|tag, 0x12345670|tag, 0x10010000|tag)
	}
	return list
}

func TestAnyThreeCells(t *testing.T) {
	odd := oddCells()
	for _, first := range odd {
		checkCells(t, []uint32{first})
		for _, second := range odd {
			checkCells(t, []uint32{first, second})
			for _, third := range odd[:24] {
				checkCells(t, []uint32{first, second, third})
			}
		}
	}
}

// mixer tells numbers that look like chance; from the same seed on always the same ones.
type mixer uint64

func (m *mixer) below(n int) int {
	*m = *m*6364136223846793005 + 1442695040888963407
	return int(uint64(*m) >> 33 % uint64(n))
}

// mixedItem tells an item of any kind; some of them are an IRaw whose cell another item may begin with.
func mixedItem(m *mixer, odd []uint32) impl.Item {
	name := mixedName(1+m.below(impl.MaxName), uint64(m.below(1<<30)))
	n := int32(m.below(1<<16))<<16 | int32(m.below(1<<16))
	n >>= m.below(32)
	switch kind := m.below(impl.IVar + 1); kind {
	case impl.IRaw:
		return impl.Item{Raw: odd[m.below(len(odd))]}
	case impl.IYel, impl.IGreen:
		return impl.Item{Kind: kind, N: n, Hex: m.below(2) == 1}
	case impl.IVar:
		return impl.Item{Kind: kind, Name: name[:min(len(name), 4)], N: n}
	default:
		return impl.Item{Kind: kind, Name: name}
	}
}

func TestAnyBlock(t *testing.T) {
	odd := oddCells()
	for seed := range 20000 {
		m := mixer(seed)
		cells := make([]uint32, m.below(impl.BlockCells+1))
		for at := range cells {
			switch m.below(4) {
			case 0:
				cells[at] = uint32(m.below(1<<16))<<16 | uint32(m.below(1<<16))
			case 1:
				copy(cells[at:], impl.CellsOf(mixedItem(&m, odd)))
			default:
				cells[at] = odd[m.below(len(odd))]
			}
		}
		checkCells(t, cells)
	}
}

func TestAnyList(t *testing.T) {
	odd := oddCells()
	kept := 0
	for seed := range 8000 {
		m := mixer(seed)
		var list []impl.Item
		var want []uint32
		for range m.below(40) {
			it := mixedItem(&m, odd)
			list = append(list, it)
			want = append(want, impl.CellsOf(it)...)
		}
		fits := len(want) <= impl.BlockCells
		if !fits {
			want = nil
		}
		cells, ok := impl.Unparse(list)
		if ok != fits || !slices.Equal(cells, want) {
			t.Fatalf("Unparse(%+v) = %x, %v, want %x, %v", list, cells, ok, want, fits)
		}
		same := fits && slices.Equal(parseByRows(want), list)
		if impl.ListOk(list) != same {
			t.Fatalf("ListOk(%+v) = %v", list, !same)
		}
		if same && len(list) > 1 {
			kept++
		}
	}
	if kept < 100 {
		t.Errorf("only %d lists came back", kept)
	}
}

func TestListOkByHand(t *testing.T) {
	comp := func(name string) impl.Item { return impl.Item{Kind: impl.IComp, Name: name} }
	for _, list := range [][]impl.Item{
		nil, {}, {comp("dup")}, {comp("dup"), comp("dup")}, {{}, comp("dup")}, {{}, {}, {Raw: 7}},
		{comp("rtoeani"), {}, comp("r")}, {comp("rtoeani"), {}, {Raw: 0x10000000}}, {{Raw: 2}, {Kind: impl.IYel, N: 5}},
		{{Raw: 0x10000004}, {Raw: 0x10000000}}, {{Kind: impl.IVar, Name: "r"}}, {comp("r"), {Kind: impl.IVar, Name: "r"}, {Raw: 7}},
		{{Kind: impl.IVar, Name: "r"}, {Raw: 0x10000000}}, {{Raw: 0x1000000c}}, {{Raw: 2}}, {{Raw: 5}, {Raw: 7}},
	} {
		if !impl.ListOk(list) {
			t.Errorf("ListOk(%+v) = false", list)
		}
	}
	for _, list := range [][]impl.Item{
		{{}}, {comp("dup"), {}}, {{}, {}}, {{Raw: 7}, {}}, // noughts at the end
		{{Raw: 0xa8}}, {{Raw: 6}}, {{Raw: 0x10000004}}, {{Raw: 0x12345674}, {Raw: 0x10000000}}, {{Raw: 2}, {Raw: 0x4000000}}, {{Raw: 0x1000000c}, {Raw: 7}},
		{{Raw: 0x1000000c}, {}}, {{Raw: 0x1000000c}, comp("dup")}, {{Raw: 2}, comp("dup")}, // what stands behind is taken by what stands ahead
		{comp("rtoeani"), {Raw: 0x10000000}}, {comp("r"), {Raw: 0x10000000}}, {comp("r"), {Raw: 0x10}},
		{comp("dup"), {}, {Kind: impl.IVar, Name: "rtoeanir"}, comp("dup")}, {comp("dup"), comp("")}, {{Kind: 10}}, {comp("dup"), {Kind: impl.IComp, Name: "dup", N: 1}},
	} {
		if impl.ListOk(list) {
			t.Errorf("ListOk(%+v)", list)
		}
	}
}

func TestUnparseRefuses(t *testing.T) {
	good := impl.Item{Kind: impl.IDef, Name: "r"}
	for _, bad := range []impl.Item{{Kind: -1}, {Kind: 10}, {Kind: impl.IDef}, {Kind: impl.IDef, Name: "r", N: 1}, {Kind: impl.IVar, Name: "rtoeanir"}, {N: 1}} {
		for _, list := range [][]impl.Item{{bad}, {bad, good}, {good, bad}, {good, bad, good}, append(slices.Repeat([]impl.Item{good}, impl.BlockCells), bad)} {
			if cells, ok := impl.Unparse(list); ok || len(cells) != 0 || impl.ListOk(list) {
				t.Errorf("Unparse(%+v) = %x, %v", list, cells, ok)
			}
		}
	}
	if cells, ok := impl.Unparse(nil); !ok || len(cells) != 0 {
		t.Errorf("Unparse(nil) = %x, %v", cells, ok)
	}
}

func TestAsManyCellsAsABlockHas(t *testing.T) {
	one, two := impl.Item{Kind: impl.IDef, Name: "r"}, impl.Item{Kind: impl.IVar, Name: "r", N: 1}
	for _, row := range []struct {
		list []impl.Item
		ok   bool
	}{
		{slices.Repeat([]impl.Item{one}, impl.BlockCells), true},
		{slices.Repeat([]impl.Item{one}, impl.BlockCells+1), false},
		{slices.Repeat([]impl.Item{two}, impl.BlockCells/2), true},
		{append(slices.Repeat([]impl.Item{two}, impl.BlockCells/2), one), false},
		{append(slices.Repeat([]impl.Item{one}, impl.BlockCells-1), two), false},
		{append(slices.Repeat([]impl.Item{one}, impl.BlockCells-2), two), true},
		{append(make([]impl.Item, impl.BlockCells-1), one), true},
		{append(make([]impl.Item, impl.BlockCells), one), false},
		{slices.Repeat([]impl.Item{one}, 100000), false},
	} {
		cells, ok := impl.Unparse(row.list)
		if ok != row.ok || impl.ListOk(row.list) != row.ok || ok && len(cells) != impl.BlockCells || !ok && len(cells) != 0 {
			t.Errorf("Unparse of %d items: %d cells, %v", len(row.list), len(cells), ok)
		}
	}
	for _, cell := range []uint32{0, 7, 8, 0x10000003, 0x1000000c} {
		full := slices.Repeat([]uint32{cell}, impl.BlockCells)
		checkCells(t, full)
		for _, more := range []uint32{0, 7, 0x10000003} {
			if list := impl.ParseCells(append(slices.Clone(full), more)); len(list) != 0 {
				t.Errorf("%d items of a cell more than a block has", len(list))
			}
		}
	}
	if list := impl.ParseCells(make([]uint32, 100000)); len(list) != 0 {
		t.Errorf("%d items of 100000 cells", len(list))
	}
	if _, ok := impl.Unparse(make([]impl.Item, impl.BlockCells)); !ok {
		t.Error("noughts that fill a block are refused")
	}
}

// mixes tells whether an item of one kind may get another one.
func mixes(from, to int) bool {
	_, fromWord := wordTags[from]
	_, toWord := wordTags[to]
	_, fromNumber := numberTags[from]
	_, toNumber := numberTags[to]
	return from == to || fromWord && toWord || fromNumber && toNumber
}

func TestRecolor(t *testing.T) {
	var list []impl.Item
	for kind := range wordTags {
		list = append(list, impl.Item{Kind: kind, Name: "r"}, impl.Item{Kind: kind, Name: "rtoeanir"}, impl.Item{Kind: kind, Name: strings.Repeat("?", impl.MaxName)})
	}
	for kind := range numberTags {
		for _, n := range []int32{0, 5, -1, leastOfOne, leastOfOne - 1, mostOfOne, mostOfOne + 1, math.MinInt32, math.MaxInt32} {
			list = append(list, impl.Item{Kind: kind, N: n}, impl.Item{Kind: kind, N: n, Hex: true})
		}
	}
	list = append(list, impl.Item{}, impl.Item{Raw: 7}, impl.Item{Kind: impl.IVar, Name: "r"}, impl.Item{Kind: impl.IVar, Name: "dup", N: -4})
	for _, it := range list {
		for _, kind := range []int{-1, 0, 1, 2, 3, 4, 5, 6, 7, 8, 9, 10, 1 << 32, math.MaxInt, math.MinInt} {
			var want impl.Item
			if mixes(it.Kind, kind) {
				want = it
				want.Kind = kind
			}
			once, ok := impl.Recolor(it, kind)
			if once != want || ok != mixes(it.Kind, kind) || ok && !impl.ItemOk(once) {
				t.Fatalf("Recolor(%+v, %d) = %+v, %v", it, kind, once, ok)
			}
			checkTwice(t, it, kind)
		}
	}
}

// checkTwice holds an item with two colours, one behind the other, against the same one with the last of them.
func checkTwice(t *testing.T, it impl.Item, first int) {
	t.Helper()
	once, ok := impl.Recolor(it, first)
	if !ok {
		return
	}
	for kind := impl.IRaw; kind <= impl.IVar; kind++ {
		twice, okTwice := impl.Recolor(once, kind)
		direct, okDirect := impl.Recolor(it, kind)
		if twice != direct || okTwice != okDirect {
			t.Fatalf("%+v by %d and %d is %+v, %v, by the last alone %+v, %v", it, first, kind, twice, okTwice, direct, okDirect)
		}
	}
}

func TestRecolorOfNone(t *testing.T) {
	for _, it := range []impl.Item{
		{Kind: -1}, {Kind: 10}, {Kind: 10, Name: "r"}, {Kind: impl.IExec}, {Kind: impl.IExec, Name: "r", N: 1}, {Kind: impl.IDef, Name: "A"},
		{Kind: impl.IYel, N: 5, Name: "r"}, {Kind: impl.IGreen, Raw: 1}, {Kind: impl.IVar, Name: "rtoeanir"}, {Kind: impl.IVar, Name: "r", Hex: true}, {N: 1}, {Raw: 1, Name: "r"},
	} {
		for kind := -2; kind <= 12; kind++ {
			if got, ok := impl.Recolor(it, kind); ok || got != (impl.Item{}) {
				t.Errorf("Recolor(%+v, %d) = %+v, %v", it, kind, got, ok)
			}
		}
	}
}

func TestCellsAndItemsAreNew(t *testing.T) {
	cells := []uint32{0x1234567b, 0x10000000, 0xa8, 0x1000000c, 9, 0x10000003, 0x10000000, 0x30000000}
	keptCells := slices.Clone(cells)
	list := impl.ParseCells(cells[:6])
	list = append(list, impl.Item{Raw: 7}, impl.Item{Raw: 7})
	keptList := slices.Clone(list)
	if want := keptList[:4]; !slices.Equal(impl.ParseCells(cells[:6]), want) || !slices.Equal(want, []impl.Item{
		{Kind: impl.ICaps, Name: "rtoeanir"}, {Kind: impl.IYel, N: 5}, {Kind: impl.IVar, Name: "r", N: 9}, {Kind: impl.IDef, Name: "r"}}) {
		t.Errorf("cells with room behind them: %+v", want)
	}
	back, ok := impl.Unparse(list[:4])
	if !ok || !slices.Equal(back, keptCells[:6]) || !impl.ListOk(list[:4]) {
		t.Errorf("Unparse = %x, %v", back, ok)
	}
	impl.ParseCells(cells)
	impl.Unparse(list)
	impl.ListOk(list)
	if !slices.Equal(cells, keptCells) || !slices.Equal(list, keptList) {
		t.Error("an argument was written into")
	}
	own := impl.CellsOf(list[0])
	for _, answer := range [][]uint32{back[:cap(back)], own[:cap(own)]} {
		clear(answer)
	}
	told := impl.ParseCells(cells[:6])
	clear(told[:cap(told)])
	again, _ := impl.Unparse(list[:4])
	if !slices.Equal(cells, keptCells) || !slices.Equal(list, keptList) || !slices.Equal(again, keptCells[:6]) || !slices.Equal(impl.CellsOf(list[0]), keptCells[:2]) {
		t.Error("an answer is shared")
	}
}
