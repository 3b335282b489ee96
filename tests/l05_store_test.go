package tests

import (
	"encoding/binary"
	"math"
	"slices"
	"strings"
	"testing"

	"loop.example/g00711/impl"
)

// rightSizes are how many cells a right store may have.
var rightSizes = []int{0, 64, 128, 192, 256, 320, 384, 448, 512, 576, 640, 704, 768}

// wrongSizes are numbers of cells of stores that aren't right.
var wrongSizes = []int{1, 2, 63, 65, 127, 129, 703, 705, 767, 769, 831, 832, 896, 1536, 64 * 255, 64 * 256, 64 * 257, 1 << 20}

// oddNumbers are numbers of no block and of no store; what some of them have to count goes round in 64 bits, and would be a small number again.
var oddNumbers = []int{
	-1, -2, -12, -13, -63, -64, -65, 13, 14, 63, 64, 65, 255, 256, 768, 1 << 31, 1<<32 - 1, 1 << 32, 1<<32 + 1, -1 << 32,
	1 << 58, 1<<58 + 1, -1 << 58, 1 - 1<<58, 1 << 62, 1<<62 + 1, math.MaxInt - 1, math.MaxInt, math.MinInt, math.MinInt + 1,
}

// held is a list that is an argument, with room behind it, and what both were.
type held[E comparable] struct {
	all, kept []E
	size      int
}

func hold[E comparable](list []E, room E) held[E] {
	all := append(slices.Clone(list), slices.Repeat([]E{room}, 80)...)
	return held[E]{all, slices.Clone(all), len(list)}
}

func (h held[E]) list() []E { return h.all[:h.size] }

func (h held[E]) check(t *testing.T) {
	t.Helper()
	if !slices.Equal(h.all, h.kept) {
		t.Fatalf("an argument was written into: %v of %v", h.all, h.kept)
	}
}

func holdCells(cells []uint32) held[uint32] { return hold(cells, 0xabcdef01) }

// checkWiped writes over an answer and the room behind it, of which no argument may see anything.
func checkWiped[E, A comparable](t *testing.T, answer []E, with E, argument held[A]) {
	t.Helper()
	for at := range answer[:cap(answer)] {
		answer[:cap(answer)][at] = with
	}
	argument.check(t)
}

// checkChange holds the store that a call tells of one of those cells against what it should be.
// It calls twice, the second time with the first answer written over.
func checkChange(t *testing.T, cells []uint32, call func(s impl.Store) (impl.Store, bool), want []uint32) {
	t.Helper()
	argument := holdCells(cells)
	for range 2 {
		got, ok := call(impl.Store{Cells: argument.list()})
		if ok != (want != nil) || !slices.Equal(got.Cells, want) {
			t.Fatalf("%x became %x, %v, want %x", cells, got.Cells, ok, want)
		}
		argument.check(t)
		checkWiped(t, got.Cells, 0x77777777, argument)
	}
}

func isBlock(cells []uint32, b int) bool {
	return slices.Contains(rightSizes, len(cells)) && b >= 0 && b < len(cells)/64
}

// putByRows tells the cells of a store with a block of others, cell by cell; nil where that is refused.
func putByRows(cells []uint32, b int, block []uint32) []uint32 {
	if !isBlock(cells, b) || len(block) > 64 {
		return nil
	}
	var want []uint32
	for at, cell := range cells {
		behind := at - b*64
		switch {
		case behind >= 0 && behind < len(block):
			cell = block[behind]
		case behind >= len(block) && behind < 64:
			cell = 0
		}
		want = append(want, cell)
	}
	return want
}

func sumByRows(cells []uint32) uint32 {
	sum := uint64(2166136261)
	for _, cell := range cells {
		sum = (sum ^ uint64(cell)) * 16777619 % (1 << 32)
	}
	return uint32(sum)
}

// imageByRows tells the image of as many blocks as are told, whether or not the cells are those of so many.
func imageByRows(count int, cells []uint32) []byte {
	image := []byte{byte(count)}
	for _, cell := range cells {
		image = binary.LittleEndian.AppendUint32(image, cell)
	}
	return binary.LittleEndian.AppendUint32(image, sumByRows(cells))
}

func mixedCells(m *mixer, n int) []uint32 {
	cells := make([]uint32, n)
	for at := range cells {
		cells[at] = uint32(m.below(1<<16))<<16 | uint32(m.below(1<<16))
	}
	return cells
}

// someStores tells the cells of stores of each right size.
func someStores() [][]uint32 {
	m := mixer(5)
	var list [][]uint32
	for _, n := range rightSizes {
		list = append(list, mixedCells(&m, n), make([]uint32, n), slices.Repeat([]uint32{math.MaxUint32}, n))
	}
	return list
}

// wrongStores tells the cells of stores that aren't right.
func wrongStores() [][]uint32 {
	m := mixer(6)
	var list [][]uint32
	for _, n := range wrongSizes {
		list = append(list, mixedCells(&m, n))
	}
	return list
}

// blocksToTry are all blocks that a store may have, and numbers of none.
func blocksToTry() []int {
	list := slices.Clone(oddNumbers)
	for b := range 13 {
		list = append(list, b)
	}
	return list
}

func TestStoreOk(t *testing.T) {
	if impl.MaxBlocks != 12 {
		t.Error("MaxBlocks", impl.MaxBlocks)
	}
	for n := range 64 * 20 {
		for _, cells := range [][]uint32{make([]uint32, n), make([]uint32, n, 64*20), slices.Repeat([]uint32{math.MaxUint32}, n)} {
			if got := impl.StoreOk(impl.Store{Cells: cells}); got != slices.Contains(rightSizes, n) {
				t.Errorf("StoreOk of %d cells: %v", n, got)
			}
		}
	}
	for _, cells := range wrongStores() {
		argument := holdCells(cells)
		if impl.StoreOk(impl.Store{Cells: argument.list()}) {
			t.Errorf("StoreOk of %d cells", len(cells))
		}
		argument.check(t)
	}
	if !impl.StoreOk(impl.Store{}) {
		t.Error("a store of no blocks isn't right")
	}
}

func TestNewStore(t *testing.T) {
	for n, size := range rightSizes {
		for range 2 {
			s := impl.NewStore(n)
			if !slices.Equal(s.Cells, make([]uint32, size)) || !impl.StoreOk(s) {
				t.Errorf("NewStore(%d) = %x", n, s.Cells)
			}
			checkWiped(t, s.Cells, 7, held[uint32]{})
		}
	}
	for _, n := range oddNumbers {
		if s := impl.NewStore(n); len(s.Cells) != 0 {
			t.Errorf("NewStore(%d) has %d cells", n, len(s.Cells))
		}
	}
}

// checkBlock holds what is told of a block, its cells and its items, against what it should be; of none there is nothing.
func checkBlock(t *testing.T, cells []uint32, b int) {
	t.Helper()
	var want []uint32
	isOne := isBlock(cells, b)
	if isOne {
		want = slices.Clone(cells[b*64 : b*64+64])
	}
	items := parseByRows(want)
	argument := holdCells(cells)
	for range 2 {
		s := impl.Store{Cells: argument.list()}
		got, ok := impl.BlockOf(s, b)
		if ok != isOne || !slices.Equal(got, want) {
			t.Fatalf("BlockOf(%d cells, %d) = %x, %v, want %x", len(cells), b, got, ok, want)
		}
		list, ok := impl.ItemsOf(s, b)
		if ok != isOne || !slices.Equal(list, items) {
			t.Fatalf("ItemsOf(%d cells, %d) = %+v, %v, want %+v", len(cells), b, list, ok, items)
		}
		argument.check(t)
		checkWiped(t, got, 0x77777777, argument)
		checkWiped(t, list, impl.Item{Kind: impl.IDef, Name: "changed"}, argument)
	}
}

func TestBlocksOfStores(t *testing.T) {
	for _, cells := range append(someStores(), wrongStores()...) {
		for _, b := range blocksToTry() {
			checkBlock(t, cells, b)
		}
	}
}

func TestItemsOfBlocks(t *testing.T) {
	odd := oddCells()
	for seed := range 300 {
		m := mixer(seed)
		cells := make([]uint32, rightSizes[1+m.below(12)])
		for at := range cells {
			cells[at] = odd[m.below(len(odd))]
		}
		for b := range len(cells) / 64 {
			checkBlock(t, cells, b)
		}
	}
}

// A name, a number or a variable whose cells would go on in the next block ends with its own block.
func TestItemsEndWithTheirBlock(t *testing.T) {
	cells := make([]uint32, 192)
	cells[63], cells[64] = 0x12345673, 0x10000000
	cells[127], cells[128] = 0x1000000c, 7
	s := impl.Store{Cells: cells}
	for b, want := range []impl.Item{{Kind: impl.IDef, Name: "rtoeani"}, {Raw: 0x1000000c}, {Raw: 7}} {
		list, ok := impl.ItemsOf(s, b)
		if !ok || len(list) == 0 || list[len(list)-1] != want {
			t.Errorf("ItemsOf(%d) = %+v, %v", b, list, ok)
		}
		checkBlock(t, cells, b)
	}
}

// putSizes are how many cells are put into a block: none, some, as many as it has, and more.
var putSizes = []int{0, 1, 2, 31, 63, 64, 65, 66, 128, 768, 1 << 16}

// checkPut holds the store with a block of those cells against the rows.
func checkPut(t *testing.T, cells []uint32, b int, block []uint32) {
	t.Helper()
	put := holdCells(block)
	checkChange(t, cells, func(s impl.Store) (impl.Store, bool) {
		next, ok := impl.PutBlock(s, b, put.list())
		put.check(t)
		return next, ok
	}, putByRows(cells, b, block))
	put.check(t)
}

func TestPutBlock(t *testing.T) {
	m := mixer(7)
	var blocks [][]uint32
	for _, n := range putSizes {
		blocks = append(blocks, mixedCells(&m, n), make([]uint32, n))
	}
	for _, cells := range someStores() {
		for _, b := range blocksToTry() {
			for _, block := range blocks[:16] {
				checkPut(t, cells, b, block)
			}
		}
	}
	for _, block := range blocks {
		checkPut(t, make([]uint32, 768), 11, block)
	}
	for _, cells := range wrongStores() {
		for _, b := range []int{-1, 0, 1, len(cells)/64 - 1, len(cells) / 64} {
			checkPut(t, cells, b, blocks[2])
			checkPut(t, cells, b, nil)
		}
	}
}

func TestPutByHand(t *testing.T) {
	s := impl.NewStore(3)
	for b, first := range []uint32{0x11, 0x22, 0x33} {
		next, ok := impl.PutBlock(s, b, []uint32{first, first + 1})
		if !ok {
			t.Fatalf("PutBlock(%d) is refused", b)
		}
		s = next
	}
	want := make([]uint32, 192)
	want[0], want[1], want[64], want[65], want[128], want[129] = 0x11, 0x12, 0x22, 0x23, 0x33, 0x34
	if !slices.Equal(s.Cells, want) {
		t.Errorf("put: %x", s.Cells)
	}
	next, ok := impl.PutBlock(s, 1, []uint32{9})
	want[64], want[65] = 9, 0
	if !ok || !slices.Equal(next.Cells, want) || s.Cells[64] != 0x22 {
		t.Errorf("put again: %x, %v", next.Cells, ok)
	}
	next, ok = impl.CopyBlock(next, 1, 2)
	want[128], want[129] = 9, 0
	if !ok || !slices.Equal(next.Cells, want) {
		t.Errorf("copied: %x, %v", next.Cells, ok)
	}
}

// The cells that are put may be some of the store's own, from inside the block or from beside it.
func TestPutOfItsOwnCells(t *testing.T) {
	m := mixer(8)
	cells := mixedCells(&m, 192)
	for b := range 3 {
		for from := 0; from <= 192; from += 8 {
			for _, size := range []int{0, 1, 32, 63, 64, 65} {
				end := min(from+size, 192)
				checkChange(t, cells, func(s impl.Store) (impl.Store, bool) {
					return impl.PutBlock(s, b, s.Cells[from:end])
				}, putByRows(cells, b, cells[from:end]))
			}
		}
	}
}

// checkCopy holds the store with a block as another one against the rows.
func checkCopy(t *testing.T, cells []uint32, from, to int) {
	t.Helper()
	var want []uint32
	if isBlock(cells, from) {
		want = putByRows(cells, to, cells[from*64:from*64+64])
	}
	checkChange(t, cells, func(s impl.Store) (impl.Store, bool) { return impl.CopyBlock(s, from, to) }, want)
}

func TestCopyBlock(t *testing.T) {
	for _, cells := range someStores() {
		for _, from := range blocksToTry() {
			for _, to := range blocksToTry() {
				checkCopy(t, cells, from, to)
			}
		}
	}
	for _, cells := range wrongStores() {
		past := len(cells) / 64
		for _, pair := range [][2]int{{0, 0}, {0, 1}, {1, 0}, {-1, 0}, {0, -1}, {past - 1, 0}, {0, past - 1}, {past, 0}, {0, past}} {
			checkCopy(t, cells, pair[0], pair[1])
		}
	}
}

// checkPutItems holds the store with a block of those items against the rows.
func checkPutItems(t *testing.T, cells []uint32, b int, list []impl.Item) {
	t.Helper()
	var want []uint32
	if block, ok := impl.Unparse(list); ok {
		want = putByRows(cells, b, block)
	}
	put := hold(list, impl.Item{Kind: impl.IDef, Name: "behind"})
	checkChange(t, cells, func(s impl.Store) (impl.Store, bool) {
		next, ok := impl.PutItems(s, b, put.list())
		put.check(t)
		return next, ok
	}, want)
	put.check(t)
	// An IRaw at the end may begin an item with the noughts that stand behind it then.
	if want == nil || !impl.ListOk(list) || len(list) > 0 && list[len(list)-1].Kind == impl.IRaw {
		return
	}
	next, _ := impl.PutItems(impl.Store{Cells: cells}, b, list)
	if got, ok := impl.ItemsOf(next, b); !ok || !slices.Equal(got, list) {
		t.Fatalf("%+v came back as %+v, %v", list, got, ok)
	}
}

func TestPutItemsByHand(t *testing.T) {
	list := []impl.Item{{Kind: impl.IDef, Name: "rtoeanir"}, {Kind: impl.IYel, N: 5}, {Kind: impl.IVar, Name: "r", N: -1}, {Raw: 7}}
	full := slices.Repeat([]uint32{0x55}, 128)
	s, ok := impl.PutItems(impl.Store{Cells: full}, 1, list)
	want := append(slices.Repeat([]uint32{0x55}, 64), 0x12345673, 0x10000000, 0xa8, 0x1000000c, 0xffffffff, 7)
	want = append(want, make([]uint32, 58)...)
	if !ok || !slices.Equal(s.Cells, want) {
		t.Errorf("PutItems = %x, %v", s.Cells, ok)
	}
	if got, ok := impl.ItemsOf(s, 1); !ok || !slices.Equal(got, list) {
		t.Errorf("ItemsOf = %+v, %v", got, ok)
	}
	// What Unparse takes is put, though it comes back as other items.
	s, ok = impl.PutItems(impl.Store{Cells: full}, 0, []impl.Item{{Raw: 0xa8}, {}})
	if got, _ := impl.ItemsOf(s, 0); !ok || !slices.Equal(got, []impl.Item{{Kind: impl.IYel, N: 5}}) {
		t.Errorf("raw cells came back as %+v, %v", got, ok)
	}
	s, ok = impl.PutItems(impl.Store{Cells: full}, 0, []impl.Item{{Raw: 0x1000000c}})
	if got, _ := impl.ItemsOf(s, 0); !ok || !slices.Equal(got, []impl.Item{{Kind: impl.IVar, Name: "r"}}) {
		t.Errorf("a raw cell ahead of noughts came back as %+v, %v", got, ok)
	}
	s, ok = impl.PutItems(impl.Store{Cells: full}, 0, nil)
	if got, there := impl.ItemsOf(s, 0); !ok || !there || len(got) != 0 || !slices.Equal(s.Cells[:64], make([]uint32, 64)) {
		t.Errorf("no items: %x, %v", s.Cells, ok)
	}
}

func TestPutItems(t *testing.T) {
	odd := oddCells()
	stores := append(someStores(), wrongStores()[:13]...)
	for seed := range 3000 {
		m := mixer(seed)
		var list []impl.Item
		for range m.below(40) {
			list = append(list, mixedItem(&m, odd))
		}
		cells := stores[m.below(len(stores))]
		checkPutItems(t, cells, m.below(len(cells)/64+1), list)
	}
	good := impl.Item{Kind: impl.IComp, Name: "dup"}
	lists := [][]impl.Item{
		nil, {good}, {good, {Raw: 7}}, slices.Repeat([]impl.Item{good}, 64), slices.Repeat([]impl.Item{good}, 65), make([]impl.Item, 64), make([]impl.Item, 65),
		append(slices.Repeat([]impl.Item{good}, 63), impl.Item{Kind: impl.IVar, Name: "r"}), append(slices.Repeat([]impl.Item{good}, 62), impl.Item{Kind: impl.IVar, Name: "r", N: 1}),
		{{Kind: -1}}, {good, {Kind: 10}}, {{Kind: impl.IDef}}, {good, {Kind: impl.IVar, Name: "rtoeanir"}, good}, {{N: 1}}, {{Kind: impl.IYel, Name: "r"}}, {{Kind: impl.IDef, Name: strings.Repeat("r", 25)}},
	}
	for _, cells := range [][]uint32{nil, make([]uint32, 64), slices.Repeat([]uint32{0x55}, 768), make([]uint32, 63), make([]uint32, 832)} {
		for _, b := range blocksToTry() {
			for _, list := range lists {
				checkPutItems(t, cells, b, list)
			}
		}
	}
}

func TestSum(t *testing.T) {
	m := mixer(9)
	rows := []struct {
		cells []uint32
		want  uint32
	}{
		{nil, 2166136261}, {[]uint32{}, 2166136261}, {[]uint32{0}, 84696351}, {[]uint32{1}, 67918732}, {[]uint32{0, 0}, 292984781},
		{[]uint32{1, 2}, 3983810698}, {[]uint32{2, 1}, 1551600396}, {[]uint32{256}, 84593183}, {[]uint32{0x80000000}, 2232179999}, {[]uint32{math.MaxUint32}, 4193493326},
		{[]uint32{2166136261}, 0}, {[]uint32{2166136260}, 16777619}, {make([]uint32, 64), 3755895493}, {append(make([]uint32, 63), 0xdeadbeef), 3122515320},
	}
	for _, row := range rows {
		if got := impl.Sum(row.cells); got != row.want || got != sumByRows(row.cells) {
			t.Errorf("Sum(%x) = %d, want %d", row.cells, got, row.want)
		}
	}
	// A sum isn't a store's alone: any number of cells has one.
	for _, n := range append(slices.Clone(wrongSizes), rightSizes...) {
		argument := holdCells(mixedCells(&m, n))
		if got, want := impl.Sum(argument.list()), sumByRows(argument.list()); got != want {
			t.Errorf("Sum of %d cells is %d, want %d", n, got, want)
		}
		argument.check(t)
	}
}

// checkRead holds the store that is read of bytes against what it should be; nil where they are no image.
func checkRead(t *testing.T, image []byte, want []uint32, isOne bool) {
	t.Helper()
	argument := hold(image, 0xab)
	for range 2 {
		s, ok := impl.ReadImage(argument.list())
		if ok != isOne || !slices.Equal(s.Cells, want) {
			t.Fatalf("ReadImage(%x) = %x, %v, want %x, %v", image, s.Cells, ok, want, isOne)
		}
		argument.check(t)
		checkWiped(t, s.Cells, 0x77777777, argument)
	}
}

func checkNoImage(t *testing.T, image []byte) {
	t.Helper()
	checkRead(t, image, nil, false)
}

func TestImagesByHand(t *testing.T) {
	if got := impl.ImageOf(impl.Store{}); !slices.Equal(got, []byte{0, 0xc5, 0x9d, 0x1c, 0x81}) {
		t.Errorf("the image of no blocks is %x", got)
	}
	checkRead(t, []byte{0, 0xc5, 0x9d, 0x1c, 0x81}, nil, true)
	cells := make([]uint32, 64)
	cells[0], cells[63] = 7, 0x01020304
	image := make([]byte, 253)
	image[0], image[1] = 1, 7
	sum := sumByRows(cells)
	image = append(image, 4, 3, 2, 1, byte(sum), byte(sum>>8), byte(sum>>16), byte(sum>>24))
	if got := impl.ImageOf(impl.Store{Cells: cells}); !slices.Equal(got, image) {
		t.Errorf("the image of a block is %x, want %x", got, image)
	}
	checkRead(t, image, cells, true)
}

func TestImagesComeBack(t *testing.T) {
	for _, cells := range someStores() {
		argument := holdCells(cells)
		want := imageByRows(len(cells)/64, cells)
		for range 2 {
			image := impl.ImageOf(impl.Store{Cells: argument.list()})
			if !slices.Equal(image, want) {
				t.Fatalf("ImageOf(%x) = %x, want %x", cells, image, want)
			}
			argument.check(t)
			checkRead(t, image, cells, true)
			checkWiped(t, image, 0x77, argument)
		}
	}
	for _, cells := range wrongStores() {
		argument := holdCells(cells)
		if image := impl.ImageOf(impl.Store{Cells: argument.list()}); len(image) != 0 {
			t.Errorf("the image of %d cells has %d bytes", len(cells), len(image))
		}
		argument.check(t)
	}
}

func TestTurnedImages(t *testing.T) {
	m := mixer(10)
	for _, size := range []int{0, 64, 128, 768} {
		cells := mixedCells(&m, size)
		image := imageByRows(size/64, cells)
		for at := range image {
			for _, turn := range []byte{1, 2, 0x10, 0x80, 0xff, 0x0d} {
				turned := slices.Clone(image)
				turned[at] ^= turn
				checkNoImage(t, turned)
			}
			checkNoImage(t, image[:at])
			checkNoImage(t, image[at+1:])
		}
		for _, more := range [][]byte{{0}, {1}, {0xff}, {0, 0, 0, 0}, image, make([]byte, 256)} {
			checkNoImage(t, slices.Concat(image, more))
			checkNoImage(t, slices.Concat(more, image))
		}
		for count := range 256 {
			turned := slices.Clone(image)
			turned[0] = byte(count)
			if count == size/64 {
				checkRead(t, turned, cells, true)
			} else {
				checkNoImage(t, turned)
			}
		}
	}
}

// Cells that are turned with their sum are an image again; a sum with its bytes the other way round isn't one.
func TestImagesWithTheirSums(t *testing.T) {
	m := mixer(11)
	cells := mixedCells(&m, 128)
	for at := range cells {
		turned := slices.Clone(cells)
		turned[at] ^= 1 << (at % 32)
		checkRead(t, imageByRows(2, turned), turned, true)
		checkNoImage(t, append(imageByRows(2, turned)[:513], imageByRows(2, cells)[513:]...))
	}
	image := imageByRows(2, cells)
	slices.Reverse(image[513:])
	checkNoImage(t, image)
}

// Each number of blocks is held against each number of cells, beside a sum that is right.
func TestImagesOfTooManyBlocks(t *testing.T) {
	sizes := append(slices.Clone(rightSizes), 1, 63, 65, 127, 767, 769, 832, 896, 64*255, 64*256, 64*257)
	m := mixer(12)
	for _, size := range sizes {
		cells := mixedCells(&m, size)
		for count := range 256 {
			if slices.Contains(rightSizes, size) && count == size/64 {
				checkRead(t, imageByRows(count, cells), cells, true)
			} else {
				checkNoImage(t, imageByRows(count, cells))
			}
		}
	}
}

func TestBytesThatAreNoImage(t *testing.T) {
	checkNoImage(t, nil)
	for count := range 256 {
		for n := range 12 {
			checkNoImage(t, append([]byte{byte(count)}, make([]byte, n)...))
			checkNoImage(t, slices.Repeat([]byte{byte(count)}, 1+n))
		}
		for _, size := range rightSizes {
			checkNoImage(t, append([]byte{byte(count)}, make([]byte, 4*size)...))
			checkNoImage(t, append([]byte{byte(count)}, make([]byte, 4*size+4)...))
		}
	}
}
