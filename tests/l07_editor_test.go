package tests

import (
	"math"
	"slices"
	"strings"
	"testing"
	"unsafe"

	"loop.example/g00711/impl"
)

// notKeys are numbers of no key.
var notKeys = []int{-1, -2, -8, 8, 9, 10, 255, 256, 1 << 32, 1<<32 + impl.KHome, math.MaxInt, math.MinInt, math.MinInt + impl.KPut}

// noItems are items that are none.
var noItems = []impl.Item{
	{Kind: -1}, {Kind: 10}, {Kind: 10, Name: "r"}, {Kind: 1<<32 + impl.IDef, Name: "r"}, {Kind: impl.IDef}, {Kind: impl.IDef, Name: "A"}, {Kind: impl.IComp, Name: "a b"},
	{Kind: impl.IComp, Name: strings.Repeat("r", 25)}, {Kind: impl.IComp, Name: "r", N: 1}, {Kind: impl.ICap, Name: "r", Hex: true}, {Kind: impl.INote, Name: "r", Raw: 1},
	{Kind: impl.IYel, N: 5, Name: "r"}, {Kind: impl.IGreen, Raw: 1}, {Kind: impl.IVar, N: 1}, {Kind: impl.IVar, Name: "rtoeanir"}, {Kind: impl.IVar, Name: "r", Hex: true},
	{N: 1}, {Hex: true}, {Raw: 7, Name: "r"},
}

// itemsOf are the items of texts, with blanks between two.
func itemsOf(t *testing.T, s string) []impl.Item {
	t.Helper()
	var list []impl.Item
	for _, text := range strings.Fields(s) {
		it, ok := readByRows(text)
		if !ok {
			t.Fatalf("%q is the text of no item", text)
		}
		list = append(list, it)
	}
	return list
}

// edOf is the editor of a text: the items on the left, | , those on the right, | , those that are cut.
func edOf(t *testing.T, s string) impl.Ed {
	t.Helper()
	sides := strings.Split(s, "|")
	return impl.Ed{Left: itemsOf(t, sides[0]), Right: itemsOf(t, sides[1]), Cut: itemsOf(t, sides[2])}
}

// knownItems tells of items that were asked for whether they are some.
var knownItems = map[impl.Item]bool{}

func isItem(it impl.Item) bool {
	is, known := knownItems[it]
	if !known {
		got, ok := readByRows(textByRows(it))
		it.Name = strings.Clone(it.Name)
		is = ok && got == it
		knownItems[it] = is
	}
	return is
}

func isRightList(list []impl.Item) bool {
	var cells []uint32
	for _, it := range list {
		if !isItem(it) {
			return false
		}
		cells = append(cells, cellsByRows(it)...)
	}
	return len(cells) <= 64 && slices.Equal(parseByRows(cells), list)
}

func isRightEd(e impl.Ed) bool {
	return isRightList(slices.Concat(e.Left, e.Right)) && len(e.Cut) <= 20 && !slices.ContainsFunc(e.Cut, func(it impl.Item) bool { return !isItem(it) })
}

func cellsInEd(e impl.Ed) []uint32 {
	if !isRightEd(e) {
		return nil
	}
	var cells []uint32
	for _, it := range slices.Concat(e.Left, e.Right) {
		cells = append(cells, cellsByRows(it)...)
	}
	return cells
}

func sameEd(one, other impl.Ed) bool {
	return slices.Equal(one.Left, other.Left) && slices.Equal(one.Right, other.Right) && slices.Equal(one.Cut, other.Cut)
}

// pressByRows tells what Press should tell, by one list of all items and the cursor's place in it.
func pressByRows(e impl.Ed, k impl.Key) (impl.Ed, bool) {
	if !isRightEd(e) {
		return impl.Ed{}, false
	}
	all, cut, at := slices.Concat(e.Left, e.Right), slices.Clone(e.Cut), len(e.Left)
	left, right, kept := at > 0, at < len(all), len(cut) > 0
	switch {
	case k.Op == 0 && left:
		at--
	case k.Op == 1 && right:
		at++
	case k.Op == 2:
		at = 0
	case k.Op == 3:
		at = len(all)
	case k.Op == 4:
		all, at = slices.Insert(all, at, k.Item), at+1
	case k.Op == 5 && left:
		cut = append(cut, all[at-1])
		all, at = slices.Delete(all, at-1, at), at-1
	case k.Op == 6 && kept:
		all, at = slices.Insert(all, at, cut[len(cut)-1]), at+1
		cut = cut[:len(cut)-1]
	case k.Op == 7 && left && mixes(all[at-1].Kind, k.Item.Kind):
		all[at-1].Kind = k.Item.Kind
	default:
		return e, false
	}
	next := impl.Ed{Left: all[:at], Right: all[at:], Cut: cut}
	if !isRightEd(next) {
		return e, false
	}
	return next, true
}

func pressAllByRows(e impl.Ed, keys []impl.Key) (impl.Ed, int) {
	if !isRightEd(e) {
		return impl.Ed{}, len(keys)
	}
	refused := 0
	for _, k := range keys {
		next, ok := pressByRows(e, k)
		if !ok {
			refused++
		}
		e = next
	}
	return e, refused
}

// heldItems are items that are an argument, with room behind them; their names stand over bytes that can be written over.
type heldItems struct {
	list  held[impl.Item]
	names []heldText
}

func holdItems(list []impl.Item) heldItems {
	var h heldItems
	all := slices.Clone(list)
	for at := range all {
		name := holdText(all[at].Name)
		all[at].Name = name.text()
		h.names = append(h.names, name)
	}
	h.list = hold(all, impl.Item{Kind: impl.IDef, Name: "behind"})
	return h
}

// wipe holds the items against what they were, and writes over them and their names.
func (h heldItems) wipe(t *testing.T) {
	t.Helper()
	h.list.check(t)
	clear(h.list.all)
	for _, name := range h.names {
		name.wipe(t)
	}
}

// heldEd is an editor that is an argument. In one that is packed all lists are parts of one, each with the next one as the room behind it.
type heldEd struct {
	items []heldItems
	ed    impl.Ed
}

func holdEd(e impl.Ed, packed bool) heldEd {
	if packed {
		h := holdItems(slices.Concat(e.Left, e.Right, e.Cut))
		all, left, right := h.list.list(), len(e.Left), len(e.Left)+len(e.Right)
		return heldEd{[]heldItems{h}, impl.Ed{Left: all[:left], Right: all[left:right], Cut: all[right:]}}
	}
	left, right, cut := holdItems(e.Left), holdItems(e.Right), holdItems(e.Cut)
	return heldEd{[]heldItems{left, right, cut}, impl.Ed{Left: left.list.list(), Right: right.list.list(), Cut: cut.list.list()}}
}

func (h heldEd) wipe(t *testing.T) {
	t.Helper()
	for _, items := range h.items {
		items.wipe(t)
	}
}

// checkOwn writes over one list of an editor after the other, of which the others may see nothing; no two names may be one.
func checkOwn(t *testing.T, e, want impl.Ed) {
	t.Helper()
	seen := map[*byte]bool{}
	for _, it := range slices.Concat(e.Left, e.Right, e.Cut) {
		// The language itself keeps the texts of one byte.
		if len(it.Name) < 2 {
			continue
		}
		if seen[unsafe.StringData(it.Name)] {
			t.Fatalf("two items have one name %q", it.Name)
		}
		seen[unsafe.StringData(it.Name)] = true
	}
	with := impl.Item{Kind: impl.INote, Name: "changed"}
	for _, sides := range [][2]*[]impl.Item{{&e.Left, &want.Left}, {&e.Right, &want.Right}, {&e.Cut, &want.Cut}} {
		list := (*sides[0])[:cap(*sides[0])]
		for at := range list {
			list[at] = with
		}
		*sides[0], *sides[1] = nil, nil
		if !sameEd(e, want) {
			t.Fatalf("two lists of an answer are one: %+v is left of %+v", e, want)
		}
	}
}

// checkPress holds what a key makes of an editor against what it should.
func checkPress(t *testing.T, e impl.Ed, k impl.Key, want impl.Ed, taken bool) {
	t.Helper()
	for _, packed := range []bool{false, true} {
		argument, item := holdEd(e, packed), holdItems([]impl.Item{k.Item})
		got, ok := impl.Press(argument.ed, impl.Key{Op: k.Op, Item: item.list.all[0]})
		argument.wipe(t)
		item.wipe(t)
		if ok != taken || !sameEd(got, want) {
			t.Fatalf("%+v by %+v became %+v, %v, want %+v, %v", e, k, got, ok, want, taken)
		}
		checkOwn(t, got, want)
	}
}

// checkPressByRows tells whether the key was taken.
func checkPressByRows(t *testing.T, e impl.Ed, k impl.Key) (impl.Ed, bool) {
	t.Helper()
	want, taken := pressByRows(e, k)
	checkPress(t, e, k, want, taken)
	return want, taken
}

// checkAll holds what keys make of an editor against the rows, and against what they make one by one.
func checkAll(t *testing.T, e impl.Ed, keys []impl.Key) (impl.Ed, int) {
	t.Helper()
	want, refused := pressAllByRows(e, keys)
	for _, packed := range []bool{false, true} {
		argument, items := holdEd(e, packed), heldItems{}
		var asked []impl.Key
		for _, k := range keys {
			name := holdText(k.Item.Name)
			items.names = append(items.names, name)
			k.Item.Name = name.text()
			asked = append(asked, k)
		}
		list := hold(asked, impl.Key{Op: impl.KPut, Item: impl.Item{Raw: 7}})
		got, count := impl.PressAll(argument.ed, list.list())
		list.check(t)
		argument.wipe(t)
		items.wipe(t)
		if count != refused || !sameEd(got, want) {
			t.Fatalf("%+v by %+v became %+v, %d, want %+v, %d", e, keys, got, count, want, refused)
		}
		checkOwn(t, got, want)
	}
	if !isRightEd(e) {
		return want, refused
	}
	one, count := e, 0
	for _, k := range keys {
		next, ok := impl.Press(one, k)
		if !ok {
			count++
		}
		one = next
	}
	if count != refused || !sameEd(one, want) {
		t.Fatalf("%+v by %+v one by one became %+v, %d, want %+v, %d", e, keys, one, count, want, refused)
	}
	return want, refused
}

// checkEd holds what is told of an editor alone against the rows.
func checkEd(t *testing.T, e impl.Ed) bool {
	t.Helper()
	isOne, want := isRightEd(e), cellsInEd(e)
	for _, packed := range []bool{false, true} {
		argument := holdEd(e, packed)
		ok, cells := impl.EdOk(argument.ed), impl.EdCells(argument.ed)
		argument.wipe(t)
		if ok != isOne || !slices.Equal(cells, want) {
			t.Fatalf("EdOk(%+v) = %v, EdCells %x, want %v, %x", e, ok, cells, isOne, want)
		}
		checkWiped(t, cells, 0x77777777, held[uint32]{})
	}
	return isOne
}

// checkWrong holds that an editor isn't right, and that nothing is made of it.
func checkWrong(t *testing.T, e impl.Ed) {
	t.Helper()
	if checkEd(t, e) {
		t.Fatalf("by the rows %+v is right", e)
	}
	keys := everyKey()
	for _, k := range keys {
		checkPress(t, e, k, impl.Ed{}, false)
	}
	if got, refused := checkAll(t, e, keys); !sameEd(got, impl.Ed{}) || refused != len(keys) {
		t.Fatalf("by the rows %+v became %+v, %d", e, got, refused)
	}
	checkAll(t, e, nil)
}

// everyKey tells keys of each number, and of none; those that don't look at their item have one that is none.
func everyKey() []impl.Key {
	keys := []impl.Key{
		{Op: impl.KPut, Item: impl.Item{Kind: impl.IComp, Name: "dup"}}, {Op: impl.KPut, Item: impl.Item{Kind: impl.IYel, N: math.MaxInt32, Hex: true}},
		{Op: impl.KPut, Item: impl.Item{Kind: impl.IVar, Name: "x", N: 2}}, {Op: impl.KPut}, {Op: impl.KPut, Item: impl.Item{Raw: 7}},
		{Op: impl.KPut, Item: impl.Item{Raw: 16}}, {Op: impl.KPut, Item: impl.Item{Raw: 0xa8}}, {Op: impl.KPut, Item: impl.Item{Kind: impl.IDef, N: 1}},
	}
	for op := range 8 {
		keys = append(keys, impl.Key{Op: op}, impl.Key{Op: op, Item: impl.Item{Kind: impl.IExec, Name: "no name", N: 3, Hex: true, Raw: 9}})
	}
	for kind := -1; kind <= 10; kind++ {
		keys = append(keys, impl.Key{Op: impl.KColor, Item: impl.Item{Kind: kind, Name: "x"}})
	}
	for _, op := range notKeys {
		keys = append(keys, impl.Key{Op: op, Item: impl.Item{Kind: impl.IComp, Name: "dup"}})
	}
	return keys
}

func TestKeysAndLimit(t *testing.T) {
	for want, op := range []int{impl.KLeft, impl.KRight, impl.KHome, impl.KEnd, impl.KPut, impl.KCut, impl.KBack, impl.KColor} {
		if op != want {
			t.Errorf("key %d is %d", want, op)
		}
	}
	if impl.MaxCut != 20 {
		t.Error("MaxCut", impl.MaxCut)
	}
}

func TestPressByHand(t *testing.T) {
	dup, drop := impl.Item{Kind: impl.IComp, Name: "dup"}, impl.Item{Kind: impl.IExec, Name: "drop"}
	put := func(it impl.Item) impl.Key { return impl.Key{Op: impl.KPut, Item: it} }
	color := func(kind int) impl.Key { return impl.Key{Op: impl.KColor, Item: impl.Item{Kind: kind}} }
	rows := []struct {
		from string
		key  impl.Key
		to   string // the empty text where it is refused
	}{
		{":sq =dup | =* =; | ~#1", impl.Key{Op: impl.KLeft}, ":sq | =dup =* =; | ~#1"},
		{":sq =dup | |", impl.Key{Op: impl.KLeft}, ":sq | =dup |"},
		{":sq | =; |", impl.Key{Op: impl.KLeft}, "| :sq =; |"},
		{"| :sq =dup | ~#1", impl.Key{Op: impl.KLeft}, ""},
		{"| |", impl.Key{Op: impl.KLeft}, ""},
		{":sq =dup | =* =; | ~#1", impl.Key{Op: impl.KRight}, ":sq =dup =* | =; | ~#1"},
		{"| :sq =dup |", impl.Key{Op: impl.KRight}, ":sq | =dup |"},
		{":sq | =; |", impl.Key{Op: impl.KRight}, ":sq =; | |"},
		{":sq =dup | | ~#1", impl.Key{Op: impl.KRight}, ""},
		{"| | =dup", impl.Key{Op: impl.KRight}, ""},
		{":sq =dup =* | =; =; | ~#1", impl.Key{Op: impl.KHome}, "| :sq =dup =* =; =; | ~#1"},
		{"| :sq =dup | ~#1", impl.Key{Op: impl.KHome}, "| :sq =dup | ~#1"},
		{"| |", impl.Key{Op: impl.KHome}, "| |"},
		{":sq =dup | =* =; =r | ~#1", impl.Key{Op: impl.KEnd}, ":sq =dup =* =; =r | | ~#1"},
		{":sq =dup | |", impl.Key{Op: impl.KEnd}, ":sq =dup | |"},
		{"| | ~#1 ~#2", impl.Key{Op: impl.KEnd}, "| | ~#1 ~#2"},
		{"| |", put(dup), "=dup | |"},
		{":sq | =; | ~#1", put(dup), ":sq =dup | =; | ~#1"},
		{"| =; |", put(drop), "~drop | =; |"},
		{":sq =; | |", put(drop), ":sq =; ~drop | |"},
		{":sq | =; |", put(impl.Item{Kind: impl.IComp, Name: "no name"}), ""},
		{":sq =dup | =* =; | ~#1", impl.Key{Op: impl.KCut}, ":sq | =* =; | ~#1 =dup"},
		{":sq | |", impl.Key{Op: impl.KCut}, "| | :sq"},
		{"| :sq =dup | ~#1", impl.Key{Op: impl.KCut}, ""},
		{"| | ~#1", impl.Key{Op: impl.KCut}, ""},
		{":sq | =; | ~#1 =dup", impl.Key{Op: impl.KBack}, ":sq =dup | =; | ~#1"},
		{"| | ~#1", impl.Key{Op: impl.KBack}, "~#1 | |"},
		{":sq =dup | =; |", impl.Key{Op: impl.KBack}, ""},
		{"| |", impl.Key{Op: impl.KBack}, ""},
		{":sq =dup | =; | =r", color(impl.IDef), ":sq :dup | =; | =r"},
		{":sq =dup | =; |", color(impl.ICaps), ":sq _dup | =; |"},
		{":sq =dup | =; |", color(impl.IComp), ":sq =dup | =; |"},
		{":sq =dup | =; |", color(impl.IYel), ""},
		{":sq =dup | =; |", color(impl.IRaw), ""},
		{":sq =dup | =; |", color(-1), ""},
		{":sq =dup | =; |", color(10), ""},
		{"=#5 | ~#6 |", color(impl.IYel), "~#5 | ~#6 |"},
		{"~$fffffff | |", color(impl.IGreen), "=$fffffff | |"},
		{"~#5 | |", color(impl.IComp), ""},
		{"&x#2 | |", color(impl.IVar), "&x#2 | |"},
		{"&x#2 | |", color(impl.IComp), ""},
		{"%7 | |", color(impl.IRaw), "%7 | |"},
		{"%7 | |", color(impl.IYel), ""},
		{"| :sq | =dup", color(impl.IDef), ""},
		{"| | =dup", color(impl.IDef), ""},
		{":sq | =; | ~#1", impl.Key{Op: 8, Item: dup}, ""},
		{":sq | =; | ~#1", impl.Key{Op: -1, Item: dup}, ""},
		// What comes out isn't right: a raw cell becomes a part of what stands ahead, or a nought stands at the end.
		{"=r | ~#5 |", put(impl.Item{Raw: 16}), ""},
		{"~#5 | =r |", put(impl.Item{Raw: 16}), "~#5 %10 | =r |"},
		{"| %10 |", put(dup), ""},
		{"| %10 |", put(impl.Item{Kind: impl.IYel, N: 5}), "~#5 | %10 |"},
		{"=r |  |", put(impl.Item{}), ""},
		{"| =r |", put(impl.Item{}), "%0 | =r |"},
		{"=r | |", put(impl.Item{Raw: 0xa8}), ""},
		{"%2 | |", put(impl.Item{Raw: 7}), "%2 %7 | |"},
		{"%2 | |", put(impl.Item{Kind: impl.IVar, Name: "rtoeani", N: 1}), ""},
		{"=r ~#5 | %10 |", impl.Key{Op: impl.KCut}, ""},
		{"=r ~#5 | %7 |", impl.Key{Op: impl.KCut}, "=r | %7 | ~#5"},
		{"%0 =r | |", impl.Key{Op: impl.KCut}, ""},
		{"%0 =r | ~#5 |", impl.Key{Op: impl.KCut}, "%0 | ~#5 | =r"},
		{"=r | | %10", impl.Key{Op: impl.KBack}, ""},
		{"=r | | %10 %7", impl.Key{Op: impl.KBack}, "=r %7 | | %10"},
		{"=r | | %0", impl.Key{Op: impl.KBack}, ""},
		{"| =r | %0", impl.Key{Op: impl.KBack}, "%0 | =r |"},
		// A variable without a number is a raw cell; before another cell it would be one with it.
		{"%1000000c | |", put(impl.Item{Kind: impl.IYel, N: 5}), ""},
		{"| ~#5 |", put(impl.Item{Raw: 0x1000000c}), ""},
	}
	for _, row := range rows {
		from, taken := edOf(t, row.from), row.to != ""
		want := from
		if taken {
			want = edOf(t, row.to)
		}
		if !checkEd(t, from) {
			t.Fatalf("%q isn't right", row.from)
		}
		checkPress(t, from, row.key, want, taken)
		checkPressByRows(t, from, row.key)
	}
}

func TestOpenEdByHand(t *testing.T) {
	e := impl.OpenEd([]uint32{0x10000003, 0xc19b1004, 0xa8, 0, 0})
	if want := edOf(t, "| :r =dup ~#5 |"); !sameEd(e, want) {
		t.Errorf("opened: %+v", e)
	}
	if cells := impl.EdCells(e); !slices.Equal(cells, []uint32{0x10000003, 0xc19b1004, 0xa8}) {
		t.Errorf("closed: %x", cells)
	}
	for _, cells := range [][]uint32{nil, {}, {0}, make([]uint32, 64), make([]uint32, 65), slices.Repeat([]uint32{0x10000003}, 65), slices.Repeat([]uint32{0x10000003}, 70000)} {
		if e := impl.OpenEd(cells); !sameEd(e, impl.Ed{}) || len(impl.EdCells(e)) != 0 {
			t.Errorf("%d cells opened: %+v", len(cells), e)
		}
	}
	e = impl.OpenEd(slices.Repeat([]uint32{0x10000003}, 64))
	if !impl.EdOk(e) || len(e.Right) != 64 || len(impl.EdCells(e)) != 64 {
		t.Errorf("a full block opened: %+v", e)
	}
}

// checkOpen holds the editor of cells against the rows; the cells come out again, with noughts behind them.
func checkOpen(t *testing.T, cells []uint32) impl.Ed {
	t.Helper()
	want := impl.Ed{Right: parseByRows(cells)}
	argument := holdCells(cells)
	var e impl.Ed
	for range 2 {
		e = impl.OpenEd(argument.list())
		argument.check(t)
		if !sameEd(e, want) || !checkEd(t, e) {
			t.Fatalf("%x opened: %+v, want %+v", cells, e, want)
		}
		checkOwn(t, e, want)
	}
	back := impl.EdCells(want)
	if len(back) > len(cells) || !slices.Equal(append(back, make([]uint32, len(cells)-len(back))...), cells) {
		t.Fatalf("%x came out as %x", cells, back)
	}
	return want
}

func TestAnyBlockOpens(t *testing.T) {
	odd := oddCells()
	for _, first := range odd {
		checkOpen(t, []uint32{first})
		for _, second := range odd {
			checkOpen(t, []uint32{first, second})
		}
	}
	for seed := range 120 {
		m := mixer(seed)
		cells := make([]uint32, m.below(65))
		for at := range cells {
			cells[at] = odd[m.below(len(odd))]
		}
		e := checkOpen(t, cells)
		checkMoves(t, e, &m)
	}
}

// checkMoves holds that moves change no cell, that none is refused where it can be done, and that they come back.
func checkMoves(t *testing.T, e impl.Ed, m *mixer) {
	t.Helper()
	cells := cellsInEd(e)
	home := impl.Ed{Right: slices.Concat(e.Left, e.Right), Cut: e.Cut}
	end := impl.Ed{Left: home.Right, Cut: e.Cut}
	checkPress(t, e, impl.Key{Op: impl.KHome}, home, true)
	checkPress(t, e, impl.Key{Op: impl.KEnd}, end, true)
	var keys []impl.Key
	for range 40 {
		keys = append(keys, impl.Key{Op: m.below(4), Item: impl.Item{Kind: 77}})
	}
	moved, _ := checkAll(t, e, keys)
	if got, refused := impl.PressAll(e, keys); !slices.Equal(impl.EdCells(got), cells) || refused > 40 || !sameEd(got, moved) {
		t.Fatalf("moves made %x of %x", impl.EdCells(got), cells)
	}
	for at := range home.Right {
		between := impl.Ed{Left: home.Right[:at], Right: home.Right[at:], Cut: e.Cut}
		behind := impl.Ed{Left: home.Right[:at+1], Right: home.Right[at+1:], Cut: e.Cut}
		checkPress(t, between, impl.Key{Op: impl.KRight}, behind, true)
		checkPress(t, behind, impl.Key{Op: impl.KLeft}, between, true)
	}
	checkPress(t, home, impl.Key{Op: impl.KLeft}, home, false)
	checkPress(t, end, impl.Key{Op: impl.KRight}, end, false)
}

// eachList tells all lists of at most so many items of those.
func eachList(items []impl.Item, most int, tell func(list []impl.Item)) {
	var grow func(list []impl.Item)
	grow = func(list []impl.Item) {
		tell(list)
		if len(list) == most {
			return
		}
		for _, it := range items {
			grow(append(slices.Clip(list), it))
		}
	}
	grow(nil)
}

// All small editors by all keys; among their items are some that aren't right beside others, and one that is none.
func TestSmallEditors(t *testing.T) {
	items := append(itemsOf(t, "=r ~#5 %10 %0 &r#1"), impl.Item{Kind: impl.IDef, Name: "r", N: 1})
	keys := everyKey()
	right, taken := 0, 0
	eachList(items, 2, func(left []impl.Item) {
		eachList(items, 1, func(behind []impl.Item) {
			eachList(items, 1, func(cut []impl.Item) {
				e := impl.Ed{Left: left, Right: behind, Cut: cut}
				if checkEd(t, e) {
					right++
				}
				for _, k := range keys {
					if _, ok := checkPressByRows(t, e, k); ok {
						taken++
					}
				}
			})
		})
	})
	if right < 300 || taken < 2000 {
		t.Errorf("only %d were right, and %d keys were taken", right, taken)
	}
}

// mixedEd tells an editor of any size, with the cursor anywhere; most of them are right.
func mixedEd(m *mixer, odd []uint32) impl.Ed {
	var all, cut []impl.Item
	for range m.below(50) {
		if more := append(slices.Clip(all), mixedItem(m, odd)); m.below(40) == 0 || isRightList(more) {
			all = more
		}
	}
	for range m.below(21) {
		cut = append(cut, mixedItem(m, odd))
	}
	at := m.below(len(all) + 1)
	return impl.Ed{Left: all[:at:at], Right: all[at:], Cut: cut}
}

func mixedKey(m *mixer, odd []uint32) impl.Key {
	k := impl.Key{Op: m.below(8), Item: mixedItem(m, odd)}
	switch m.below(12) {
	case 0:
		k.Op = notKeys[m.below(len(notKeys))]
	case 1:
		k.Item = noItems[m.below(len(noItems))]
	}
	return k
}

func TestAnyEditor(t *testing.T) {
	odd := oddCells()
	right := 0
	for seed := range 150 {
		m := mixer(seed)
		e := mixedEd(&m, odd)
		if checkEd(t, e) {
			right++
		}
		var keys []impl.Key
		for range m.below(30) {
			k := mixedKey(&m, odd)
			keys = append(keys, k)
			checkPressByRows(t, e, k)
		}
		checkAll(t, e, keys)
	}
	if right < 40 {
		t.Errorf("only %d were right", right)
	}
}

// What is put is cut, and what is cut comes back.
func TestPutAndCut(t *testing.T) {
	odd := oddCells()
	put, cut := 0, 0
	for seed := range 500 {
		m := mixer(seed)
		e, it := mixedEd(&m, odd), mixedItem(&m, odd)
		if !isRightEd(e) {
			continue
		}
		room := len(e.Cut) < 20
		if next, ok := impl.Press(e, impl.Key{Op: impl.KPut, Item: it}); ok {
			put++
			again, ok := impl.Press(next, impl.Key{Op: impl.KCut})
			want := impl.Ed{Left: e.Left, Right: e.Right, Cut: append(slices.Clip(e.Cut), it)}
			if !room {
				want = next
			}
			if ok != room || !sameEd(again, want) {
				t.Fatalf("%+v put and cut made %+v of %+v", it, again, e)
			}
		}
		if next, ok := impl.Press(e, impl.Key{Op: impl.KCut}); ok {
			cut++
			if last := e.Left[len(e.Left)-1]; next.Cut[len(e.Cut)] != last || len(next.Left) != len(e.Left)-1 {
				t.Fatalf("%+v was cut, and %+v is left of %+v", last, next, e)
			}
			if again, ok := impl.Press(next, impl.Key{Op: impl.KBack}); !ok || !sameEd(again, e) {
				t.Fatalf("cut and taken back made %+v of %+v", again, e)
			}
		}
	}
	if put < 30 || cut < 100 {
		t.Errorf("only %d were put, %d were cut", put, cut)
	}
}

func TestEditorsThatAreFull(t *testing.T) {
	one, two, long := impl.Item{Kind: impl.IComp, Name: "dup"}, impl.Item{Kind: impl.IVar, Name: "x", N: 2}, impl.Item{Kind: impl.IDef, Name: "rtoeanir"}
	for _, row := range []struct {
		size int
		it   impl.Item
		ok   bool
	}{
		{63, one, true}, {64, one, false}, {63, two, false}, {62, two, true}, {63, long, false}, {62, long, true}, {64, two, false}, {64, impl.Item{}, false},
	} {
		for _, at := range []int{0, 1, 31, row.size - 1, row.size} {
			all := slices.Repeat([]impl.Item{one}, row.size)
			e := impl.Ed{Left: all[:at:at], Right: all[at:], Cut: []impl.Item{row.it}}
			for _, k := range []impl.Key{{Op: impl.KPut, Item: row.it}, {Op: impl.KBack}} {
				if _, ok := checkPressByRows(t, e, k); ok != row.ok {
					t.Errorf("%+v behind %d of %d by %d: %v", row.it, at, row.size, k.Op, ok)
				}
			}
		}
	}
	checkMoves(t, impl.Ed{Left: slices.Repeat([]impl.Item{one}, 33), Right: slices.Repeat([]impl.Item{one}, 31)}, new(mixer))
	keys := slices.Repeat([]impl.Key{{Op: impl.KPut, Item: one}}, 70)
	if e, refused := checkAll(t, impl.Ed{}, keys); refused != 6 || len(e.Left) != 64 {
		t.Errorf("%d of 70 were refused, %d are there", refused, len(e.Left))
	}
	wide := slices.Repeat([]impl.Key{{Op: impl.KPut, Item: two}}, 40)
	if e, refused := checkAll(t, impl.Ed{}, append(wide, keys...)); refused != 78 || len(e.Left) != 32 {
		t.Errorf("%d of 110 were refused, %d are there", refused, len(e.Left))
	}
}

func TestCutThatIsFull(t *testing.T) {
	e := impl.Ed{Left: slices.Repeat(itemsOf(t, ":r =dup ~#5"), 20)}
	cut := impl.Key{Op: impl.KCut}
	full, refused := checkAll(t, e, slices.Repeat([]impl.Key{cut}, 20))
	if refused != 0 || len(full.Cut) != 20 || len(full.Left) != 40 || full.Cut[0] != e.Left[59] || full.Cut[19] != e.Left[40] {
		t.Errorf("%d of 20 were refused, %+v are cut", refused, full.Cut)
	}
	checkPress(t, full, cut, full, false)
	if got, refused := checkAll(t, e, slices.Repeat([]impl.Key{cut}, 23)); refused != 3 || !sameEd(got, full) {
		t.Errorf("%d of 23 were refused", refused)
	}
	// One is taken back, and there is room for one again.
	less, ok := checkPressByRows(t, full, impl.Key{Op: impl.KBack})
	if !ok || len(less.Cut) != 19 {
		t.Errorf("%d are cut", len(less.Cut))
	}
	checkPress(t, less, cut, full, true)
	if got, refused := checkAll(t, e, append(slices.Repeat([]impl.Key{cut}, 21), slices.Repeat([]impl.Key{{Op: impl.KBack}}, 22)...)); refused != 3 || !sameEd(got, e) {
		t.Errorf("cut and taken back: %d were refused", refused)
	}
	// What is cut needn't be right as a list, and may have more cells than a block.
	odd := impl.Ed{Cut: slices.Repeat(itemsOf(t, "=rtoeanirtoeanirtoeanirto %10 %0 =r"), 5)}
	if !checkEd(t, odd) {
		t.Error("an editor with its Cut full isn't right")
	}
	checkAll(t, odd, slices.Repeat([]impl.Key{{Op: impl.KBack}}, 21))
}

func TestEditorsThatAreWrong(t *testing.T) {
	one := impl.Item{Kind: impl.IComp, Name: "dup"}
	some := func(n int) []impl.Item { return slices.Repeat([]impl.Item{one}, n) }
	for _, e := range []impl.Ed{
		{Left: some(65)}, {Right: some(65)}, {Left: some(64), Right: some(1)}, {Left: some(1), Right: some(64)}, {Left: some(33), Right: some(32), Cut: some(3)},
		{Cut: some(21)}, {Left: some(3), Cut: some(21)}, {Right: some(64), Cut: some(22)}, {Left: some(9000), Right: some(9000), Cut: some(9000)},
		{Left: itemsOf(t, "=r %10")}, {Right: itemsOf(t, "=r %10")}, {Left: itemsOf(t, "=r"), Right: itemsOf(t, "%10")}, {Left: itemsOf(t, "%1000000c"), Right: itemsOf(t, "%7")},
		{Left: itemsOf(t, "%0")}, {Right: itemsOf(t, "%0")}, {Left: itemsOf(t, "=r"), Right: itemsOf(t, "~#1 %0")}, {Left: itemsOf(t, "%a8"), Right: itemsOf(t, "=r"), Cut: some(1)},
	} {
		checkWrong(t, e)
	}
	for _, bad := range noItems {
		for _, e := range []impl.Ed{
			{Left: []impl.Item{bad}}, {Right: []impl.Item{bad}}, {Cut: []impl.Item{bad}}, {Left: []impl.Item{one, bad}, Right: some(2), Cut: some(1)},
			{Left: some(2), Right: []impl.Item{one, bad, one}}, {Left: some(2), Right: some(2), Cut: append(some(19), bad)}, {Left: some(1), Cut: append([]impl.Item{bad}, some(3)...)},
		} {
			checkWrong(t, e)
		}
	}
}

func TestItemsThatAreRefused(t *testing.T) {
	for _, from := range []string{"| |", ":sq =dup | =; | ~#1", "=r | |", "| ~#5 | =r"} {
		e := edOf(t, from)
		for _, bad := range noItems {
			checkPress(t, e, impl.Key{Op: impl.KPut, Item: bad}, e, false)
			for op := range 8 {
				checkPressByRows(t, e, impl.Key{Op: op, Item: bad})
			}
		}
		for _, op := range notKeys {
			checkPress(t, e, impl.Key{Op: op, Item: impl.Item{Kind: impl.IComp, Name: "dup"}}, e, false)
			checkPress(t, e, impl.Key{Op: op}, e, false)
		}
	}
}

func TestPressAllByHand(t *testing.T) {
	e := edOf(t, "| :sq =dup =* =; |")
	keys := []impl.Key{
		{Op: impl.KLeft}, {Op: impl.KRight}, {Op: impl.KRight}, {Op: impl.KCut}, {Op: impl.KEnd}, {Op: impl.KRight}, {Op: impl.KBack}, {Op: impl.KBack},
		{Op: impl.KColor, Item: impl.Item{Kind: impl.IExec}}, {Op: impl.KColor, Item: impl.Item{Kind: impl.IYel}}, {Op: 8}, {Op: impl.KHome},
		{Op: impl.KPut, Item: impl.Item{Kind: impl.IVar, Name: "x", N: 2}}, {Op: impl.KPut, Item: impl.Item{Kind: impl.IVar, Name: "x", N: 2}},
	}
	for count, row := range []struct {
		to      string
		refused int
	}{
		{"| :sq =dup =* =; |", 0}, {"| :sq =dup =* =; |", 1}, {":sq | =dup =* =; |", 1}, {":sq =dup | =* =; |", 1}, {":sq | =* =; | =dup", 1},
		{":sq =* =; | | =dup", 1}, {":sq =* =; | | =dup", 2}, {":sq =* =; =dup | |", 2}, {":sq =* =; =dup | |", 3}, {":sq =* =; ~dup | |", 3},
		{":sq =* =; ~dup | |", 4}, {":sq =* =; ~dup | |", 5}, {"| :sq =* =; ~dup |", 5}, {"&x#2 | :sq =* =; ~dup |", 5}, {"&x#2 &x#2 | :sq =* =; ~dup |", 5},
	} {
		if got, refused := checkAll(t, e, keys[:count]); !sameEd(got, edOf(t, row.to)) || refused != row.refused {
			t.Errorf("%d keys made %+v, %d", count, got, refused)
		}
	}
}
