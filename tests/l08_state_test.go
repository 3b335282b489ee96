package tests

import (
	"math"
	"slices"
	"strconv"
	"strings"
	"testing"

	"loop.example/g00711/impl"
)

// primNames are the built-in words by their numbers.
var primNames = []string{
	"dup", "drop", "over", "nip", "swap", "+", "-", "*", "and", "or", "2*", "2/",
	"/mod", "@", "!", "a", "a!", "emit", "key", "push", "pop", "i", ".", "nop",
}

// primNeeds are how many numbers each of them has to find on Data.
var primNeeds = map[string]int{
	"dup": 1, "drop": 1, "over": 2, "nip": 2, "swap": 2, "+": 2, "-": 1, "*": 2, "and": 2, "or": 2, "2*": 1, "2/": 1,
	"/mod": 2, "@": 1, "!": 2, "a": 0, "a!": 1, "emit": 1, "key": 0, "push": 1, "pop": 0, "i": 0, ".": 1, "nop": 0,
}

// notPrims are numbers of no built-in word.
var notPrims = []int{-1, -2, -23, -24, -25, 24, 25, 47, 48, 255, 256, 1 << 32, 1<<32 + 5, math.MaxInt, math.MinInt, math.MinInt + 5}

const (
	least32 = math.MinInt32
	most32  = math.MaxInt32
)

// someNumbers are numbers of 32 bits that are near what something turns at.
var someNumbers = []int32{
	0, 1, -1, 2, -2, 3, -3, 7, -7, 10, 31, 32, 33, 255, 256, -256, 1000, 1023, 1024, 1055, 1056, 32767, 32768, 46340, 46341, 65535, 65536, -65536,
	1<<24 + 1, 1 << 30, 1<<30 + 1, -1 << 30, least32, least32 + 1, least32 + 2, most32, most32 - 1, 123456789, -987654321, 0x55555555, -0x55555556,
}

func isRightSt(st impl.St) bool {
	for at, place := range st.Vars {
		if place < 0 || place >= len(st.Cells) || slices.Index(st.Vars, place) != at {
			return false
		}
	}
	for _, slot := range st.Ret {
		if slot.Kind != 0 && slot.Kind != 1 && slot.Kind != 2 {
			return false
		}
	}
	sizes := len(st.Data) <= 16 && len(st.Ret) <= 24 && len(st.Mem) == 32 && len(st.Vars) <= 20 && len(st.Out) <= 400 && len(st.In) <= 100
	return sizes && slices.Contains(rightSizes, len(st.Cells)) && st.Fault >= 0 && st.Fault <= 13 && st.Fuel >= 0 && st.Fuel <= 4000
}

func sameSt(one, other impl.St) bool {
	stacks := slices.Equal(one.Data, other.Data) && slices.Equal(one.Ret, other.Ret) && one.A == other.A
	memory := slices.Equal(one.Mem, other.Mem) && slices.Equal(one.Cells, other.Cells) && slices.Equal(one.Vars, other.Vars)
	texts := slices.Equal(one.Out, other.Out) && slices.Equal(one.In, other.In)
	return stacks && memory && texts && one.Fault == other.Fault && one.Fuel == other.Fuel
}

// copySt tells a state with lists of its own.
func copySt(st impl.St) impl.St {
	st.Data, st.Ret, st.Mem = slices.Clone(st.Data), slices.Clone(st.Ret), slices.Clone(st.Mem)
	st.Cells, st.Vars = slices.Clone(st.Cells), slices.Clone(st.Vars)
	st.Out, st.In = slices.Clone(st.Out), slices.Clone(st.In)
	return st
}

// heldSt is a state that is an argument. In one that is packed lists of the same elements are parts of one, each with the next one as the room behind it.
type heldSt struct {
	numbers []held[int32]
	texts   []held[byte]
	ret     held[impl.Slot]
	cells   held[uint32]
	vars    held[int]
	st      impl.St
}

func holdSt(st impl.St, packed bool) heldSt {
	h := heldSt{ret: hold(st.Ret, impl.Slot{Kind: 7, N: 77}), cells: holdCells(st.Cells), vars: hold(st.Vars, 777), st: st}
	h.st.Ret, h.st.Cells, h.st.Vars = h.ret.list(), h.cells.list(), h.vars.list()
	if packed {
		numbers, texts := hold(slices.Concat(st.Data, st.Mem), 777), hold(slices.Concat(st.Out, st.In), 7)
		h.numbers, h.texts = []held[int32]{numbers}, []held[byte]{texts}
		h.st.Data, h.st.Mem = numbers.list()[:len(st.Data)], numbers.list()[len(st.Data):]
		h.st.Out, h.st.In = texts.list()[:len(st.Out)], texts.list()[len(st.Out):]
		return h
	}
	h.numbers, h.texts = []held[int32]{hold(st.Data, 777), hold(st.Mem, 777)}, []held[byte]{hold(st.Out, 7), hold(st.In, 7)}
	h.st.Data, h.st.Mem = h.numbers[0].list(), h.numbers[1].list()
	h.st.Out, h.st.In = h.texts[0].list(), h.texts[1].list()
	return h
}

// wipe holds a state against what it was, and writes over its lists.
func (h heldSt) wipe(t *testing.T) {
	t.Helper()
	for _, list := range h.numbers {
		list.check(t)
		clear(list.all)
	}
	for _, list := range h.texts {
		list.check(t)
		clear(list.all)
	}
	h.ret.check(t)
	clear(h.ret.all)
	h.cells.check(t)
	clear(h.cells.all)
	h.vars.check(t)
	clear(h.vars.all)
}

// wipeList writes over a list and the room behind it.
func wipeList[E any](list *[]E, with E) {
	all := (*list)[:cap(*list)]
	for at := range all {
		all[at] = with
	}
	*list = nil
}

// checkOwnSt writes over one list of a state after the other, of which the others may see nothing.
func checkOwnSt(t *testing.T, st, want impl.St) {
	t.Helper()
	wipes := []func(st *impl.St){
		func(st *impl.St) { wipeList(&st.Data, 55) }, func(st *impl.St) { wipeList(&st.Mem, 56) }, func(st *impl.St) { wipeList(&st.Out, 57) },
		func(st *impl.St) { wipeList(&st.In, 58) }, func(st *impl.St) { wipeList(&st.Ret, impl.Slot{Kind: 5, N: 59}) },
		func(st *impl.St) { wipeList(&st.Cells, 60) }, func(st *impl.St) { wipeList(&st.Vars, 61) },
	}
	want = copySt(want)
	for _, wipe := range wipes {
		wipe(&st)
		wipe(&want)
		if !sameSt(st, want) {
			t.Fatalf("two lists of an answer are one: %+v is left of %+v", st, want)
		}
	}
}

// checkStep holds what a call makes of a state against what it should.
func checkStep(t *testing.T, what string, st impl.St, call func(st impl.St) impl.St, want impl.St) {
	t.Helper()
	for _, packed := range []bool{false, true} {
		argument := holdSt(st, packed)
		got := call(argument.st)
		argument.wipe(t)
		if !sameSt(got, want) {
			t.Fatalf("%s made %+v of %+v, want %+v", what, got, st, want)
		}
		checkOwnSt(t, got, want)
	}
}

// round tells a number as it is in 32 bits.
func round(n int64) int32 {
	n = (n%(1<<32) + 1<<32) % (1 << 32)
	if n > most32 {
		n -= 1 << 32
	}
	return int32(n)
}

// byBits tells the number of the bits that both have, or that just one has.
func byBits(x, y int32, both bool) int32 {
	var sum int64
	for at := range 32 {
		one, other := int64(uint32(x))>>at%2 == 1, int64(uint32(y))>>at%2 == 1
		if both && one && other || !both && one != other {
			sum += 1 << at
		}
	}
	return round(sum)
}

// quotientByRows divides without signs.
func quotientByRows(x, y int32) (rest, quotient int32) {
	size := func(n int32) int64 { return max(int64(n), -int64(n)) }
	r, q := size(x)%size(y), size(x)/size(y)
	if x < 0 {
		r = -r
	}
	if (x < 0) != (y < 0) {
		q = -q
	}
	return round(r), round(q)
}

// atByRows tells what stands at an address, and the list and the place of it that it is; nil where it is none.
func atByRows(st impl.St, address int32) (int32, string) {
	for place, n := range st.Mem {
		if int(address) == place {
			return n, "mem"
		}
	}
	for place, cell := range st.Cells {
		if int(address) == 1024+place {
			if slices.Contains(st.Vars, place) {
				return round(int64(cell)), "var"
			}
			return round(int64(cell)), "cell"
		}
	}
	return 0, ""
}

// numbersByRows tells what a word that looks at nothing but its numbers puts in their place, and its fault.
func numbersByRows(name string, x, y int32) ([]int32, int, bool) {
	wide, other := int64(x), int64(y)
	switch name {
	case "dup":
		return []int32{y, y}, 0, true
	case "drop", "nop":
		return nil, 0, true
	case "over":
		return []int32{x, y, x}, 0, true
	case "nip":
		return []int32{y}, 0, true
	case "swap":
		return []int32{y, x}, 0, true
	case "+":
		return []int32{round(wide + other)}, 0, true
	case "-":
		return []int32{round(-other - 1)}, 0, true
	case "*":
		return []int32{round(wide * other)}, 0, true
	case "and", "or":
		return []int32{byBits(x, y, name == "and")}, 0, true
	case "2*":
		return []int32{round(other + other)}, 0, true
	case "2/":
		return []int32{round(int64(math.Floor(float64(other) / 2)))}, 0, true
	case "/mod":
		if y == 0 {
			return nil, impl.FlDiv, true
		}
		rest, quotient := quotientByRows(x, y)
		return []int32{rest, quotient}, 0, true
	}
	return nil, 0, false
}

// storeByRows tells a state with x at an address.
func storeByRows(st impl.St, x, address int32) (impl.St, int) {
	switch _, where := atByRows(st, address); where {
	case "mem":
		st.Mem[address] = x
	case "var":
		st.Cells[address-1024] = uint32(int64(x) & 0xffffffff)
	default:
		return st, impl.FlAddr
	}
	return st, 0
}

// slotByRows tells what pop and i tell.
func slotByRows(st impl.St, out bool) (impl.St, []int32, int) {
	if len(st.Ret) == 0 {
		return st, nil, impl.FlRet
	}
	top := st.Ret[len(st.Ret)-1]
	if top.Kind == 2 || top.Kind == 1 && out {
		return st, nil, impl.FlMix
	}
	if out {
		st.Ret = st.Ret[:len(st.Ret)-1]
	}
	return st, []int32{top.N}, 0
}

// wordByRows tells a state from which x and y were taken behind a word, what that tells, and its fault.
func wordByRows(st impl.St, name string, x, y int32) (impl.St, []int32, int) {
	if told, fault, ok := numbersByRows(name, x, y); ok {
		return st, told, fault
	}
	var told []int32
	fault := 0
	switch name {
	case "@":
		n, where := atByRows(st, y)
		if where == "" {
			fault = impl.FlAddr
		}
		told = []int32{n}
	case "!":
		st, fault = storeByRows(st, x, y)
	case "a":
		told = []int32{st.A}
	case "a!":
		st.A = y
	case "emit", ".":
		text := strconv.Itoa(int(y)) + " "
		if name == "emit" {
			text = string([]byte{byte((int64(y)%256 + 256) % 256)})
		}
		if len(st.Out)+len(text) > 400 {
			fault = impl.FlOut
		}
		st.Out = append(st.Out, text...)
	case "key":
		told = []int32{-1}
		if len(st.In) > 0 {
			told, st.In = []int32{int32(st.In[0])}, st.In[1:]
		}
	case "push":
		if len(st.Ret) >= 24 {
			fault = impl.FlRet
		}
		st.Ret = append(st.Ret, impl.Slot{Kind: 0, N: y})
	case "pop", "i":
		st, told, fault = slotByRows(st, name == "pop")
	}
	return st, told, fault
}

// doByRows tells what Do should tell.
func doByRows(st impl.St, k int) impl.St {
	if !isRightSt(st) {
		return impl.St{}
	}
	if st.Fault != 0 {
		return st
	}
	was := st
	if k < 0 || k >= len(primNames) {
		was.Fault = impl.FlWord
		return was
	}
	name := primNames[k]
	need := primNeeds[name]
	if len(st.Data) < need {
		was.Fault = impl.FlStack
		return was
	}
	st = copySt(st)
	deeper, taken := st.Data[:len(st.Data)-need], append([]int32{0, 0}, st.Data[len(st.Data)-need:]...)
	next, told, fault := wordByRows(st, name, taken[len(taken)-2], taken[len(taken)-1])
	next.Data = slices.Concat(deeper, told)
	if fault == 0 && len(next.Data) > 16 {
		fault = impl.FlStack
	}
	if fault != 0 {
		was.Fault = fault
		return was
	}
	return next
}

func pushByRows(st impl.St, n int32) impl.St {
	switch {
	case !isRightSt(st):
		return impl.St{}
	case st.Fault == 0 && len(st.Data) == 16:
		st.Fault = impl.FlStack
	case st.Fault == 0:
		st.Data = append(slices.Clone(st.Data), n)
	}
	return st
}

// checkDo holds what a word makes of a state against the rows.
func checkDo(t *testing.T, st impl.St, k int) impl.St {
	t.Helper()
	want := doByRows(st, k)
	checkStep(t, "the word "+strconv.Itoa(k), st, func(st impl.St) impl.St { return impl.Do(st, k) }, want)
	return want
}

func checkPush(t *testing.T, st impl.St, n int32) impl.St {
	t.Helper()
	want := pushByRows(st, n)
	checkStep(t, "PushN of "+strconv.Itoa(int(n)), st, func(st impl.St) impl.St { return impl.PushN(st, n) }, want)
	return want
}

// primOf is a built-in word's number by the rows.
func primOf(name string) int { return slices.Index(primNames, name) }

// stOn is a right state with these numbers on Data; its cells are those of a block, and two of them are in Vars.
func stOn(data ...int32) impl.St {
	m := mixer(8)
	st := impl.St{Data: data, A: 31, Mem: make([]int32, 32), Cells: mixedCells(&m, 128), Vars: []int{5, 127, 0}, In: []byte("Azs"), Out: []byte("so "), Fuel: 70}
	for at := range st.Mem {
		st.Mem[at] = int32(1000 + at)
	}
	st.Ret = []impl.Slot{{Kind: impl.SlBack, N: 4}, {Kind: impl.SlCount, N: 5}, {Kind: impl.SlData, N: 6}}
	return st
}

// checkData holds what a word leaves on Data, by hand; all else is as it was where that is told by a change.
func checkData(t *testing.T, st impl.St, name string, data []int32, change func(st *impl.St)) {
	t.Helper()
	want := copySt(st)
	want.Data = data
	if change != nil {
		change(&want)
	}
	checkStep(t, name, st, func(st impl.St) impl.St { return impl.Do(st, primOf(name)) }, want)
	checkDo(t, st, primOf(name))
}

func checkFault(t *testing.T, st impl.St, name string, fault int) {
	t.Helper()
	checkData(t, st, name, st.Data, func(st *impl.St) { st.Fault = fault })
}

func TestNumbersOfStates(t *testing.T) {
	limits := []int{impl.MaxData, impl.MaxRet, impl.MemCells, impl.MaxOut, impl.MaxIn, impl.MaxFuel, impl.MaxVars, impl.StoreAt}
	if !slices.Equal(limits, []int{16, 24, 32, 400, 100, 4000, 20, 1024}) {
		t.Error("limits", limits)
	}
	if slots := []int{impl.SlData, impl.SlCount, impl.SlBack}; !slices.Equal(slots, []int{0, 1, 2}) {
		t.Error("slots", slots)
	}
	faults := []int{
		impl.FlNone, impl.FlWord, impl.FlStack, impl.FlRet, impl.FlAddr, impl.FlDiv, impl.FlFuel,
		impl.FlDepth, impl.FlFull, impl.FlShape, impl.FlEnd, impl.FlMix, impl.FlBlock, impl.FlOut,
	}
	if !slices.Equal(faults, []int{0, 1, 2, 3, 4, 5, 6, 7, 8, 9, 10, 11, 12, 13}) {
		t.Error("faults", faults)
	}
}

func TestPrimNames(t *testing.T) {
	if len(primNames) != 24 {
		t.Fatal("names", len(primNames))
	}
	for k, name := range primNames {
		if got := impl.PrimName(k); got != name {
			t.Errorf("PrimName(%d) = %q", k, got)
		}
		held := holdText(name)
		got := impl.PrimOf(held.text())
		held.wipe(t)
		if got != k {
			t.Errorf("PrimOf(%q) = %d", name, got)
		}
	}
	for _, k := range notPrims {
		if got := impl.PrimName(k); got != "" {
			t.Errorf("PrimName(%d) = %q", k, got)
		}
	}
	for _, name := range []string{"", " ", "if", "-if", "then", ";", "load", "mod", "/", "/mo", "/mod ", "/modd", " /mod", "du", "dupe", "DUP", "Dup", "2", "2*2", "2 *", "a ", "aa", "@@", "..", "nop;", "\x00", "dup\x00", strings.Repeat("dup", 3000)} {
		if got := impl.PrimOf(name); got != -1 {
			t.Errorf("PrimOf(%.20q) = %d", name, got)
		}
	}
	eachText("dupro+-*/2!@a.i", 3, func(s string) {
		if impl.PrimOf(s) != primOf(s) {
			t.Errorf("PrimOf(%q) = %d", s, impl.PrimOf(s))
		}
	})
}

func TestWordsOfNumbers(t *testing.T) {
	rows := []struct {
		name     string
		has, are []int32
	}{
		{"dup", []int32{7}, []int32{7, 7}}, {"drop", []int32{7}, nil}, {"over", []int32{7, 8}, []int32{7, 8, 7}}, {"nip", []int32{7, 8}, []int32{8}},
		{"swap", []int32{7, 8}, []int32{8, 7}}, {"nop", nil, nil}, {"nop", []int32{7}, []int32{7}},
		{"+", []int32{7, 8}, []int32{15}}, {"+", []int32{-7, 5}, []int32{-2}}, {"+", []int32{most32, 1}, []int32{least32}}, {"+", []int32{least32, -1}, []int32{most32}},
		{"+", []int32{least32, least32}, []int32{0}}, {"+", []int32{most32, most32}, []int32{-2}}, {"+", []int32{most32, least32}, []int32{-1}},
		{"-", []int32{0}, []int32{-1}}, {"-", []int32{5}, []int32{-6}}, {"-", []int32{-1}, []int32{0}}, {"-", []int32{most32}, []int32{least32}}, {"-", []int32{least32}, []int32{most32}},
		{"*", []int32{7, 8}, []int32{56}}, {"*", []int32{-7, 8}, []int32{-56}}, {"*", []int32{65536, 65536}, []int32{0}}, {"*", []int32{65536, 32768}, []int32{least32}},
		{"*", []int32{most32, most32}, []int32{1}}, {"*", []int32{most32, 2}, []int32{-2}}, {"*", []int32{least32, -1}, []int32{least32}}, {"*", []int32{least32, least32}, []int32{0}}, {"*", []int32{46341, 46341}, []int32{-2147479015}},
		{"and", []int32{6, 3}, []int32{2}}, {"and", []int32{-1, 5}, []int32{5}}, {"and", []int32{least32, -2}, []int32{least32}}, {"and", []int32{least32, most32}, []int32{0}},
		{"or", []int32{6, 3}, []int32{5}}, {"or", []int32{-1, 5}, []int32{-6}}, {"or", []int32{least32, -2}, []int32{most32 - 1}}, {"or", []int32{least32, most32}, []int32{-1}}, {"or", []int32{9, 9}, []int32{0}},
		{"2*", []int32{5}, []int32{10}}, {"2*", []int32{-5}, []int32{-10}}, {"2*", []int32{1 << 30}, []int32{least32}}, {"2*", []int32{least32}, []int32{0}}, {"2*", []int32{most32}, []int32{-2}}, {"2*", []int32{least32 + 1}, []int32{2}},
		{"2/", []int32{5}, []int32{2}}, {"2/", []int32{4}, []int32{2}}, {"2/", []int32{1}, []int32{0}}, {"2/", []int32{0}, []int32{0}}, {"2/", []int32{-1}, []int32{-1}}, {"2/", []int32{-2}, []int32{-1}},
		{"2/", []int32{-3}, []int32{-2}}, {"2/", []int32{-5}, []int32{-3}}, {"2/", []int32{least32}, []int32{least32 / 2}}, {"2/", []int32{least32 + 1}, []int32{least32 / 2}}, {"2/", []int32{most32}, []int32{most32 / 2}},
		{"/mod", []int32{7, 2}, []int32{1, 3}}, {"/mod", []int32{-7, 2}, []int32{-1, -3}}, {"/mod", []int32{7, -2}, []int32{1, -3}}, {"/mod", []int32{-7, -2}, []int32{-1, 3}}, {"/mod", []int32{2, 7}, []int32{2, 0}},
		{"/mod", []int32{-2, 7}, []int32{-2, 0}}, {"/mod", []int32{0, -7}, []int32{0, 0}}, {"/mod", []int32{8, 2}, []int32{0, 4}}, {"/mod", []int32{-8, 2}, []int32{0, -4}}, {"/mod", []int32{least32, -1}, []int32{0, least32}},
		{"/mod", []int32{least32, 1}, []int32{0, least32}}, {"/mod", []int32{least32, least32}, []int32{0, 1}}, {"/mod", []int32{most32, least32}, []int32{most32, 0}}, {"/mod", []int32{least32, most32}, []int32{-1, -1}}, {"/mod", []int32{most32, -1}, []int32{0, -most32}},
	}
	for _, row := range rows {
		for _, deeper := range [][]int32{nil, {5}, {-3, 0, most32, least32}, {1, 2, 3, 4, 5, 6, 7, 8, 9, 10, 11, 12, 13}} {
			checkData(t, stOn(slices.Concat(deeper, row.has)...), row.name, slices.Concat(deeper, row.are), nil)
		}
	}
	for _, x := range []int32{0, 1, -1, 7, most32, least32} {
		checkFault(t, stOn(x, 0), "/mod", impl.FlDiv)
		checkFault(t, stOn(1, 2, 3, x, 0), "/mod", impl.FlDiv)
	}
}

func TestAnyTwoNumbers(t *testing.T) {
	m := mixer(81)
	list := slices.Clone(someNumbers)
	for range 15 {
		list = append(list, int32(m.below(1<<32)))
	}
	words := []string{"+", "-", "*", "and", "or", "2*", "2/", "/mod", "over", "swap", "nip", "dup", "."}
	st := impl.NewSt(impl.NewStore(0), nil, 5)
	for _, x := range list {
		for _, y := range list {
			st.Data = []int32{9, x, y}
			for _, name := range words {
				if got, want := impl.Do(st, primOf(name)), doByRows(st, primOf(name)); !sameSt(got, want) {
					t.Fatalf("%d %d %s made %+v, want %+v", x, y, name, got, want)
				}
			}
		}
	}
}

func TestFetch(t *testing.T) {
	st := stOn()
	st.Cells[0], st.Cells[1], st.Cells[5], st.Cells[127] = 0xffffffff, 0x80000000, 0x7fffffff, 0xfffffffe
	rows := map[int32]int32{0: 1000, 1: 1001, 17: 1017, 31: 1031, 1024: -1, 1025: least32, 1029: most32, 1024 + 127: -2, 1024 + 64: int32(st.Cells[64])}
	for address, n := range rows {
		st.Data = []int32{9, address}
		checkData(t, st, "@", []int32{9, n}, nil)
	}
	for _, address := range []int32{-1, -2, -32, -1024, 32, 33, 63, 64, 127, 512, 1022, 1023, 1024 + 128, 1024 + 129, 2048, 65536, 1 << 24, most32, most32 - 1, least32, least32 + 1, least32 + 1024} {
		st.Data = []int32{9, address}
		checkFault(t, st, "@", impl.FlAddr)
	}
	for address := int32(-1100); address < 2500; address++ {
		st.Data = []int32{address}
		if got, want := impl.Do(st, primOf("@")), doByRows(st, primOf("@")); !sameSt(got, want) {
			t.Fatalf("%d @ made %+v, want %+v", address, got, want)
		}
	}
}

func TestStore(t *testing.T) {
	for _, address := range []int32{0, 1, 17, 31} {
		checkData(t, stOn(9, -7, address), "!", []int32{9}, func(st *impl.St) { st.Mem[address] = -7 })
	}
	for _, place := range []int{5, 127, 0} {
		for _, n := range []int32{0, 7, -1, most32, least32} {
			checkData(t, stOn(9, n, int32(1024+place)), "!", []int32{9}, func(st *impl.St) { st.Cells[place] = uint32(n) })
		}
	}
	for _, address := range []int32{-1, -5, 32, 33, 1023, 1025, 1024 + 4, 1024 + 6, 1024 + 126, 1024 + 128, 1024 + 133, most32, least32, least32 + 5, 5 - 1024} {
		checkFault(t, stOn(9, 7, address), "!", impl.FlAddr)
	}
	st := stOn(9, 7, 1024)
	st.Vars = nil
	checkFault(t, st, "!", impl.FlAddr)
	st.Cells = nil
	checkFault(t, st, "!", impl.FlAddr)
	st.Data = []int32{1024}
	checkFault(t, st, "@", impl.FlAddr)
	for address := int32(-1100); address < 2500; address++ {
		st := stOn(5, -6, address)
		next := impl.Do(st, primOf("!"))
		if want := doByRows(st, primOf("!")); !sameSt(next, want) {
			t.Fatalf("! at %d made %+v, want %+v", address, next, want)
		}
		next.Data = []int32{address}
		if next.Fault == 0 && !slices.Equal(impl.Do(next, primOf("@")).Data, []int32{-6}) {
			t.Fatalf("what was stored at %d isn't fetched from there", address)
		}
	}
}

func TestRegister(t *testing.T) {
	for _, n := range someNumbers {
		st := stOn(4, n)
		checkData(t, st, "a!", []int32{4}, func(st *impl.St) { st.A = n })
		st.A = n
		checkData(t, st, "a", []int32{4, n, n}, nil)
	}
}

func TestBytesOut(t *testing.T) {
	for n := int32(-600); n < 600; n++ {
		checkDo(t, stOn(n), primOf("emit"))
	}
	rows := map[int32]byte{65: 'A', 0: 0, 10: 10, 255: 255, 256: 0, 321: 'A', -1: 255, -191: 'A', least32: 0, most32: 255, least32 + 65: 'A'}
	for n, sign := range rows {
		checkData(t, stOn(4, n), "emit", []int32{4}, func(st *impl.St) { st.Out = append(st.Out, sign) })
	}
	texts := map[int32]string{0: "0 ", 5: "5 ", -5: "-5 ", 10: "10 ", most32: "2147483647 ", least32: "-2147483648 "}
	for n, text := range texts {
		checkData(t, stOn(4, n), ".", []int32{4}, func(st *impl.St) { st.Out = append(st.Out, text...) })
		for size := range 16 {
			st := stOn(4, n)
			st.Out = []byte(strings.Repeat("x", 400-size))
			if size < len(text) {
				checkFault(t, st, ".", impl.FlOut)
				continue
			}
			checkData(t, st, ".", []int32{4}, func(st *impl.St) { st.Out = append(st.Out, text...) })
		}
	}
	st := stOn(4, 65)
	st.Out = make([]byte, 399)
	checkData(t, st, "emit", []int32{4}, func(st *impl.St) { st.Out = append(st.Out, 'A') })
	st.Out = make([]byte, 400)
	checkFault(t, st, "emit", impl.FlOut)
	checkFault(t, st, ".", impl.FlOut)
}

func TestBytesIn(t *testing.T) {
	st := stOn(4)
	checkData(t, st, "key", []int32{4, 'A'}, func(st *impl.St) { st.In = []byte("zs") })
	st.In = nil
	checkData(t, st, "key", []int32{4, -1}, nil)
	for sign := range 256 {
		st.In = []byte{byte(sign)}
		checkData(t, st, "key", []int32{4, int32(sign)}, func(st *impl.St) { st.In = nil })
	}
	st = impl.NewSt(impl.NewStore(0), []byte("ab\x00\xff"), 3)
	for range 6 {
		st = checkDo(t, st, primOf("key"))
	}
	if !slices.Equal(st.Data, []int32{'a', 'b', 0, 255, -1, -1}) {
		t.Error("keys", st.Data)
	}
}

func TestSlots(t *testing.T) {
	slot := func(kind int, n int32) impl.Slot { return impl.Slot{Kind: kind, N: n} }
	checkData(t, stOn(4, -8), "push", []int32{4}, func(st *impl.St) { st.Ret = append(st.Ret, slot(impl.SlData, -8)) })
	checkData(t, stOn(4), "pop", []int32{4, 6}, func(st *impl.St) { st.Ret = st.Ret[:2] })
	checkData(t, stOn(4), "i", []int32{4, 6}, nil)
	st := stOn(4)
	st.Ret = st.Ret[:2]
	checkFault(t, st, "pop", impl.FlMix)
	checkData(t, st, "i", []int32{4, 5}, nil)
	st.Ret = st.Ret[:1]
	checkFault(t, st, "pop", impl.FlMix)
	checkFault(t, st, "i", impl.FlMix)
	st.Ret = nil
	checkFault(t, st, "pop", impl.FlRet)
	checkFault(t, st, "i", impl.FlRet)
	checkData(t, st, "push", nil, func(st *impl.St) { st.Ret = []impl.Slot{slot(impl.SlData, 4)} })
	for kind := range 3 {
		st := stOn(4)
		st.Ret = slices.Repeat([]impl.Slot{slot(kind, 3)}, 23)
		checkData(t, st, "push", nil, func(st *impl.St) { st.Ret = append(st.Ret, slot(impl.SlData, 4)) })
		st.Ret = append(st.Ret, slot(kind, 3))
		checkFault(t, st, "push", impl.FlRet)
	}
}

// fullData are as many numbers as Data may have.
func fullData() []int32 {
	var data []int32
	for at := range int32(16) {
		data = append(data, 20-at)
	}
	return data
}

func TestDataThatIsFull(t *testing.T) {
	adds := []string{"dup", "over", "a", "key", "pop", "i"}
	for _, name := range adds {
		st := stOn(fullData()...)
		checkFault(t, st, name, impl.FlStack)
		st.Data = st.Data[:15]
		if next := checkDo(t, st, primOf(name)); len(next.Data) != 16 || next.Fault != 0 {
			t.Fatalf("%s became %+v", name, next)
		}
	}
	for k, name := range primNames {
		next := checkDo(t, stOn(fullData()...), k)
		if (next.Fault == impl.FlStack) != slices.Contains(adds, name) {
			t.Errorf("%s with all numbers told %d", name, next.Fault)
		}
	}
	st := stOn(fullData()...)
	for _, n := range []int32{0, 1, -1, most32, least32} {
		if next := checkPush(t, st, n); next.Fault != impl.FlStack || !slices.Equal(next.Data, fullData()) {
			t.Errorf("PushN of %d with all numbers: %+v", n, next)
		}
	}
	st.Data = st.Data[:15]
	if next := checkPush(t, st, -4); next.Fault != 0 || !slices.Equal(next.Data, append(fullData()[:15], -4)) {
		t.Errorf("PushN of the last number: %+v", next)
	}
}

func TestTooFewNumbers(t *testing.T) {
	for k, name := range primNames {
		for has := range 4 {
			st := stOn([]int32{0, 0, 0}[:min(has, 3)]...)
			next := checkDo(t, st, k)
			if has < primNeeds[name] && (next.Fault != impl.FlStack || len(next.Data) != has) {
				t.Errorf("%s on %d numbers: %+v", name, has, next)
			}
			if has >= primNeeds[name] && next.Fault == impl.FlStack {
				t.Errorf("%s on %d numbers: %+v", name, has, next)
			}
		}
	}
}

// TestFirstFault holds which fault is told where several could be.
func TestFirstFault(t *testing.T) {
	full := stOn(fullData()...)
	full.Ret = nil
	checkFault(t, full, "pop", impl.FlRet)
	checkFault(t, full, "i", impl.FlRet)
	full.Ret = []impl.Slot{{Kind: impl.SlCount, N: 2}}
	checkFault(t, full, "pop", impl.FlMix)
	checkFault(t, full, "i", impl.FlStack)
	full.Ret[0].Kind = impl.SlBack
	checkFault(t, full, "pop", impl.FlMix)
	checkFault(t, full, "i", impl.FlMix)
	full.Ret[0].Kind = impl.SlData
	checkFault(t, full, "pop", impl.FlStack)
	few := stOn(0)
	few.Ret = slices.Repeat([]impl.Slot{{}}, 24)
	few.Out = make([]byte, 400)
	checkFault(t, few, "/mod", impl.FlStack)
	few.Data[0] = -1
	checkFault(t, few, "!", impl.FlStack)
	few.Data = nil
	for _, name := range []string{"@", "push", "emit", "."} {
		checkFault(t, few, name, impl.FlStack)
	}
	for _, k := range notPrims {
		for _, data := range [][]int32{nil, {1, 2, 3}, fullData()} {
			st := stOn(data...)
			if next := checkDo(t, st, k); next.Fault != impl.FlWord || !slices.Equal(next.Data, data) {
				t.Errorf("the word %d became %+v", k, next)
			}
		}
	}
}

func TestWordsTwice(t *testing.T) {
	do := func(st impl.St, names ...string) impl.St {
		for _, name := range names {
			st = impl.Do(st, impl.PrimOf(name))
		}
		return st
	}
	for _, x := range someNumbers {
		for _, y := range someNumbers {
			st := stOn(1, x, y)
			for _, names := range [][]string{{"-", "-"}, {"swap", "swap"}, {"push", "pop"}, {"dup", "drop"}, {"over", "drop"}, {"over", "over", "or", "drop"}, {"a", "drop"}, {"swap", "push", "dup", "drop", "pop", "swap"}, {"nop"}} {
				if next := do(st, names...); !sameSt(next, st) {
					t.Fatalf("%v on %v left %+v", names, st.Data, next)
				}
			}
			if next := do(st, "a!", "a"); !slices.Equal(next.Data, st.Data) || next.A != y {
				t.Fatalf("a! and a left %+v", next)
			}
			if next := do(st, "over", "over", "/mod", "push", "swap", "pop", "*", "+"); y != 0 && !slices.Equal(next.Data, []int32{1, x, x}) {
				t.Fatalf("%d by %d, and back, is %v", x, y, next.Data)
			}
		}
	}
}

// mixedSt is any right state without a Fault, often one that is nearly full or empty.
func mixedSt(m *mixer) impl.St {
	size := func(most int) int {
		switch m.below(4) {
		case 0:
			return max(0, most-m.below(3))
		case 1:
			return min(most, m.below(3))
		}
		return m.below(most + 1)
	}
	number := func() int32 {
		switch m.below(5) {
		case 0:
			return int32(m.below(34)) - 1
		case 1:
			return int32(m.below(140)) + 1020
		case 2:
			return []int32{0, 1, -1, least32, most32}[m.below(5)]
		}
		return int32(m.below(1 << 32))
	}
	st := impl.St{A: number(), Cells: mixedCells(m, 64*m.below(3)), Fuel: size(4000)}
	for range size(16) {
		st.Data = append(st.Data, number())
	}
	for range size(24) {
		st.Ret = append(st.Ret, impl.Slot{Kind: m.below(3), N: number()})
	}
	for range 32 {
		st.Mem = append(st.Mem, number())
	}
	for range size(20) {
		if place := m.below(max(len(st.Cells), 1)); place < len(st.Cells) && !slices.Contains(st.Vars, place) {
			st.Vars = append(st.Vars, place)
		}
	}
	for range size(400) {
		st.Out = append(st.Out, byte(m.below(256)))
	}
	for range size(100) {
		st.In = append(st.In, byte(m.below(256)))
	}
	return st
}

// checkPromise holds promise 8: the deeper numbers are as they were, and no cell changes but one of Vars' places, by !.
func checkPromise(t *testing.T, st impl.St, k int) {
	t.Helper()
	next := impl.Do(st, k)
	deeper := max(0, len(st.Data)-primNeeds[primNames[k]])
	if len(next.Data) < deeper || !slices.Equal(next.Data[:deeper], st.Data[:deeper]) {
		t.Fatalf("%s changed deeper numbers: %v became %v", primNames[k], st.Data, next.Data)
	}
	if next.Fault != 0 && !slices.Equal(next.Data, st.Data) {
		t.Fatalf("%s with a fault changed numbers: %v became %v", primNames[k], st.Data, next.Data)
	}
	changed := 0
	for place, cell := range st.Cells {
		if next.Cells[place] == cell {
			continue
		}
		changed++
		if primNames[k] != "!" || !slices.Contains(st.Vars, place) {
			t.Fatalf("%s changed the cell %d", primNames[k], place)
		}
	}
	if changed > 1 || !impl.StOk(next) {
		t.Fatalf("%s changed %d cells, and told %+v", primNames[k], changed, next)
	}
}

func TestAnyState(t *testing.T) {
	m := mixer(82)
	for range 150 {
		st := mixedSt(&m)
		if !impl.StOk(st) {
			t.Fatalf("%+v isn't right", st)
		}
		checkPush(t, st, int32(m.below(1<<32)))
		for k := range primNames {
			checkDo(t, st, k)
			checkPromise(t, st, k)
		}
	}
	for range 60 {
		st := mixedSt(&m)
		for range 60 {
			next := checkDo(t, st, m.below(len(primNames)))
			if next.Fault == 0 {
				st = next
			}
		}
	}
}

// checkWrongSt holds that a state isn't right, and that nothing is made of it.
func checkWrongSt(t *testing.T, what string, st impl.St) {
	t.Helper()
	if isRightSt(st) {
		t.Fatalf("by the rows a state with %s is right", what)
	}
	checkStOk(t, st)
	for k := -1; k <= 24; k++ {
		checkStep(t, what, st, func(st impl.St) impl.St { return impl.Do(st, k) }, impl.St{})
	}
	checkStep(t, what, st, func(st impl.St) impl.St { return impl.PushN(st, 5) }, impl.St{})
}

func checkStOk(t *testing.T, st impl.St) {
	t.Helper()
	for _, packed := range []bool{false, true} {
		argument := holdSt(st, packed)
		ok := impl.StOk(argument.st)
		argument.wipe(t)
		if ok != isRightSt(st) {
			t.Fatalf("StOk(%+v) = %v", st, ok)
		}
	}
}

// wrongChanges are changes that make a state of stOn one that isn't right.
func wrongChanges() map[string]func(st *impl.St) {
	return map[string]func(st *impl.St){
		"a number too many":      func(st *impl.St) { st.Data = make([]int32, 17) },
		"far too many numbers":   func(st *impl.St) { st.Data = make([]int32, 1<<16) },
		"a slot too many":        func(st *impl.St) { st.Ret = make([]impl.Slot, 25) },
		"far too many slots":     func(st *impl.St) { st.Ret = make([]impl.Slot, 1<<16) },
		"a kind below 0":         func(st *impl.St) { st.Ret[1].Kind = -1 },
		"a kind above 2":         func(st *impl.St) { st.Ret[2].Kind = 3 },
		"a kind far below 0":     func(st *impl.St) { st.Ret[0].Kind = math.MinInt },
		"a kind that goes round": func(st *impl.St) { st.Ret[0].Kind = 1 << 32 },
		"no memory":              func(st *impl.St) { st.Mem = nil },
		"memory that is short":   func(st *impl.St) { st.Mem = st.Mem[:31] },
		"memory that is long":    func(st *impl.St) { st.Mem = append(st.Mem, 0) },
		"a place below 0":        func(st *impl.St) { st.Vars = []int{1, -1} },
		"a place behind":         func(st *impl.St) { st.Vars = []int{128} },
		"a place far behind":     func(st *impl.St) { st.Vars = []int{3, math.MaxInt} },
		"a place far below":      func(st *impl.St) { st.Vars = []int{math.MinInt, 3} },
		"a place twice":          func(st *impl.St) { st.Vars = []int{4, 5, 4} },
		"a place twice at once":  func(st *impl.St) { st.Vars = []int{0, 0} },
		"a place of no cells":    func(st *impl.St) { st.Cells, st.Vars = nil, []int{0} },
		"too many places":        func(st *impl.St) { st.Vars = places(21) },
		"far too many places":    func(st *impl.St) { st.Vars = places(128) },
		"a byte too many out":    func(st *impl.St) { st.Out = make([]byte, 401) },
		"a byte too many in":     func(st *impl.St) { st.In = make([]byte, 101) },
		"far too many bytes in":  func(st *impl.St) { st.In = make([]byte, 1<<16) },
		"a fault below 0":        func(st *impl.St) { st.Fault = -1 },
		"a fault above 13":       func(st *impl.St) { st.Fault = 14 },
		"a fault far below":      func(st *impl.St) { st.Fault = math.MinInt },
		"a fault far above":      func(st *impl.St) { st.Fault = math.MaxInt },
		"fuel below 0":           func(st *impl.St) { st.Fuel = -1 },
		"too much fuel":          func(st *impl.St) { st.Fuel = 4001 },
		"far too little fuel":    func(st *impl.St) { st.Fuel = math.MinInt },
		"far too much fuel":      func(st *impl.St) { st.Fuel = math.MaxInt },
		"nothing at all":         func(st *impl.St) { *st = impl.St{} },
	}
}

func TestStatesThatAreWrong(t *testing.T) {
	for what, change := range wrongChanges() {
		st := stOn(1, 2, 3)
		change(&st)
		checkWrongSt(t, what, st)
		if st.Fault == 0 {
			st.Fault = impl.FlEnd
			checkWrongSt(t, what+" and a fault", st)
		}
	}
	for _, size := range wrongSizes {
		if size > 2000 {
			continue
		}
		st := stOn(1, 2, 3)
		st.Vars, st.Cells = nil, make([]uint32, size)
		checkWrongSt(t, strconv.Itoa(size)+" cells", st)
	}
}

// places are so many places, the last one first.
func places(count int) []int {
	var list []int
	for at := range count {
		list = append(list, count-1-at)
	}
	return list
}

// TestStatesThatAreFull holds states at their limits, which are right.
func TestStatesThatAreFull(t *testing.T) {
	rows := []func(st *impl.St){
		func(st *impl.St) {},
		func(st *impl.St) { st.Data = fullData() },
		func(st *impl.St) { st.Data = nil },
		func(st *impl.St) { st.Ret = slices.Repeat([]impl.Slot{{Kind: 2, N: least32}}, 24) },
		func(st *impl.St) { st.Ret = nil },
		func(st *impl.St) { st.Vars = places(20) },
		func(st *impl.St) { st.Vars = []int{127, 0} },
		func(st *impl.St) { st.Vars = nil },
		func(st *impl.St) { st.Cells, st.Vars = nil, nil },
		func(st *impl.St) { st.Cells, st.Vars = make([]uint32, 768), []int{767} },
		func(st *impl.St) { st.Out = make([]byte, 400) },
		func(st *impl.St) { st.In = make([]byte, 100) },
		func(st *impl.St) { st.In, st.Out = nil, nil },
		func(st *impl.St) { st.Fuel = 0 },
		func(st *impl.St) { st.Fuel = 4000 },
		func(st *impl.St) { st.A = least32 },
	}
	for _, change := range rows {
		st := stOn(3, 2, 1)
		change(&st)
		if !impl.StOk(st) {
			t.Fatalf("%+v isn't right", st)
		}
		checkStOk(t, st)
		for k := range primNames {
			checkDo(t, st, k)
			checkPromise(t, st, k)
		}
		checkPush(t, st, 5)
	}
}

func TestStatesWithAFault(t *testing.T) {
	for fault := 1; fault <= 13; fault++ {
		for _, data := range [][]int32{nil, {1, 2, 3}, fullData()} {
			st := stOn(data...)
			st.Fault = fault
			checkStOk(t, st)
			for k := -1; k <= 24; k++ {
				checkStep(t, "a word", st, func(st impl.St) impl.St { return impl.Do(st, k) }, st)
			}
			checkStep(t, "PushN", st, func(st impl.St) impl.St { return impl.PushN(st, 9) }, st)
		}
	}
}

// checkNewSt holds a new state against what it should be.
func checkNewSt(t *testing.T, cells []uint32, in []byte, fuel int, isOne bool) {
	t.Helper()
	want := impl.St{}
	if isOne {
		want = impl.St{Mem: make([]int32, 32), Cells: slices.Clone(cells), In: slices.Clone(in), Fuel: fuel}
	}
	store, bytes := holdCells(cells), hold(in, 9)
	for range 2 {
		got := impl.NewSt(impl.Store{Cells: store.list()}, bytes.list(), fuel)
		if !sameSt(got, want) || impl.StOk(got) != isOne {
			t.Fatalf("NewSt of %d cells, %q and %d is %+v", len(cells), in, fuel, got)
		}
		checkOwnSt(t, got, want)
		store.check(t)
		bytes.check(t)
	}
	got := impl.NewSt(impl.Store{Cells: store.list()}, bytes.list(), fuel)
	clear(store.all)
	clear(bytes.all)
	if !sameSt(got, want) {
		t.Fatalf("NewSt of %d cells, %q and %d sees its arguments", len(cells), in, fuel)
	}
}

func TestNewSt(t *testing.T) {
	m := mixer(83)
	for _, size := range rightSizes {
		checkNewSt(t, mixedCells(&m, size), []byte("in"), 9, true)
	}
	for _, size := range wrongSizes {
		if size < 2000 {
			checkNewSt(t, mixedCells(&m, size), []byte("in"), 9, false)
		}
	}
	cells := mixedCells(&m, 64)
	for _, size := range []int{0, 1, 99, 100, 101, 102, 1000} {
		in := make([]byte, size)
		for at := range in {
			in[at] = byte(m.below(256))
		}
		checkNewSt(t, cells, in, 9, size <= 100)
	}
	for _, fuel := range []int{0, 1, 70, 3999, 4000} {
		checkNewSt(t, cells, nil, fuel, true)
	}
	for _, fuel := range []int{-1, -2, 4001, 4002, 1 << 32, 1<<32 + 5, math.MaxInt, math.MinInt, -4000} {
		checkNewSt(t, cells, nil, fuel, false)
	}
	checkNewSt(t, nil, nil, 0, true)
}
