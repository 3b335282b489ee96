package tests

import (
	"fmt"
	"slices"
	"strconv"
	"strings"
	"testing"

	"loop.example/g00711/impl"
)

// going is a state and the op that is next; it goes from op to op, without trees. Where those that were entered go on stands in backs.
type going struct {
	defs    []impl.Def
	st      impl.St
	def, at int
	backs   [][2]int
}

// enter takes no fuel.
func (g *going) enter(k int) {
	if len(g.st.Ret) >= 24 {
		g.st.Fault = impl.FlRet
		return
	}
	g.st.Ret = append(g.st.Ret, impl.Slot{Kind: 2})
	g.backs = append(g.backs, [2]int{g.def, g.at})
	g.def, g.at = k, 0
}

func (g *going) leave() {
	last := len(g.st.Ret) - 1
	if last < 0 || g.st.Ret[last].Kind != 2 {
		g.st.Fault = impl.FlMix
		return
	}
	g.st.Ret = g.st.Ret[:last]
	back := g.backs[len(g.backs)-1]
	g.backs = g.backs[:len(g.backs)-1]
	g.def, g.at = back[0], back[1]
}

// endOf tells the place of the op that ends the one at a place.
func endOf(body []impl.Op, from int) int {
	size := 1
	for !endsInOrder(body[from : from+size]) {
		size++
	}
	return from + size - 1
}

// beginOf tells the place of the op that the one at a place ends.
func beginOf(body []impl.Op, end int) int {
	from := end - 1
	for !endsInOrder(body[from : end+1]) {
		from--
	}
	return from
}

// fork goes on behind what ends an OIf or OUnless that isn't gone into.
func (g *going) fork(kind int) {
	if len(g.st.Data) == 0 {
		g.st.Fault = impl.FlStack
		return
	}
	top := g.st.Data[len(g.st.Data)-1]
	if goesIn := kind == 3 && top != 0 || kind == 4 && top < 0; !goesIn {
		g.at = endOf(g.defs[g.def].Body, g.at-1)
	}
}

func (g *going) begin() {
	last := len(g.st.Data) - 1
	switch {
	case last < 0:
		g.st.Fault = impl.FlStack
	case len(g.st.Ret) >= 24:
		g.st.Fault = impl.FlRet
	default:
		g.st.Ret = append(g.st.Ret, impl.Slot{Kind: 1, N: g.st.Data[last]})
		g.st.Data = g.st.Data[:last]
	}
}

func (g *going) next() {
	last := len(g.st.Ret) - 1
	switch {
	case last < 0:
		g.st.Fault = impl.FlRet
	case g.st.Ret[last].Kind != 1:
		g.st.Fault = impl.FlMix
	default:
		less := round(int64(g.st.Ret[last].N) - 1)
		g.st.Ret = g.st.Ret[:last]
		if less > 0 {
			g.st.Ret = append(g.st.Ret, impl.Slot{Kind: 1, N: less})
			g.at = beginOf(g.defs[g.def].Body, g.at-1) + 1
		}
	}
}

func (g *going) step() {
	for g.def < len(g.defs) && g.at == len(g.defs[g.def].Body) {
		g.def, g.at = g.def+1, 0
	}
	if g.def == len(g.defs) {
		g.st.Fault = impl.FlEnd
		return
	}
	op := g.defs[g.def].Body[g.at]
	g.at++
	switch {
	case op.Kind == 5:
		return
	case g.st.Fuel == 0:
		g.st.Fault = impl.FlFuel
		return
	}
	g.st.Fuel--
	switch op.Kind {
	case 0:
		g.st = pushByRows(g.st, op.N)
	case 1:
		g.st = doByRows(g.st, int(op.N))
	case 2:
		g.enter(int(op.N))
	case 3, 4:
		g.fork(op.Kind)
	case 6:
		g.begin()
	case 7:
		g.next()
	case 8:
		g.leave()
	}
}

// meansByRows tells what Means should tell.
func meansByRows(defs []impl.Def, k int, st impl.St) impl.St {
	if !isDefs(defs) || k < 0 || k >= len(defs) || !isRightSt(st) || st.Fault != 0 {
		return impl.St{}
	}
	g := going{defs: defs, st: copySt(st)}
	g.enter(k)
	for g.st.Fault == 0 && len(g.backs) > 0 {
		g.step()
	}
	return g.st
}

// checkMeans holds what a definition makes of a state against the rows.
func checkMeans(t *testing.T, defs []impl.Def, k int, st impl.St) impl.St {
	t.Helper()
	want := meansByRows(defs, k, st)
	packed := false
	call := func(st impl.St) impl.St {
		held := holdDefs(defs, packed)
		packed = !packed
		got := impl.Means(held.list(), k, st)
		held.wipe(t)
		return got
	}
	checkStep(t, "definition "+strconv.Itoa(k)+" of "+bodiesText(defs), st, call, want)
	return want
}

// bodiesText tells definitions in a fault of a test.
func bodiesText(defs []impl.Def) string {
	var texts []string
	for k := range defs {
		texts = append(texts, strconv.Quote(bodyTextByRows(defs, k)))
	}
	return strings.Join(texts, ", ")
}

// outcome tells in a fault of a test what a definition changes of a state.
func outcome(st impl.St) string {
	return fmt.Sprint("fault ", st.Fault, ", fuel ", st.Fuel, ", data ", st.Data, ", slots ", st.Ret, ", out ", strconv.Quote(string(st.Out)))
}

// withFuel is a state with another fuel.
func withFuel(st impl.St, fuel int) impl.St {
	st.Fuel = fuel
	return st
}

// checkFuel holds promise 10 of a state from which a definition has fuel enough: with more fuel it does the same and leaves more, and with just what it takes too; with one less it ends by that.
func checkFuel(t *testing.T, defs []impl.Def, k int, st impl.St) {
	t.Helper()
	end := impl.Means(defs, k, st)
	if end.Fault == impl.FlFuel {
		return
	}
	taken := st.Fuel - end.Fuel
	for _, fuel := range []int{taken, taken + 1, taken + 2, st.Fuel, st.Fuel + 1, st.Fuel + 100, 3999, 4000} {
		if fuel < taken || fuel > 4000 {
			continue
		}
		if other := impl.Means(defs, k, withFuel(st, fuel)); !sameSt(other, withFuel(end, fuel-taken)) {
			t.Fatalf("definition %d of %s made with fuel %d %s, and with fuel %d %s", k, bodiesText(defs), st.Fuel, outcome(end), fuel, outcome(other))
		}
	}
	for fuel := max(0, taken-3); fuel < taken; fuel++ {
		if other := impl.Means(defs, k, withFuel(st, fuel)); other.Fault != impl.FlFuel || other.Fuel != 0 {
			t.Fatalf("definition %d of %s takes %d, but made with fuel %d %s", k, bodiesText(defs), taken, fuel, outcome(other))
		}
	}
}

// defsOf are definitions with the bodies between the strokes.
func defsOf(t *testing.T, s string) []impl.Def {
	t.Helper()
	bodies := strings.Split(s, "|")
	return namedDefs(t, len(bodies), bodies...)
}

func numbersOf(t *testing.T, s string) []int32 {
	t.Helper()
	var list []int32
	for _, word := range strings.Fields(s) {
		n, err := strconv.ParseInt(word, 10, 32)
		if err != nil {
			t.Fatal(err)
		}
		list = append(list, int32(n))
	}
	return list
}

// slotsOf are slots that are written as d, c or b, and the N.
func slotsOf(t *testing.T, s string) []impl.Slot {
	t.Helper()
	var list []impl.Slot
	for _, word := range strings.Fields(s) {
		list = append(list, impl.Slot{Kind: strings.Index("dcb", word[:1]), N: numbersOf(t, word[1:])[0]})
	}
	return list
}

// meaning is a definition, the first one, of some, and what it makes of numbers on Data with some fuel: the fault, the fuel that is left, the numbers, the slots that are more than there were, and what is put out.
type meaning struct {
	defs       string
	has        string
	fuel       int
	fault      int
	left       int
	are, slots string
	out        string
}

// checkMeaning holds a meaning, from each fuel too that is less.
func checkMeaning(t *testing.T, row meaning) {
	t.Helper()
	defs := defsOf(t, row.defs)
	st := withFuel(stOn(numbersOf(t, row.has)...), row.fuel)
	want := copySt(st)
	want.Data, want.Ret = numbersOf(t, row.are), append(want.Ret, slotsOf(t, row.slots)...)
	want.Out = append(want.Out, row.out...)
	want.Fault, want.Fuel = row.fault, row.left
	if end := impl.Means(defs, 0, st); !sameSt(end, want) {
		t.Errorf("%q on %q with fuel %d left %s, want %s", row.defs, row.has, row.fuel, outcome(end), outcome(want))
	}
	checkFuel(t, defs, 0, st)
	for fuel := range min(row.fuel, 60) + 1 {
		checkMeans(t, defs, 0, withFuel(st, fuel))
	}
}

func checkMeanings(t *testing.T, rows []meaning) {
	t.Helper()
	for _, row := range rows {
		checkMeaning(t, row)
	}
}

func TestMeaningOfEachOp(t *testing.T) {
	checkMeanings(t, []meaning{
		{"7 ;", "", 50, 0, 48, "7", "", ""},
		{"-2147483648 2147483647 ;", "5", 50, 0, 47, "5 -2147483648 2147483647", "", ""},
		{"dup * ;", "5", 50, 0, 47, "25", "", ""},
		{"push nop pop ;", "5 6", 50, 0, 46, "5 6", "", ""},
		{". . ;", "5 -6", 50, 0, 47, "", "", "-6 5 "},
		{"#1 ; | 4 ;", "", 50, 0, 46, "4", "", ""},
		{"#1 #1 ; | #2 #2 ; | 2* ;", "3", 50, 0, 50 - 17, "48", "", ""},
		{";", "", 50, 0, 49, "", "", ""},
		{"; 5 drop", "", 50, 0, 49, "", "", ""},
		{"if 1 then 2 ;", "0", 50, 0, 47, "0 2", "", ""},
		{"if 1 then 2 ;", "3", 50, 0, 46, "3 1 2", "", ""},
		{"if 1 then 2 ;", "-3", 50, 0, 46, "-3 1 2", "", ""},
		{"if 1 then 2 ;", "-2147483648", 50, 0, 46, "-2147483648 1 2", "", ""},
		{"-if 1 then 2 ;", "0", 50, 0, 47, "0 2", "", ""},
		{"-if 1 then 2 ;", "3", 50, 0, 47, "3 2", "", ""},
		{"-if 1 then 2 ;", "2147483647", 50, 0, 47, "2147483647 2", "", ""},
		{"-if 1 then 2 ;", "-1", 50, 0, 46, "-1 1 2", "", ""},
		{"-if 1 then 2 ;", "-2147483648", 50, 0, 46, "-2147483648 1 2", "", ""},
		{"if then -if then ;", "-1", 50, 0, 47, "-1", "", ""},
		{"if ; then 5 ;", "1", 50, 0, 48, "1", "", ""},
		{"if ; then 5 ;", "0", 50, 0, 47, "0 5", "", ""},
		{"if if -if ; then 4 then 5 then 6 ;", "-1", 50, 0, 46, "-1", "", ""},
		{"if if -if ; then 4 then 5 then 6 ;", "1", 50, 0, 43, "1 4 5 6", "", ""},
		{"for i next ;", "3", 50, 0, 42, "3 2 1", "", ""},
		{"for i . next 9 ;", "7 2", 50, 0, 50 - 9, "7 9", "", "2 1 "},
		{"for i 1 + for i next next ;", "2", 50, 0, 50 - 1 - 5 - 6 - 5 - 4 - 1, "3 2 1 2 1", "", ""},
		{"for i -if drop then next ;", "3", 50, 0, 50 - 11, "3 2 1", "", ""},
	})
}

func TestMeaningOfCalls(t *testing.T) {
	checkMeanings(t, []meaning{
		{"for i #1 next ; | if -if ; then dup * ; then ;", "2", 50, 0, 50 - 1 - 2*8 - 1, "4 1", "", ""},
		{"-if #1 then ; | - 1 + ;", "-7", 50, 0, 43, "7", "", ""},
		{"-if #1 then ; | - 1 + ;", "7", 50, 0, 48, "7", "", ""},
		{"if -1 + #0 then ;", "4", 50, 0, 50 - 4*4 - 2 - 4, "0", "", ""},
		{"if dup . -1 + #1 then ; | if -1 + #0 then ;", "3", 50, 0, 50 - 6 - 4 - 6 - 2 - 3, "0", "", "3 1 "},
		{"for #1 next ; | 2 for next ;", "2", 50, 0, 50 - 1 - 2*7 - 1, "", "", ""},
		{"#0 ;", "", 10, impl.FlFuel, 0, "", "b0 b0 b0 b0 b0 b0 b0 b0 b0 b0 b0", ""},
		{"5 #0", "", 5, impl.FlFuel, 0, "5 5 5", "b0 b0 b0", ""},
		{"#0 ;", "", 50, impl.FlRet, 50 - 21, "", strings.Repeat("b0 ", 21), ""},
		{"4 drop #0 ;", "", 4000, impl.FlRet, 4000 - 3*21, "", strings.Repeat("b0 ", 21), ""},
	})
}

func TestMeaningOfFalls(t *testing.T) {
	checkMeanings(t, []meaning{
		{"1 | 2 | 3 ;", "", 50, 0, 46, "1 2 3", "", ""},
		{"1 | 2 ; | 3 ;", "", 50, 0, 47, "1 2", "", ""},
		{"#1 9 ; | 1 | 2 ;", "", 50, 0, 44, "1 2 9", "", ""},
		{"if ; then 1 | 2 ;", "0", 50, 0, 46, "0 1 2", "", ""},
		{"if ; then 1 | 2 ;", "8", 50, 0, 48, "8", "", ""},
		{"2 for #1 next ; | i drop | ;", "", 50, impl.FlMix, 46, "", "b0 c2 b0", ""},
		{"2 for #1 next ; | 7 | ;", "", 50, 0, 50 - 2 - 2*4 - 1, "7 7", "", ""},
		{"||;", "4", 50, 0, 49, "4", "", ""},
		{"#1 #2 ;|||4 ;", "", 50, 0, 43, "4 4", "", ""},
		{"", "4", 50, impl.FlEnd, 50, "4", "b0", ""},
		{"|||", "", 50, impl.FlEnd, 50, "", "b0", ""},
		{"1", "", 50, impl.FlEnd, 49, "1", "b0", ""},
		{"1 | 2", "", 50, impl.FlEnd, 48, "1 2", "b0", ""},
		{"#1 ; | 2", "", 50, impl.FlEnd, 48, "2", "b0 b0", ""},
		{"if 2 then", "3", 50, impl.FlEnd, 48, "3 2", "b0", ""},
		{"for i next", "2", 50, impl.FlEnd, 45, "2 1", "b0", ""},
		{"for #1 next ; | 4", "3", 50, impl.FlEnd, 47, "4", "b0 c3 b0", ""},
		{"for #1 next ; |", "3", 50, impl.FlEnd, 48, "", "b0 c3 b0", ""},
		{"push #1 ; | push | push", "3 4 5", 50, impl.FlEnd, 46, "", "b0 d5 b0 d4 d3", ""},
	})
	for k, want := range []string{"1 2 3", "2 3", "3"} {
		st := stOn()
		end := checkMeans(t, defsOf(t, "1 | 2 | 3 ;"), k, st)
		if !slices.Equal(end.Data, numbersOf(t, want)) || end.Fault != 0 || end.Fuel != 70-len(end.Data)-1 {
			t.Errorf("from definition %d on: %+v", k, end)
		}
	}
}

func TestMeaningOfCounts(t *testing.T) {
	checkMeanings(t, []meaning{
		{"for i next ;", "1", 50, 0, 46, "1", "", ""},
		{"for i next ;", "0", 50, 0, 46, "0", "", ""},
		{"for i next ;", "-1", 50, 0, 46, "-1", "", ""},
		{"for i next ;", "-2147483647", 50, 0, 46, "-2147483647", "", ""},
		{"for next ;", "1", 50, 0, 47, "", "", ""},
		{"for next ;", "0", 50, 0, 47, "", "", ""},
		{"for next ;", "5", 50, 0, 43, "", "", ""},
		{"for i next ;", "-2147483648", 4, impl.FlFuel, 0, "-2147483648 2147483647", "b0 c2147483647", ""},
		{"for i next ;", "-2147483648", 7, impl.FlFuel, 0, "-2147483648 2147483647 2147483646", "b0 c2147483645", ""},
		{"for i . next ;", "-2147483648", 9, impl.FlFuel, 0, "", "b0 c2147483646", "-2147483648 2147483647 2147483646 "},
		{"for next ;", "-2147483648", 4000, impl.FlFuel, 0, "", "b0 c2147479649", ""},
		{"for next ;", "2147483647", 4000, impl.FlFuel, 0, "", "b0 c2147479648", ""},
		{"for 1000 for next next ;", "1000", 4000, impl.FlFuel, 0, "", "b0 c997 c12", ""},
		{"for #1 next ; | 7 drop ;", "3999", 4000, impl.FlFuel, 0, "", "b0 c3200", ""},
		{"for next ;", "3998", 4000, 0, 0, "", "", ""},
		{"for next ;", "3999", 4000, impl.FlFuel, 0, "", "b0", ""},
		{"for next ;", "4000", 4000, impl.FlFuel, 0, "", "b0 c1", ""},
	})
}

// TestFuelThatEnds holds fuel that ends at each place, by hand; a state is as it was there.
func TestFuelThatEnds(t *testing.T) {
	checkMeanings(t, []meaning{
		{"5 ;", "", 0, impl.FlFuel, 0, "", "b0", ""},
		{"", "", 0, impl.FlEnd, 0, "", "b0", ""},
		{"|| 5 ;", "", 0, impl.FlFuel, 0, "", "b0", ""},
		{"5", "", 1, impl.FlEnd, 0, "5", "b0", ""},
		{"5 ;", "", 1, impl.FlFuel, 0, "5", "b0", ""},
		{"5 ;", "", 2, 0, 0, "5", "", ""},
		{"drop ;", "", 0, impl.FlFuel, 0, "", "b0", ""},
		{"drop ;", "", 1, impl.FlStack, 0, "", "b0", ""},
		{"if then ;", "", 0, impl.FlFuel, 0, "", "b0", ""},
		{"if then ;", "", 1, impl.FlStack, 0, "", "b0", ""},
		{"push ;", "5", 1, impl.FlFuel, 0, "", "b0 d5", ""},
		{"push ;", "5", 2, impl.FlMix, 0, "", "b0 d5", ""},
		{"#1 ; | 4 ;", "", 1, impl.FlFuel, 0, "", "b0 b0", ""},
		{"#1 ; | 4 ;", "", 2, impl.FlFuel, 0, "4", "b0 b0", ""},
		{"#1 ; | 4 ;", "", 3, impl.FlFuel, 0, "4", "b0", ""},
		{"#1 ; |", "", 1, impl.FlEnd, 0, "", "b0 b0", ""},
		{"if 1 then ;", "7", 1, impl.FlFuel, 0, "7", "b0", ""},
		{"if 1 then ;", "7", 2, impl.FlFuel, 0, "7 1", "b0", ""},
		{"if 1 then", "7", 2, impl.FlEnd, 0, "7 1", "b0", ""},
		{"for i next ;", "2", 0, impl.FlFuel, 0, "2", "b0", ""},
		{"for i next ;", "2", 1, impl.FlFuel, 0, "", "b0 c2", ""},
		{"for i next ;", "2", 2, impl.FlFuel, 0, "2", "b0 c2", ""},
		{"for i next ;", "2", 3, impl.FlFuel, 0, "2", "b0 c1", ""},
		{"for i next ;", "2", 4, impl.FlFuel, 0, "2 1", "b0 c1", ""},
		{"for i next ;", "2", 5, impl.FlFuel, 0, "2 1", "b0", ""},
		{"for i next ;", "2", 6, 0, 0, "2 1", "", ""},
		{"for i next", "2", 5, impl.FlEnd, 0, "2 1", "b0", ""},
		{"for push next ;", "7 2", 2, impl.FlFuel, 0, "", "b0 c2 d7", ""},
		{"for push next ;", "7 2", 3, impl.FlMix, 0, "", "b0 c2 d7", ""},
	})
}

func TestMeaningOfFaults(t *testing.T) {
	full := strings.TrimSpace(strings.Repeat("3 ", 16))
	checkMeanings(t, []meaning{
		{"if 1 then ;", "", 50, impl.FlStack, 49, "", "b0", ""},
		{"-if 1 then ;", "", 50, impl.FlStack, 49, "", "b0", ""},
		{"for 1 next ;", "", 50, impl.FlStack, 49, "", "b0", ""},
		{"drop if 1 then ;", "5", 50, impl.FlStack, 48, "", "b0", ""},
		{"dup + ;", "", 50, impl.FlStack, 49, "", "b0", ""},
		{"5 ;", full, 50, impl.FlStack, 49, full, "b0", ""},
		{"dup ;", full, 50, impl.FlStack, 49, full, "b0", ""},
		{"0 /mod ;", "5", 50, impl.FlDiv, 48, "5 0", "b0", ""},
		{"77 @ ;", "5", 50, impl.FlAddr, 48, "5 77", "b0", ""},
		{"6 1030 ! ;", "5", 50, impl.FlAddr, 47, "5 6 1030", "b0", ""},
		{"for ; next", "3", 50, impl.FlMix, 48, "", "b0 c3", ""},
		{"for if ; then next ;", "7 3", 50, impl.FlMix, 47, "7", "b0 c3", ""},
		{"for pop next ;", "3", 50, impl.FlMix, 48, "", "b0 c3", ""},
		{"for push next ;", "7 2", 50, impl.FlMix, 47, "", "b0 c2 d7", ""},
		{"for i push next ;", "2", 50, impl.FlMix, 46, "", "b0 c2 d2", ""},
		{"for i if push then next ;", "1", 50, impl.FlMix, 45, "", "b0 c1 d1", ""},
		{"push ;", "5", 50, impl.FlMix, 48, "", "b0 d5", ""},
		{"push #1 ; | pop ;", "5", 50, impl.FlMix, 47, "", "b0 d5 b0", ""},
		{"pop ;", "", 50, impl.FlMix, 49, "", "b0", ""},
		{"i ;", "", 50, impl.FlMix, 49, "", "b0", ""},
		{"for #1 next ; | i ;", "2", 50, impl.FlMix, 47, "", "b0 c2 b0", ""},
		{"for #1 next ; | push ;", "5 2", 50, impl.FlMix, 46, "", "b0 c2 b0 d5", ""},
		{"for for ; next next", "4 2", 50, impl.FlMix, 47, "", "b0 c2 c4", ""},
		{"drop #1 . ; | emit 6 0 /mod ;", "65 1", 50, impl.FlDiv, 44, "6 0", "b0 b0", "A"},
	})
}

// checkEnd holds what the first one of some definitions makes of a state, by hand; all else is as it was.
func checkEnd(t *testing.T, s string, st impl.St, change func(st *impl.St)) {
	t.Helper()
	want := copySt(st)
	change(&want)
	defs := defsOf(t, s)
	if end := checkMeans(t, defs, 0, st); !sameSt(end, want) {
		t.Errorf("%q left %+v, want %+v", s, end, want)
	}
	checkFuel(t, defs, 0, st)
}

// TestMeaningOfAllElse holds what a definition does to memory, cells, the register and bytes, with a fault behind it and without.
func TestMeaningOfAllElse(t *testing.T) {
	const does = "-7 5 ! -8 1151 ! 6 a! key . 66 emit a 5 @ 1151 @ "
	changed := func(fault, fuel int, data, slots string) func(st *impl.St) {
		return func(st *impl.St) {
			st.Mem[5], st.Cells[127], st.A = -7, 0xfffffff8, 6
			st.In, st.Out = []byte("zs"), []byte("so 65 B")
			st.Fault, st.Fuel = fault, st.Fuel-fuel
			st.Data, st.Ret = append(st.Data, numbersOf(t, data)...), append(st.Ret, slotsOf(t, slots)...)
		}
	}
	st := stOn(44)
	checkEnd(t, does+";", st, changed(0, 18, "6 -7 -8", ""))
	checkEnd(t, "#1 ; | "+does+";", st, changed(0, 20, "6 -7 -8", ""))
	checkEnd(t, does+"-1 @ ;", st, changed(impl.FlAddr, 19, "6 -7 -8 -1", "b0"))
	checkEnd(t, "#1 ; | "+does+"push ;", st, func(st *impl.St) {
		changed(impl.FlMix, 20, "6 -7", "b0 b0 d-8")(st)
	})
}

// slotsUpTo are as many slots, of all Kinds.
func slotsUpTo(count int) []impl.Slot {
	var list []impl.Slot
	for at := range count {
		list = append(list, impl.Slot{Kind: at % 3, N: int32(at)})
	}
	return list
}

// TestSlotsThatAreFull holds Ret with as many slots as there may be, and with fewer, where a definition is entered and where a loop begins.
func TestSlotsThatAreFull(t *testing.T) {
	rows := []struct {
		defs         string
		slots        int
		fault, taken int
		data, more   string
	}{
		{";", 24, impl.FlRet, 0, "9 2", ""},
		{"", 24, impl.FlRet, 0, "9 2", ""},
		{";", 23, 0, 1, "9 2", ""},
		{"", 23, impl.FlEnd, 0, "9 2", "b0"},
		{"#1 ; | 4 ;", 23, impl.FlRet, 1, "9 2", "b0"},
		{"#1 ; | 4 ;", 22, 0, 4, "9 2 4", ""},
		{"for i next ;", 23, impl.FlRet, 1, "9 2", "b0"},
		{"for i next ;", 22, 0, 6, "9 2 1", ""},
		{"drop drop for next ;", 23, impl.FlStack, 3, "", "b0"},
		{"push ;", 23, impl.FlRet, 1, "9 2", "b0"},
		{"push pop ;", 22, 0, 3, "9 2", ""},
		{"for #1 next ; | drop ;", 22, impl.FlRet, 2, "9", "b0 c2"},
		{"for #1 next ; | dup drop ;", 21, 0, 12, "9", ""},
		{"for #1 next ; | for next ;", 21, impl.FlRet, 3, "9", "b0 c2 b0"},
	}
	for _, row := range rows {
		st := stOn(9, 2)
		st.Ret = slotsUpTo(row.slots)
		checkEnd(t, row.defs, st, func(st *impl.St) {
			st.Data, st.Ret = numbersOf(t, row.data), append(st.Ret, slotsOf(t, row.more)...)
			st.Fault, st.Fuel = row.fault, st.Fuel-row.taken
		})
	}
}

// TestSlotsAhead holds slots that stood there ahead: none of them is taken for one of the definition's own.
func TestSlotsAhead(t *testing.T) {
	for _, ahead := range []string{"", "b0", "b9 b-1", "c5", "d5", "d5 c2 b3 c1", "c1 d1"} {
		for _, s := range []string{";", "5", "pop ;", "i ;", "push pop ;", "for next ;", "#1 ; | ;", "#1 ; | 4", "for #1 next ; | push pop ;", "for ; next", "for pop next ;", "", "push ;"} {
			st := stOn(3, 2)
			st.Ret = slotsOf(t, ahead)
			defs := defsOf(t, s)
			end := checkMeans(t, defs, 0, st)
			if !slices.Equal(end.Ret[:len(st.Ret)], st.Ret) || end.Fault == 0 && len(end.Ret) != len(st.Ret) {
				t.Errorf("%q changed the slots %q: %s", s, ahead, outcome(end))
			}
			checkFuel(t, defs, 0, st)
		}
	}
}

// TestDeepMeanings holds as many definitions as there may be, each of which calls the next one, and as many trees in one another as a body may have.
func TestDeepMeanings(t *testing.T) {
	var bodies []string
	for k := 1; k < 24; k++ {
		bodies = append(bodies, "#"+strconv.Itoa(k)+" "+strconv.Itoa(k)+" . ;")
	}
	chain := defsOf(t, strings.Join(append(bodies, "0 . ;"), "|"))
	for slots := range 4 {
		st := withFuel(stOn(), 200)
		st.Ret = slotsUpTo(slots)
		end := checkMeans(t, chain, 0, st)
		if slots == 0 && (end.Fault != 0 || end.Fuel != 200-23*4-3 || len(end.Out) != 3+2*10+3*14) {
			t.Errorf("a chain left %s", outcome(end))
		}
		if slots > 0 && (end.Fault != impl.FlRet || end.Fuel != 200-24+slots || len(end.Ret) != 24) {
			t.Errorf("a chain on %d slots left %s", slots, outcome(end))
		}
		for k := range 24 {
			checkMeans(t, chain, k, st)
			checkFuel(t, chain, k, st)
		}
	}
	for _, sign := range []string{"if", "-if", "for"} {
		for _, deep := range []int{1, 14, 15, 16, 20, 28, 29} {
			s := strings.Repeat(sign+" ", deep) + "dup drop " + strings.Repeat(endedBy[sign]+" ", deep)
			for _, data := range [][]int32{{-1}, {0}, {5}, fullData(), slices.Repeat([]int32{1}, 16), slices.Repeat([]int32{2}, 16)} {
				st := withFuel(stOn(data...), 4000)
				checkMeans(t, defsOf(t, s), 0, st)
				checkMeans(t, defsOf(t, "#1 7 ; |"+s+"|;"), 0, st)
				checkFuel(t, defsOf(t, "#1 7 ; |"+s+"|;"), 0, st)
			}
		}
	}
}

// TestShortMeanings holds all short bodies of some ops, ahead of a definition that is called and into which the first one falls.
func TestShortMeanings(t *testing.T) {
	words := map[byte]string{'1': "1", 'd': "drop", 'c': "#1", 'i': "if", 'u': "-if", 't': "then", 'f': "for", 'n': "next", 'x': ";", 'p': "push", 'o': "pop"}
	states := []impl.St{withFuel(stOn(), 30), withFuel(stOn(2, 0), 30), withFuel(stOn(0, 2), 9), withFuel(stOn(-1, 3, -1), 30)}
	seen := map[int]int{}
	eachText("1dciutfnxpo", 5, func(s string) {
		var body []impl.Op
		for at := range len(s) {
			body = append(body, opOf(t, words[s[at]]))
		}
		if !isShape(body) {
			return
		}
		for _, behind := range []string{";", "dup -if drop then", "i if ; then #0 ;"} {
			defs := []impl.Def{{Name: "a", Body: body}, {Name: "b", Body: bodyOf(t, behind)}}
			for _, st := range states {
				got, want := impl.Means(defs, 0, st), meansByRows(defs, 0, st)
				if !sameSt(got, want) {
					t.Fatalf("%s on %v left %s, want %s", bodiesText(defs), st.Data, outcome(got), outcome(want))
				}
				seen[want.Fault]++
			}
		}
	})
	for _, fault := range []int{0, impl.FlStack, impl.FlFuel, impl.FlMix} {
		if seen[fault] < 100 {
			t.Error("only", seen[fault], "ended with", fault)
		}
	}
}

// livelyText tells a body that mostly finds what it takes; most calls are of definitions further on.
func livelyText(m *mixer, deep, k, count int) string {
	words := []string{"1", "dup", "drop", "nip", "+", "a!", "dup .", "1 +", "2 *", "-3 +", "dup or", "2/", "-", "0 drop", "over nip", "a drop", "nop", "key emit", "dup dup /mod drop", "5 @ drop"}
	text := ""
	for range m.below(4) + m.below(4*deep+1) {
		switch kind := m.below(14); {
		case kind < 2 && deep > 0:
			text += []string{"1", "2", "3", "5", "0", "-1", "7", ""}[m.below(8)] + " for " + livelyText(m, deep-1, k, count) + "next "
		case kind < 5 && deep > 0:
			text += []string{"if ", "-if "}[m.below(2)] + livelyText(m, deep-1, k, count) + "then "
		case kind == 5:
			text += "#" + strconv.Itoa(min(k+1+m.below(3), count-1)) + " "
		case kind == 6 && deep > 0:
			text += "push " + livelyText(m, deep-1, k, count) + "pop "
		case kind == 7 && m.below(3) == 0:
			text += []string{";", "i", primNames[m.below(24)], "#" + strconv.Itoa(m.below(count)), "-2147483648 for", "77 @", "9 3 !"}[m.below(7)] + " "
			if strings.HasSuffix(text, "for ") {
				text += "next "
			}
		default:
			text += words[m.below(len(words))] + " "
		}
	}
	return text
}

func livelyDefs(t *testing.T, m *mixer, count int) []impl.Def {
	t.Helper()
	var bodies []string
	for len(bodies) < count {
		text := livelyText(m, 3, len(bodies), count)
		if m.below(5) > 0 {
			text += ";"
		}
		if len(strings.Fields(text)) <= 60 {
			bodies = append(bodies, text)
		}
	}
	return defsOf(t, strings.Join(bodies, "|"))
}

// TestAnyMeaning holds mixed definitions on mixed states, with all of their fuels.
func TestAnyMeaning(t *testing.T) {
	m := mixer(10)
	seen, long := map[int]int{}, 0
	for range 3000 {
		defs := livelyDefs(t, &m, 1+m.below(6))
		k := m.below(len(defs))
		st := withFuel(stOn(numbersOf(t, "4 -2 1 0 3 2")[m.below(7):]...), m.below(600))
		if m.below(4) == 0 {
			st = mixedSt(&m)
		}
		if m.below(10) == 0 {
			defs = []impl.Def{{Name: "a", Body: mixedBody(&m, 60, 2)}, {Name: "b", Body: mixedBody(&m, 60, 2)}}
			k = m.below(2)
		}
		end := checkMeans(t, defs, k, st)
		checkFuel(t, defs, k, st)
		seen[end.Fault]++
		if end.Fault == 0 && st.Fuel-end.Fuel > 20 {
			long++
		}
	}
	for _, fault := range []int{0, impl.FlStack, impl.FlRet, impl.FlFuel, impl.FlEnd, impl.FlMix, impl.FlAddr} {
		if seen[fault] < 10 {
			t.Error("only", seen[fault], "ended with", fault)
		}
	}
	if long < 50 {
		t.Error("only", long, "went on for long")
	}
}

// checkNoMeaning holds that a definition makes nothing of a state.
func checkNoMeaning(t *testing.T, what string, defs []impl.Def, k int, st impl.St) {
	t.Helper()
	if end := checkMeans(t, defs, k, st); !sameSt(end, impl.St{}) {
		t.Errorf("%s left %s", what, outcome(end))
	}
}

func TestNoSuchDefinition(t *testing.T) {
	for _, defs := range [][]impl.Def{nil, {}, defsOf(t, ";"), defsOf(t, "1|2|;"), namedDefs(t, 24, ";")} {
		for _, k := range placesAround(len(defs)) {
			if k < 0 || k >= len(defs) {
				checkNoMeaning(t, "definition "+strconv.Itoa(k), defs, k, stOn(1, 2))
			}
		}
	}
	full := namedDefs(t, 24, ";")
	if end := checkMeans(t, full, 23, stOn()); end.Fault != 0 || end.Fuel != 69 {
		t.Error("the last definition left", outcome(end))
	}
}

// TestMeaningOfWrongDefinitions holds definitions of which one isn't right, though nothing asks for it.
func TestMeaningOfWrongDefinitions(t *testing.T) {
	rows := []string{"then", "if", "for", "next", "if next", "for then", "1 ; if", "#3", "#-1", "#24", strings.Repeat("1 ", 61)}
	for at := range 3 {
		for k := range 3 {
			for _, row := range rows {
				defs := defsOf(t, ";|;|;")
				defs[at].Body = bodyOf(t, row)
				checkNoMeaning(t, row, defs, k, stOn(1))
			}
			for _, op := range []impl.Op{{Kind: -1}, {Kind: 9}, {Kind: impl.OPrim, N: 24}, {Kind: impl.OPrim, N: -1}, {Kind: impl.OExit, N: 1}, {Kind: impl.OFor, N: 1}} {
				defs := defsOf(t, ";|;|;")
				defs[at].Body = append(defs[at].Body, op)
				checkNoMeaning(t, "an op that is none", defs, k, stOn(1))
			}
			for _, name := range []string{"", " ", "A", mixedName(25, 3)} {
				defs := defsOf(t, ";|;|;")
				defs[at].Name = name
				checkNoMeaning(t, "the name "+name, defs, k, stOn(1))
			}
		}
	}
	for _, count := range []int{25, 26, 100} {
		for _, k := range []int{0, 23, 24, count - 1} {
			checkNoMeaning(t, "too many definitions", namedDefs(t, count, ";"), k, stOn(1))
		}
	}
}

// TestMeaningOfWrongStates holds states that aren't right, or have a Fault.
func TestMeaningOfWrongStates(t *testing.T) {
	defs := defsOf(t, "dup drop #1 ; | 5 drop ; | ")
	for what, change := range wrongChanges() {
		st := stOn(1, 2, 3)
		change(&st)
		for k := range defs {
			checkNoMeaning(t, what, defs, k, st)
		}
		checkLevel(t, what, st)
	}
	for fault := 1; fault <= 13; fault++ {
		for _, st := range []impl.St{stOn(), stOn(1, 2, 3), stOn(fullData()...), withFuel(stOn(1), 0)} {
			st.Fault = fault
			for k := range defs {
				checkNoMeaning(t, "a state with a fault", defs, k, st)
			}
			checkLevel(t, "a state with a fault", st)
		}
	}
}

// checkLevel holds Level of a state against the slots that it should have.
func checkLevel(t *testing.T, what string, st impl.St) impl.St {
	t.Helper()
	want := impl.St{}
	if isRightSt(st) {
		want = copySt(st)
		want.Ret = nil
		for _, slot := range st.Ret {
			if slot.Kind == 2 {
				slot = impl.Slot{Kind: 2}
			}
			want.Ret = append(want.Ret, slot)
		}
	}
	checkStep(t, "Level of "+what, st, impl.Level, want)
	return want
}

func TestLevelByHand(t *testing.T) {
	rows := map[string]string{
		"": "", "b0": "b0", "b9": "b0", "b-1": "b0", "c9": "c9", "d9": "d9", "b1 b2 b3": "b0 b0 b0", "d5 b5 c5 b6 d6": "d5 b0 c5 b0 d6",
		"b-2147483648 d-2147483648 c-2147483648": "b0 d-2147483648 c-2147483648", "c2147483647 b2147483647 d2147483647": "c2147483647 b0 d2147483647",
	}
	for has, are := range rows {
		for fault := range 14 {
			st := stOn(7, 8)
			st.Ret, st.Fault = slotsOf(t, has), fault
			want := copySt(st)
			want.Ret = slotsOf(t, are)
			if level := checkLevel(t, has, st); !sameSt(level, want) {
				t.Errorf("Level of %q is %+v", has, level)
			}
			checkLevel(t, are, want)
		}
	}
}

func TestLevelOfAnyState(t *testing.T) {
	m := mixer(101)
	for range 400 {
		st := mixedSt(&m)
		checkLevel(t, "a mixed state", st)
		checkLevel(t, "a state that is level", impl.Level(st))
	}
	for kind := range 3 {
		for _, n := range someNumbers {
			st := stOn()
			st.Ret = slices.Repeat([]impl.Slot{{Kind: kind, N: n}, {Kind: impl.SlBack, N: -n}}, 12)
			checkLevel(t, "a full state", st)
		}
	}
	checkLevel(t, "no state", impl.St{})
}
