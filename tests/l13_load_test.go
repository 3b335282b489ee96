package tests

import (
	"fmt"
	"math"
	"slices"
	"strconv"
	"strings"
	"testing"
	"unsafe"

	"loop.example/g00711/impl"
)

// unended tells the brackets of a body that are left when all that is begun and ended is taken out.
func unended(body []impl.Op) string {
	left := ""
	for _, op := range body {
		left += bracketOf(op)
	}
	for {
		next := strings.ReplaceAll(strings.ReplaceAll(left, "()", ""), "[]", "")
		if next == left {
			return left
		}
		left = next
	}
}

// isBegun tells whether a body is right but for what isn't ended yet.
func isBegun(body []impl.Op) bool {
	wrong := slices.ContainsFunc(body, func(o impl.Op) bool { return signOfOp(o) == "" })
	return len(body) <= 60 && !wrong && !strings.ContainsAny(unended(body), ")]")
}

func isWorld(w impl.World) bool {
	count := len(w.Defs)
	if !isRightSt(w.St) || w.Open && count == 0 || count > 24 || len(w.Dict) > 40 {
		return false
	}
	closed := slices.Clone(w.Defs)
	if w.Open && isBegun(closed[count-1].Body) {
		closed[count-1].Body = slices.DeleteFunc(slices.Clone(closed[count-1].Body), func(o impl.Op) bool { return bracketOf(o) != "" })
	}
	for _, e := range w.Dict {
		isOne := !e.Var && e.N >= 0 && e.N < count || e.Var && slices.Contains(w.St.Vars, e.N)
		if !isName(e.Name) || !isOne {
			return false
		}
	}
	return isDefs(closed)
}

func sameDefs(one, other []impl.Def) bool {
	return slices.EqualFunc(one, other, func(one, other impl.Def) bool { return one.Name == other.Name && slices.Equal(one.Body, other.Body) })
}

func sameWorld(one, other impl.World) bool {
	return sameSt(one.St, other.St) && sameDefs(one.Defs, other.Defs) && slices.Equal(one.Dict, other.Dict) && one.Open == other.Open && one.Yellow == other.Yellow
}

// copyWorld tells a world with lists of its own.
func copyWorld(w impl.World) impl.World {
	w.St, w.Defs, w.Dict = copySt(w.St), slices.Clone(w.Defs), slices.Clone(w.Dict)
	for k, def := range w.Defs {
		w.Defs[k].Body = slices.Clone(def.Body)
	}
	return w
}

// worldText tells a world but for what is seldom looked at: definitions, entries, Data, what is true of it and the fault, Fuel; and where there is one, what is put out.
func worldText(w impl.World) string {
	var defs, dict []string
	for _, def := range w.Defs {
		words := []string{def.Name}
		for _, op := range def.Body {
			words = append(words, opTextByRows(op, w.Defs))
		}
		defs = append(defs, strings.Join(words, " "))
	}
	for _, e := range w.Dict {
		sign := ":"
		if e.Var {
			sign = "&"
		}
		dict = append(dict, e.Name+sign+strconv.Itoa(e.N))
	}
	data := strings.Trim(fmt.Sprint(w.St.Data), "[]")
	is := ""
	if w.Open {
		is += "open "
	}
	if w.Yellow {
		is += "yellow "
	}
	is += faultNames[w.St.Fault]
	text := strings.Join([]string{strings.Join(defs, " , "), strings.Join(dict, " "), data, is, strconv.Itoa(w.St.Fuel)}, " | ")
	if len(w.St.Out) > 0 {
		text += " | " + string(w.St.Out)
	}
	return squeezed(text)
}

// squeezed tells a text with one blank between its words.
func squeezed(s string) string { return strings.Join(strings.Fields(s), " ") }

func lookByRows(dict []impl.Entry, name string) (impl.Entry, bool) {
	for at := len(dict) - 1; at >= 0; at-- {
		if dict[at].Name == name {
			return dict[at], true
		}
	}
	return impl.Entry{}, false
}

// loading is a world on which items are done, with all places that were variables at some time.
type loading struct {
	w    impl.World
	vars map[int]bool
}

func loadingOf(w impl.World) *loading {
	l := &loading{w: copyWorld(w), vars: map[int]bool{}}
	l.mark()
	return l
}

func (l *loading) mark() {
	for _, place := range l.w.St.Vars {
		l.vars[place] = true
	}
}

func (l *loading) item(it impl.Item, place, deep int) {
	switch {
	case l.w.St.Fault != 0:
		return
	case l.w.St.Fuel == 0:
		l.w.St.Fault = impl.FlFuel
		return
	}
	l.w.St.Fuel--
	was := copyWorld(l.w)
	if fault := l.does(it, place, deep); fault != 0 {
		l.w = was
		l.w.St.Fault = fault
	}
	l.mark()
}

// does tells the fault by which an item isn't done; what it has changed then is to be forgotten.
func (l *loading) does(it impl.Item, place, deep int) int {
	fault := 0
	switch it.Kind {
	case 1:
		fault = l.executes(it.Name, deep)
	case 2:
		fault = l.defines(it.Name)
	case 3, 8:
		fault = l.compiles(it)
	case 7:
		fault = l.pushes(it.N)
	case 9:
		fault = l.declares(it.Name, place+1)
	default:
		return 0
	}
	l.w.Yellow = it.Kind == 1 || it.Kind == 7
	return fault
}

func (l *loading) pushes(n int32) int {
	l.w.St = pushByRows(l.w.St, n)
	return l.w.St.Fault
}

func (l *loading) executes(name string, deep int) int {
	e, ok := lookByRows(l.w.Dict, name)
	switch {
	case ok && e.Var:
		return l.pushes(int32(1024 + e.N))
	case ok && !isDefs(l.w.Defs):
		return impl.FlShape
	case ok:
		code, starts := codeByRows(l.w.Defs, true)
		l.w.St = playByRows(code, starts[e.N], l.w.St).end.St
		return 0
	case name == "empty":
		l.w.Defs, l.w.Dict, l.w.St.Vars, l.w.Open = nil, nil, nil, false
		return 0
	case name != "load":
		l.w.St = doByRows(l.w.St, primOf(name))
		return l.w.St.Fault
	}
	last := len(l.w.St.Data) - 1
	switch {
	case last < 0:
		return impl.FlStack
	case deep == 6:
		return impl.FlDepth
	}
	b := int(l.w.St.Data[last])
	l.w.St.Data = l.w.St.Data[:last]
	return l.block(b, deep+1)
}

func (l *loading) block(b, deep int) int {
	if !isBlock(l.w.St.Cells, b) {
		return impl.FlBlock
	}
	l.w.Yellow = false
	place := b * 64
	for _, it := range parseByRows(l.w.St.Cells[place : place+64]) {
		l.item(it, place, deep)
		place += len(cellsByRows(it))
	}
	return 0
}

func (l *loading) defines(name string) int {
	switch {
	case !isDefs(l.w.Defs):
		return impl.FlShape
	case len(l.w.Defs) == 24 || len(l.w.Dict) == 40:
		return impl.FlFull
	}
	l.w.Dict = append(l.w.Dict, impl.Entry{Name: name, N: len(l.w.Defs)})
	l.w.Defs = append(l.w.Defs, impl.Def{Name: name})
	l.w.Open = true
	return 0
}

func (l *loading) compiles(it impl.Item) int {
	op, isOp := l.opFor(it)
	last := len(l.w.St.Data) - 1
	switch {
	case !l.w.Open:
		return impl.FlShape
	case !isOp:
		return impl.FlWord
	case l.w.Yellow && last < 0:
		return impl.FlStack
	}
	def := &l.w.Defs[len(l.w.Defs)-1]
	if l.w.Yellow {
		def.Body = append(def.Body, impl.Op{N: l.w.St.Data[last]})
		l.w.St.Data = l.w.St.Data[:last]
	}
	def.Body = append(def.Body, op)
	switch {
	case len(def.Body) > 60:
		return impl.FlFull
	case !isBegun(def.Body):
		return impl.FlShape
	}
	return 0
}

func (l *loading) opFor(it impl.Item) (impl.Op, bool) {
	if it.Kind == 8 {
		return impl.Op{N: it.N}, true
	}
	if kind, ok := signKinds[it.Name]; ok {
		return impl.Op{Kind: kind}, true
	}
	e, ok := lookByRows(l.w.Dict, it.Name)
	switch {
	case ok && e.Var:
		return impl.Op{N: int32(1024 + e.N)}, true
	case ok:
		return impl.Op{Kind: 2, N: int32(e.N)}, true
	}
	return impl.Op{Kind: 1, N: int32(primOf(it.Name))}, primOf(it.Name) >= 0
}

func (l *loading) declares(name string, place int) int {
	isOld := slices.Contains(l.w.St.Vars, place)
	if len(l.w.Dict) == 40 || !isOld && len(l.w.St.Vars) == 20 {
		return impl.FlFull
	}
	if !isOld {
		l.w.St.Vars = append(l.w.St.Vars, place)
	}
	l.w.Dict = append(l.w.Dict, impl.Entry{Name: name, Var: true, N: place})
	return 0
}

// itemOnByRows tells what DoItem should tell, and which places were variables at some time.
func itemOnByRows(w impl.World, it impl.Item, place int) (impl.World, map[int]bool) {
	if !isWorld(w) || !isItem(it) || place < 0 || place > len(w.St.Cells) || place+len(cellsByRows(it)) > len(w.St.Cells) {
		return impl.World{}, nil
	}
	l := loadingOf(w)
	l.item(it, place, 0)
	return l.w, l.vars
}

// loadByRows tells what Load should tell, and which places were variables at some time.
func loadByRows(w impl.World, b int) (impl.World, map[int]bool) {
	if !isWorld(w) {
		return impl.World{}, nil
	}
	l := loadingOf(w)
	if w.St.Fault == 0 {
		if fault := l.block(b, 0); fault != 0 {
			l.w.St.Fault = fault
		}
	}
	return l.w, l.vars
}

// heldWorld is a world that is an argument, with room behind all of its lists; its names stand over bytes that can be written over.
type heldWorld struct {
	st    heldSt
	defs  heldDefs
	dict  held[impl.Entry]
	names []heldText
	w     impl.World
}

func holdWorld(w impl.World, packed bool) heldWorld {
	h := heldWorld{st: holdSt(w.St, packed), defs: holdDefs(w.Defs, packed), w: w}
	dict := slices.Clone(w.Dict)
	for at := range dict {
		name := holdText(dict[at].Name)
		dict[at].Name = name.text()
		h.names = append(h.names, name)
	}
	h.dict = hold(dict, impl.Entry{Name: "behind", N: 7})
	h.w.St, h.w.Defs, h.w.Dict = h.st.st, h.defs.list(), h.dict.list()
	return h
}

// wipe holds a world against what it was, and writes over its lists and names.
func (h heldWorld) wipe(t *testing.T) {
	t.Helper()
	h.st.wipe(t)
	h.defs.wipe(t)
	h.dict.check(t)
	clear(h.dict.all)
	for _, name := range h.names {
		name.wipe(t)
	}
}

// checkOwnNames looks whether two names stand in the same memory.
func checkOwnNames(t *testing.T, names []string) {
	t.Helper()
	seen := map[*byte]bool{}
	for _, name := range names {
		// The language itself keeps the texts of one byte.
		if len(name) < 2 {
			continue
		}
		if seen[unsafe.StringData(name)] {
			t.Fatalf("two names of an answer are one: %q", name)
		}
		seen[unsafe.StringData(name)] = true
	}
}

// checkOwnWorld writes over one list of a world after the other, of which the others may see nothing.
func checkOwnWorld(t *testing.T, w, want impl.World) {
	t.Helper()
	var names []string
	for _, def := range w.Defs {
		names = append(names, def.Name)
	}
	for _, e := range w.Dict {
		names = append(names, e.Name)
	}
	checkOwnNames(t, names)
	checkOwnSt(t, w.St, want.St)
	want = copyWorld(want)
	w.St, want.St = impl.St{}, impl.St{}
	same := func() {
		t.Helper()
		if !sameWorld(w, want) {
			t.Fatalf("two lists of an answer are one: %s is left of %s", worldText(w), worldText(want))
		}
	}
	same()
	for k := range w.Defs {
		wipeList(&w.Defs[k].Body, impl.Op{Kind: 7, N: 7})
		want.Defs[k].Body = nil
		same()
	}
	wipeList(&w.Defs, impl.Def{Name: "changed"})
	want.Defs = nil
	same()
	wipeList(&w.Dict, impl.Entry{Name: "changed"})
	want.Dict = nil
	same()
}

// checkWorld holds what a call makes of a world against what it should.
func checkWorld(t *testing.T, what string, w impl.World, call func(w impl.World) impl.World, want impl.World) {
	t.Helper()
	for _, packed := range []bool{false, true} {
		argument := holdWorld(w, packed)
		got := call(argument.w)
		argument.wipe(t)
		if !sameWorld(got, want) {
			t.Fatalf("%s of\n%s made\n%s, want\n%s\n%+v\n%+v", what, safeText(w), safeText(got), safeText(want), got.St, want.St)
		}
		checkOwnWorld(t, got, want)
	}
}

// safeText is worldText of any world.
func safeText(w impl.World) string {
	if !isWorld(w) {
		return fmt.Sprintf("%+v", w)
	}
	return worldText(w)
}

// checkPromise13Of holds that a right world stays right, that no cell changes but those of variables, and that Fuel doesn't grow.
func checkPromise13Of(t *testing.T, what string, w, next impl.World, vars map[int]bool) {
	t.Helper()
	if !isWorld(w) {
		return
	}
	if !isWorld(next) || !impl.WorldOk(next) {
		t.Fatalf("%s of %s made a world that isn't right: %+v", what, worldText(w), next)
	}
	if next.St.Fuel > w.St.Fuel || len(next.St.Cells) != len(w.St.Cells) {
		t.Fatalf("%s of %s made %d fuel and %d cells", what, worldText(w), next.St.Fuel, len(next.St.Cells))
	}
	for place, cell := range w.St.Cells {
		if next.St.Cells[place] != cell && !vars[place] {
			t.Fatalf("%s of %s changed the cell %d", what, worldText(w), place)
		}
	}
}

// checkDoItem holds DoItem against the rows.
func checkDoItem(t *testing.T, w impl.World, it impl.Item, place int) impl.World {
	t.Helper()
	want, vars := itemOnByRows(w, it, place)
	what := fmt.Sprintf("%s at %d", impl.ItemText(it), place)
	checkWorld(t, what, w, func(w impl.World) impl.World {
		item := holdItems([]impl.Item{it})
		got := impl.DoItem(w, item.list.all[0], place)
		item.wipe(t)
		return got
	}, want)
	if isWorld(want) {
		checkPromise13Of(t, what, w, impl.DoItem(w, it, place), vars)
		checkKnown(t, want)
	}
	return want
}

// checkLoad holds Load against the rows, and against DoItem of each item in order.
func checkLoad(t *testing.T, w impl.World, b int) impl.World {
	t.Helper()
	want, vars := loadByRows(w, b)
	what := fmt.Sprintf("block %d", b)
	checkWorld(t, what, w, func(w impl.World) impl.World { return impl.Load(w, b) }, want)
	checkPromise13Of(t, what, w, impl.Load(w, b), vars)
	if !isWorld(w) || w.St.Fault != 0 || !isBlock(w.St.Cells, b) {
		return want
	}
	place := b * 64
	step := w
	step.Yellow = false
	for _, it := range parseByRows(w.St.Cells[place : place+64]) {
		step = impl.DoItem(step, it, place)
		place += len(cellsByRows(it))
	}
	if !sameWorld(step, want) {
		t.Fatalf("item by item block %d of %s made %s, want %s", b, worldText(w), safeText(step), worldText(want))
	}
	checkKnown(t, want)
	return want
}

// checkKnown holds WorldOk, Known, and Look of each name, against the rows.
func checkKnown(t *testing.T, w impl.World) {
	t.Helper()
	var known []string
	names := []string{"", "dup", "if", "load", "empty", "nix", " ", "A"}
	for at := len(w.Dict) - 1; at >= 0; at-- {
		if name := w.Dict[at].Name; isWorld(w) && !slices.Contains(known, name) {
			known = append(known, name)
		}
		names = append(names, w.Dict[at].Name)
	}
	argument := holdWorld(w, true)
	ok, got := impl.WorldOk(argument.w), impl.Known(argument.w)
	var found []impl.Entry
	for _, name := range names {
		asked := holdText(name)
		e, isOne := impl.Look(argument.w, asked.text())
		asked.wipe(t)
		if want, known := lookByRows(w.Dict, name); isOne != known || e != want {
			t.Fatalf("Look of %q is %+v, %v, want %+v, %v", name, e, isOne, want, known)
		}
		found = append(found, e)
	}
	argument.wipe(t)
	if ok != isWorld(w) || !slices.Equal(got, known) {
		t.Fatalf("WorldOk is %v, and Known %q, want %q, of %s", ok, got, known, safeText(w))
	}
	checkOwnNames(t, got)
	for at, e := range found {
		if want, _ := lookByRows(w.Dict, names[at]); e != want {
			t.Fatalf("what Look told of %q became %+v", names[at], e)
		}
	}
}

// cellsOfTexts are the cells of a store whose blocks have the items of these texts.
func cellsOfTexts(t *testing.T, texts ...string) []uint32 {
	t.Helper()
	cells := make([]uint32, 64*len(texts))
	for b, text := range texts {
		from := b * 64
		for _, it := range itemsOf(t, text) {
			from += copy(cells[from:64*(b+1)], cellsByRows(it))
		}
	}
	return cells
}

// worldOf is a world with nothing but blocks and fuel.
func worldOf(t *testing.T, fuel int, texts ...string) impl.World {
	t.Helper()
	return impl.World{St: impl.St{Mem: make([]int32, 32), Cells: cellsOfTexts(t, texts...), Fuel: fuel}}
}

// loadedAs is a first block, those behind it with strokes between, and what it makes of a world with 100 fuel when it is loaded.
type loadedAs struct{ blocks, to string }

func checkLoads(t *testing.T, rows []loadedAs) {
	t.Helper()
	for _, row := range rows {
		w := worldOf(t, 100, strings.Split(row.blocks, "|")...)
		if got := impl.Load(w, 0); safeText(got) != squeezed(row.to) {
			t.Errorf("%q made\n%s, want\n%s", row.blocks, safeText(got), squeezed(row.to))
		}
		for fuel := range 101 {
			if w.St.Fuel = fuel; fuel < 40 || fuel == 100 {
				checkLoad(t, w, 0)
			}
		}
	}
}

func TestNumbersOfLoading(t *testing.T) {
	if impl.MaxDict != 40 || impl.MaxDepth != 6 {
		t.Error("limits", impl.MaxDict, impl.MaxDepth)
	}
}

// TestBlocksOfEachKind holds a block of each kind of items; places and fuel are by hand.
func TestBlocksOfEachKind(t *testing.T) {
	checkLoads(t, []loadedAs{
		{"", "| | | | 100"},
		{"%7", "| | | | 99"},
		{"%0 %0 %7", "| | | | 97"},
		{"\"note", "| | | | 99"},
		{"^cap", "| | | | 99"},
		{"_caps", "| | | | 99"},
		{"\"note ^of _seven %f", "| | | | 96"},
		{"~#5", "| | 5 | yellow | 99"},
		{"~$ffffffff ~#2147483647", "| | -1 2147483647 | yellow | 98"},
		{"~#5 ~dup ~*", "| | 25 | yellow | 97"},
		{"~#5 \"note", "| | 5 | yellow | 98"},
		{"~key", "| | -1 | yellow | 99"},
		{":a", "a | a:0 | | open | 99"},
		{":a =dup", "a dup | a:0 | | open | 98"},
		{":a =#5", "a 5 | a:0 | | open | 98"},
		{":a =$ffffffff", "a -1 | a:0 | | open | 98"},
		{":a :b :c", "a , b , c | a:0 b:1 c:2 | | open | 97"},
		{":a =#5 =; ~a", "a 5 ; | a:0 | 5 | open yellow | 94"},
		{":sq =dup =* =; ~#7 ~sq ~.", "sq dup * ; | sq:0 | | open yellow | 90 | 49"},
		{"&x#7", "| x&1 | | | 99"},
		{"~#1 &x#7 ~x", "| x&2 | 1 1026 | yellow | 97"},
		{"&x#7 ~x ~@", "| x&1 | 7 | yellow | 97"},
		{"&x#7 &y#-8 ~y ~@ ~x ~@", "| x&1 y&3 | -8 7 | yellow | 94"},
		{"&x#7 :a =x =@ =; ~a", "a 1025 @ ; | x&1 a:0 | 7 | open yellow | 91"},
		{"&x#7 :inc =x =@ =#1 =+ =x =! =; ~inc ~inc ~x ~@", "inc 1025 @ 1 + 1025 ! ; | x&1 inc:0 | 9 | open yellow | 73"},
		{":a &x#7 =x =;", "a 1026 ; | a:0 x&2 | | open | 96"},
		{":a =for =i =. =next =; ~#3 ~a", "a for i . next ; | a:0 | | open yellow | 81 | 3 2 1"},
		{":a =if =#5 =then =; ~#0 ~a ~#1 ~a", "a if 5 then ; | a:0 | 0 1 5 | open yellow | 86"},
		{":a =-if =#5 =then =; ~#0 ~a ~#-1 ~a", "a -if 5 then ; | a:0 | 0 -1 5 | open yellow | 86"},
	})
}

// TestBlocksOfNames holds names that stand for what was defined, for built-in words, or for what ends and begins.
func TestBlocksOfNames(t *testing.T) {
	checkLoads(t, []loadedAs{
		{":a =a =;", "a a ; | a:0 | | open | 97"},
		{":ever =ever =; ~ever", "ever ever ; | ever:0 | | open yellow fuel | 0"},
		{":a =a =nop =; ~a", "a a nop ; | a:0 | | open yellow ret | 71"},
		{":dup =#9 =; ~dup", "dup 9 ; | dup:0 | 9 | open yellow | 94"},
		{":dup =#9 =; :b =dup =; ~b", "dup 9 ; , b dup ; | dup:0 b:1 | 9 | open yellow | 90"},
		{":+ =#9 =; ~empty ~#2 ~#3 ~+", "| | 5 | yellow | 93"},
		{":a =#1 =; :a =#2 =; ~a", "a 1 ; , a 2 ; | a:0 a:1 | 2 | open yellow | 91"},
		{":a =#1 =; :b =a =; :a =#2 =; ~b", "a 1 ; , b a ; , a 2 ; | a:0 b:1 a:2 | 1 | open yellow | 87"},
		{"&a#5 :a =#1 =; ~a", "a 1 ; | a&1 a:0 | 1 | open yellow | 93"},
		{":a =#1 =; &a#5 ~a", "a 1 ; | a:0 a&4 | 1028 | open yellow | 95"},
		{":a =#1 =; &a#5 :b =a =;", "a 1 ; , b 1028 ; | a:0 a&4 b:1 | | open | 93"},
		{"&a#5 &a#6 ~a ~@", "| a&1 a&3 | 6 | yellow | 96"},
		{":if =#1 =; :b =if =then =; ~if", "if 1 ; , b if then ; | if:0 b:1 | 1 | open yellow | 90"},
		{":; =#1 :b =; ~b", "; 1 , b ; | ;:0 b:1 | | open yellow | 94"},
		{"&if#5 ~if :b =if", "b if | if&1 b:0 | 1025 | open | 96"},
		{"~if", "| | | word | 99"},
		{"~then", "| | | word | 99"},
		{"~;", "| | | word | 99"},
		{"~nix", "| | | word | 99"},
		{":a =nix", "a | a:0 | | open word | 98"},
		{":a =load", "a | a:0 | | open word | 98"},
		{":a =empty", "a | a:0 | | open word | 98"},
		{":load =#3 =; ~load", "load 3 ; | load:0 | 3 | open yellow | 94"},
		{":load =#3 =; :a =load =; ~a", "load 3 ; , a load ; | load:0 a:1 | 3 | open yellow | 90"},
		{":empty =#4 =; ~empty", "empty 4 ; | empty:0 | 4 | open yellow | 94"},
		{"&load#5 ~load", "| load&1 | 1025 | yellow | 98"},
	})
	for _, name := range []string{"a", "dup", "load", "empty", "nix"} {
		w := impl.Load(worldOf(t, 100, ":"+name+" ="+name+" =;"), 0)
		if len(w.Defs) != 1 || !slices.Equal(w.Defs[0].Body, []impl.Op{{Kind: impl.OCall}, {Kind: impl.OExit}}) {
			t.Errorf("%q by its own name is %+v", name, w.Defs)
		}
	}
}

// TestYellowAheadOfGreen holds numbers that are taken into a definition, and what leaves them.
func TestYellowAheadOfGreen(t *testing.T) {
	checkLoads(t, []loadedAs{
		{":a ~#6 =#5", "a 6 5 | a:0 | | open | 97"},
		{":a ~#6 =dup", "a 6 dup | a:0 | | open | 97"},
		{":a ~#6 =if", "a 6 if | a:0 | | open | 97"},
		{":a ~#6 =-if", "a 6 -if | a:0 | | open | 97"},
		{":a ~#6 =for", "a 6 for | a:0 | | open | 97"},
		{":a =if ~#6 =then", "a if 6 then | a:0 | | open | 96"},
		{":a =for ~#6 =next", "a for 6 next | a:0 | | open | 96"},
		{":a ~#6 =;", "a 6 ; | a:0 | | open | 97"},
		{":a ~#6 =a", "a 6 a | a:0 | | open | 97"},
		{"&x#5 :a ~#6 =x", "a 6 1025 | x&1 a:0 | | open | 96"},
		{":a ~#6 ~#7 =+ =*", "a 7 + * | a:0 | 6 | open | 95"},
		{":a ~#6 =+ ~#7 =*", "a 6 + 7 * | a:0 | | open | 95"},
		{":a ~#6 ~dup ~* =.", "a 36 . | a:0 | | open | 95"},
		{":a =#5 =; :b ~a =dup", "a 5 ; , b 5 dup | a:0 b:1 | | open | 92"},
		{":a ~#6 \"n %7 ^c _d =dup", "a 6 dup | a:0 | | open | 93"},
		{":a ~#6 :b =dup", "a , b dup | a:0 b:1 | 6 | open | 96"},
		{":a ~#6 &x#5 =dup", "a dup | a:0 x&3 | 6 | open | 96"},
		{":a ~#6 ~nop =dup", "a 6 dup | a:0 | | open | 96"},
		{":a ~#6 =nix", "a | a:0 | 6 | open yellow word | 97"},
		{":a ~#6 =then", "a | a:0 | 6 | open yellow shape | 97"},
		{":a =for ~#6 =then", "a for | a:0 | 6 | open yellow shape | 96"},
		{"~#6 =dup", "| | 6 | yellow shape | 98"},
		{"~#6 =nix", "| | 6 | yellow shape | 98"},
		{"~#6 =#5", "| | 6 | yellow shape | 98"},
		{"~#6 ~drop =dup", "| | | yellow shape | 97"},
		{":a ~#6 ~drop =nix", "a | a:0 | | open yellow word | 96"},
	})
	for _, text := range strings.Fields("=#5 =$f =dup =if =-if =then =for =next =; =a =x") {
		checkLoads(t, []loadedAs{{"&x#5 :a ~#6 ~drop " + text, "a | x&1 a:0 | | open yellow stack | 95"}})
	}
}

// TestWhatIsEnded holds ops that end what isn't begun, and definitions of which something isn't ended.
func TestWhatIsEnded(t *testing.T) {
	checkLoads(t, []loadedAs{
		{"=dup", "| | | shape | 99"},
		{"=#5", "| | | shape | 99"},
		{"=;", "| | | shape | 99"},
		{"&x#5 =x", "| x&1 | | shape | 98"},
		{":a =then", "a | a:0 | | open shape | 98"},
		{":a =next", "a | a:0 | | open shape | 98"},
		{":a =if =next", "a if | a:0 | | open shape | 97"},
		{":a =-if =next", "a -if | a:0 | | open shape | 97"},
		{":a =for =then", "a for | a:0 | | open shape | 97"},
		{":a =if =then =then", "a if then | a:0 | | open shape | 96"},
		{":a =for =if =next", "a for if | a:0 | | open shape | 96"},
		{":a =if =for =next =next", "a if for next | a:0 | | open shape | 95"},
		{":a =if =for =next =then", "a if for next then | a:0 | | open | 95"},
		{":a =if :b", "a if | a:0 | | open shape | 97"},
		{":a =-if :b", "a -if | a:0 | | open shape | 97"},
		{":a =for :b", "a for | a:0 | | open shape | 97"},
		{":a =if =if =then :b", "a if if then | a:0 | | open shape | 95"},
		{":a =if =then :b", "a if then , b | a:0 b:1 | | open | 96"},
		{":a =if ~a", "a if | a:0 | | open shape | 97"},
		{":b =; :a =for ~b", "b ; , a for | b:0 a:1 | | open shape | 95"},
		{":b =; :a =for ~#5 ~b", "b ; , a for | b:0 a:1 | 5 | open yellow shape | 94"},
		{":a =if &x#5 =then ~x", "a if then | a:0 x&3 | 1027 | open yellow | 95"},
		{":a =if ~dup", "a if | a:0 | | open stack | 97"},
		{":a =#1 =. ~a", "a 1 . | a:0 | | open yellow end | 94 | 1"},
		{":a =#1 =. :b =#2 =. =; ~a", "a 1 . , b 2 . ; | a:0 b:1 | | open yellow | 87 | 1 2"},
		{":a =drop =; ~a", "a drop ; | a:0 | | open yellow stack | 95"},
		{":a =#5 =push =; ~a", "a 5 push ; | a:0 | | open yellow mix | 92"},
		{"~drop", "| | | stack | 99"},
		{"~#5 ~#0 ~/mod", "| | 5 0 | yellow div | 97"},
	})
}

// TestLoadsInBlocks holds load and empty; one of these is done by DoItem too.
func TestLoadsInBlocks(t *testing.T) {
	checkLoads(t, []loadedAs{
		{"~#1 ~load ~b | :b =#8 =;", "b 8 ; | b:0 | 8 | open yellow | 92"},
		{"~#1 ~load", "| | 1 | yellow block | 98"},
		{"~#-1 ~load | ~#7", "| | -1 | yellow block | 98"},
		{"~#2147483647 ~load", "| | 2147483647 | yellow block | 98"},
		{"~#-2147483648 ~load", "| | -2147483648 | yellow block | 98"},
		{"~#67108864 ~load", "| | 67108864 | yellow block | 98"},
		{"~#5 &x#1 ~load", "| x&2 | 5 | block | 97"},
		{"~load", "| | | stack | 99"},
		{"~#1 ~load |", "| | | yellow | 98"},
		{"~#1 ~load =dup | :b =#8", "b 8 | b:0 | | open yellow stack | 95"},
		{":a ~#6 ~#1 ~load | =dup", "a dup | a:0 | 6 | open yellow | 95"},
		{"~#1 ~load =; | :a ~#4", "a 4 ; | a:0 | | open | 95"},
		{"~#1 ~load | &x#5 ~nix", "| x&65 | | yellow word | 96"},
		{"~#1 ~load ~#9 | &x#5 ~x ~drop ~drop", "| x&65 | | yellow stack | 94"},
		{"~#1 ~load ~#9 | :a =then", "a | a:0 | | open yellow shape | 96"},
		{"~#0 ~load", "| | 0 | yellow depth | 86"},
		{"~#0 ~@ ~#1 ~+ ~dup ~#0 ~! ~. ~#0 ~load", "| | 0 | yellow depth | 30 | 1 2 3 4 5 6 7"},
		{"~#1 ~load ~#0 ~. |~#2 ~load ~#1 ~. |~#3 ~load ~#2 ~. |~#4 ~load ~#3 ~. |~#5 ~load ~#4 ~. |~#6 ~load ~#5 ~. |~#6 ~.", "| | | yellow | 74 | 6 5 4 3 2 1 0"},
		{"~#1 ~load |~#2 ~load |~#3 ~load |~#4 ~load |~#5 ~load |~#6 ~load |~#9 ~load", "| | 9 | yellow depth | 86"},
		{"~#1 ~load |~#2 ~load |~#3 ~load |~#4 ~load |~#5 ~load |~#9 ~load |", "| | 9 | yellow block | 88"},
		{"~#1 ~load |~#2 ~load |~#3 ~load |~#4 ~load |~#5 ~load |~#6 ~load |~load", "| | | yellow stack | 87"},
		{"~#1 ~load ~#1 ~load ~#1 ~load | ~#2 ~load | ~#3 ~load | ~#7 ~.", "| | | yellow | 76 | 7 7 7"},
		{"~#1 ~load ~b | &b#5", "| b&65 | 1089 | yellow | 96"},
		{"~empty", "| | | yellow | 99"},
		{":a =#1 ~empty =dup", "| | | yellow shape | 96"},
		{":a =if ~empty :b =; ~b", "b ; | b:0 | | open yellow | 93"},
		{"&x#5 ~x ~empty ~dup ~@ ~. ~#6 ~swap ~!", "| | 6 1025 | yellow addr | 91 | 5"},
		{"&x#5 ~empty ~x", "| | | yellow word | 97"},
		{"~#1 ~load ~b | :b =#8 =; ~empty", "| | | yellow word | 93"},
		{":a =if ~#1 ~load =; | ~empty :b", "b | b:0 | | open yellow stack | 93"},
	})
	w := worldOf(t, 100, "~#0 ~@ ~#1 ~+ ~dup ~#0 ~! ~. ~#0 ~load")
	w.St.Data = []int32{7, 0}
	if got := checkDoItem(t, w, itemsOf(t, "~load")[0], 0); worldText(got) != "| | 7 0 | yellow depth | 39 | 1 2 3 4 5 6" {
		t.Error("load made", worldText(got))
	}
}

// TestBlocksThatChange holds blocks of which a cell is changed while they are loaded: the items are those that were there ahead.
func TestBlocksThatChange(t *testing.T) {
	checkLoads(t, []loadedAs{{"&x#5 ~#7 ~x ~! ~x ~@", "| x&1 | 7 | yellow | 94"}})
	w := worldOf(t, 100, "~#8 ~#1028 ~! ~#1 ~#2")
	w.St.Vars = []int{4}
	first := checkLoad(t, w, 0)
	if worldText(first) != "| | 1 2 | yellow | 95" || first.St.Cells[4] != 8 {
		t.Error("a block that is changed made", worldText(first))
	}
	again := checkLoad(t, first, 0)
	if worldText(again) != "| | 1 2 1 0 | yellow | 90" {
		t.Error("the changed block made", worldText(again))
	}
	w = worldOf(t, 100, "~#1 ~load ~#9 ~#1 ~load", "~#0 ~. ~$68 ~#1088 ~!")
	w.St.Vars = []int{64}
	if got := checkLoad(t, w, 0); worldText(got) != "| | 9 | yellow | 85 | 0 3" {
		t.Error("a block that is changed behind its loading made", worldText(got))
	}
	later := checkDoItem(t, worldOf(t, 100, "~#8 ~#1028 ~! ~#1 ~#2"), impl.Item{Kind: impl.IVar, Name: "x", N: 5}, 3)
	if got := checkLoad(t, later, 0); worldText(got) != "| x&4 | 1 2 | yellow | 94" || got.St.Cells[4] != 8 {
		t.Error("a variable at a place that another item has made", worldText(got))
	}
}

// TestFuelOfBlocks holds fuel that ends in the middle of a block, by hand.
func TestFuelOfBlocks(t *testing.T) {
	rows := []struct {
		fuel       int
		blocks, to string
	}{
		{0, "", "| | | | 0"},
		{0, "\"note", "| | | fuel | 0"},
		{1, "\"note %7", "| | | fuel | 0"},
		{2, "\"note %7", "| | | | 0"},
		{0, "~#1", "| | | fuel | 0"},
		{2, "~#1 ~#2 ~#3", "| | 1 2 | yellow fuel | 0"},
		{3, "~#1 ~#2 ~#3", "| | 1 2 3 | yellow | 0"},
		{1, ":a", "a | a:0 | | open | 0"},
		{0, ":a", "| | | fuel | 0"},
		{2, ":a ~#6 =dup", "a | a:0 | 6 | open yellow fuel | 0"},
		{0, "&x#5", "| | | fuel | 0"},
		{1, "~#1 ~load | ~#7", "| | 1 | yellow fuel | 0"},
		{2, "~#1 ~load | ~#7", "| | | yellow fuel | 0"},
		{3, "~#1 ~load | ~#7 ~#8", "| | 7 | yellow fuel | 0"},
		{3, "~#1 ~load ~#9 | ~#7", "| | 7 | yellow fuel | 0"},
		{4, "~#1 ~load ~#9 | ~#7", "| | 7 9 | yellow | 0"},
		{4, ":a =#1 =#2 =; ~a", "a 1 2 ; | a:0 | | open fuel | 0"},
		{5, ":a =#1 =#2 =; ~a", "a 1 2 ; | a:0 | | open yellow fuel | 0"},
		{6, ":a =#1 =#2 =; ~a", "a 1 2 ; | a:0 | 1 | open yellow fuel | 0"},
		{8, ":a =#1 =#2 =; ~a", "a 1 2 ; | a:0 | 1 2 | open yellow | 0"},
		{1, ":a =nix", "a | a:0 | | open fuel | 0"},
		{2, ":a =nix", "a | a:0 | | open word | 0"},
	}
	for _, row := range rows {
		w := worldOf(t, row.fuel, strings.Split(row.blocks, "|")...)
		if got := checkLoad(t, w, 0); worldText(got) != squeezed(row.to) {
			t.Errorf("%q with fuel %d made\n%s, want\n%s", row.blocks, row.fuel, worldText(got), row.to)
		}
	}
}

// fullerWorld is a right world with so many definitions, variables and entries, of which the first definition and the first variable have some.
func fullerWorld(t *testing.T, defs, vars, entries int) impl.World {
	t.Helper()
	w := worldOf(t, 100, "~#1", "~#2")
	w.Defs, w.St.Vars, w.Open = namedDefs(t, defs, "dup ;", "5 #0 ;"), places(vars), defs > 0
	for at := range entries {
		e := impl.Entry{Name: "name" + strconv.Itoa(at%30), N: at % max(defs, 1)}
		if defs == 0 || vars > 0 && at%2 == 1 {
			e.Var, e.N = true, at%vars
		}
		w.Dict = append(w.Dict, e)
	}
	if !isWorld(w) {
		t.Fatal("no right world")
	}
	return w
}

// withItem is what an item makes of a world; only the fault is told, by its name, where there is one.
type withItem struct {
	w           impl.World
	text, fault string
}

func checkItems(t *testing.T, rows []withItem) {
	t.Helper()
	for _, row := range rows {
		next := checkDoItem(t, row.w, itemsOf(t, row.text)[0], 100)
		if got := faultNames[next.St.Fault]; got != row.fault {
			t.Errorf("%q on %s had the fault %q, want %q", row.text, worldText(row.w), got, row.fault)
		}
		same := copyWorld(row.w)
		same.St.Fault, same.St.Fuel = next.St.Fault, row.w.St.Fuel-1
		if row.fault != "" && !sameWorld(next, same) {
			t.Errorf("%q with a fault made %s of %s", row.text, worldText(next), worldText(row.w))
		}
	}
}

// TestWorldsThatAreFull holds as many definitions, entries and variables as there may be, and one more.
func TestWorldsThatAreFull(t *testing.T) {
	old := fullerWorld(t, 3, 20, 10)
	old.St.Vars[7] = 101
	old.Dict = nil
	last := fullerWorld(t, 3, 20, 40)
	last.Dict = last.Dict[:39]
	last.St.Vars[19] = 101
	last.Dict = slices.DeleteFunc(last.Dict, func(e impl.Entry) bool { return e.Var && e.N == 0 })
	begun := fullerWorld(t, 24, 2, 40)
	begun.Defs[23].Body = bodyOf(t, "for")
	checkItems(t, []withItem{
		{fullerWorld(t, 23, 0, 0), ":a", ""},
		{fullerWorld(t, 24, 0, 0), ":a", "full"},
		{fullerWorld(t, 0, 0, 0), ":a", ""},
		{fullerWorld(t, 1, 0, 39), ":a", ""},
		{fullerWorld(t, 1, 0, 40), ":a", "full"},
		{fullerWorld(t, 24, 5, 40), ":a", "full"},
		{begun, ":a", "shape"},
		{begun, "=next", ""},
		{fullerWorld(t, 1, 0, 39), "&a#5", ""},
		{fullerWorld(t, 1, 0, 40), "&a#5", "full"},
		{fullerWorld(t, 0, 19, 0), "&a#5", ""},
		{fullerWorld(t, 0, 20, 0), "&a#5", "full"},
		{fullerWorld(t, 24, 20, 40), "&a#5", "full"},
		{fullerWorld(t, 24, 19, 39), "&a#5", ""},
		{old, "&a#5", ""},
		{last, "&a#5", ""},
		{fullerWorld(t, 24, 20, 40), "=dup", ""},
		{fullerWorld(t, 24, 20, 40), "~name1", ""},
	})
	next := checkDoItem(t, old, itemsOf(t, "&a#5")[0], 100)
	if !slices.Equal(next.St.Vars, old.St.Vars) || !slices.Equal(next.Dict, []impl.Entry{{Name: "a", Var: true, N: 101}}) {
		t.Error("a variable that is one already made", next.St.Vars, next.Dict)
	}
	full := fullData()
	for _, row := range [][2]string{{"~#5", "stack"}, {"~dup", "stack"}, {"~name1", "stack"}, {"~drop", ""}, {"=#5", ""}} {
		w := fullerWorld(t, 3, 4, 4)
		w.St.Data = full
		checkItems(t, []withItem{{w, row[0], row[1]}})
	}
	entered := fullerWorld(t, 3, 0, 3)
	entered.St.Ret = slotsUpTo(24)
	if next := checkDoItem(t, entered, itemsOf(t, "~name0")[0], 100); next.St.Fault != impl.FlRet || !next.Yellow || next.St.Fuel != 99 {
		t.Error("a definition without room on Ret made", worldText(next))
	}
}

// TestBodiesThatAreFull holds the last body with as many ops as it may have, and with fewer.
func TestBodiesThatAreFull(t *testing.T) {
	rows := []struct {
		ops    int
		yellow bool
		text   string
		fault  string
	}{
		{59, false, "=dup", ""}, {60, false, "=dup", "full"}, {58, false, "=dup", ""}, {0, false, "=dup", ""},
		{59, false, "=#5", ""}, {60, false, "=#5", "full"}, {59, false, "=if", ""}, {60, false, "=if", "full"},
		{58, true, "=dup", ""}, {59, true, "=dup", "full"}, {60, true, "=dup", "full"}, {57, true, "=dup", ""},
		{58, true, "=#5", ""}, {59, true, "=#5", "full"}, {58, true, "=then", ""}, {59, true, "=then", "full"},
		{59, false, "=then", ""}, {60, false, "=then", "full"}, {59, false, "=next", "shape"}, {60, false, "=next", "full"},
		{58, true, "=next", "shape"}, {59, true, "=next", "full"}, {60, false, "=nix", "word"}, {60, true, "=nix", "word"},
		{60, false, ":a", "shape"}, {60, false, "~word0", "shape"}, {60, false, "&x#5", ""}, {60, false, "\"note", ""}, {60, false, "~dup", ""},
	}
	for _, row := range rows {
		w := fullerWorld(t, 2, 3, 4)
		w.Dict = append(w.Dict, impl.Entry{Name: "word0"})
		w.Yellow, w.St.Data = row.yellow, []int32{8, 9}
		w.Defs[1].Body = bodyOf(t, strings.Repeat("nop ", max(0, row.ops-1)))
		if row.ops > 0 {
			w.Defs[1].Body = slices.Insert(w.Defs[1].Body, 0, impl.Op{Kind: impl.OIf})
		}
		checkItems(t, []withItem{{w, row.text, row.fault}})
		if row.yellow && row.fault != "word" {
			w.St.Data = nil
			checkItems(t, []withItem{{w, row.text, "stack"}})
		}
	}
	deep := fullerWorld(t, 1, 0, 0)
	for ops := range 61 {
		deep.Defs[0].Body = slices.Repeat([]impl.Op{{Kind: impl.OFor}}, ops)
		fault := map[bool]string{true: "full"}[ops == 60]
		checkItems(t, []withItem{{deep, "=for", fault}})
		if ops > 0 && ops < 60 {
			checkItems(t, []withItem{{deep, "=next", ""}, {deep, "=then", "shape"}})
		}
	}
}

// TestPlacesOfItems holds items at the last places of Cells, and beyond.
func TestPlacesOfItems(t *testing.T) {
	worlds := []impl.World{worldOf(t, 9, ""), worldOf(t, 9, "", ""), worldOf(t, 9)}
	worlds[1].Defs, worlds[1].Open = []impl.Def{{Name: "a"}}, true
	for _, w := range worlds {
		count := len(w.St.Cells)
		for _, text := range []string{"%7", "~dup", "~rtoeanir", "~rtoeanirrtoeanirrtoeanir", ":a", "=dup", "\"n", "^n", "_n", "~#5", "~#2147483647", "=#5", "=$80000000", "&x#5"} {
			it := itemsOf(t, text)[0]
			size := len(cellsByRows(it))
			for _, place := range append(placesAround(count), math.MaxInt-1, math.MaxInt-size, math.MaxInt-size+1, math.MinInt+1, math.MinInt+63) {
				next := checkDoItem(t, w, it, place)
				isIn := place >= 0 && place < count && place+size-1 < count
				if isIn == sameWorld(next, impl.World{}) {
					t.Errorf("%q at %d of %d cells made %+v", text, place, count, next)
				}
			}
			if place := count - size; text == "&x#5" && place > 0 {
				next := checkDoItem(t, w, it, place)
				if !slices.Equal(next.St.Vars, []int{count - 1}) || next.Dict[0].N != count-1 {
					t.Errorf("a variable at %d is %v", place, next.Dict)
				}
			}
		}
	}
}

// TestWorldsWithAFault holds worlds of which nothing more is made.
func TestWorldsWithAFault(t *testing.T) {
	for fault := 1; fault <= 13; fault++ {
		for _, yellow := range []bool{false, true} {
			w := fullerWorld(t, 3, 4, 5)
			w.St.Fault, w.St.Data, w.Yellow = fault, []int32{1, 0}, yellow
			for _, text := range []string{"%7", "~dup", "~load", "~empty", "~name0", "~nix", ":a", "=dup", "=nix", "\"n", "~#5", "=#5", "&x#5"} {
				if next := checkDoItem(t, w, itemsOf(t, text)[0], 3); !sameWorld(next, w) {
					t.Errorf("%q made %s of a world with a fault", text, worldText(next))
				}
				if next := checkDoItem(t, w, itemsOf(t, text)[0], 128); !sameWorld(next, impl.World{}) {
					t.Errorf("%q beside the cells of a world with a fault made %s", text, worldText(next))
				}
			}
			for _, b := range placesAround(2) {
				if next := checkLoad(t, w, b); !sameWorld(next, w) {
					t.Errorf("block %d made %s of a world with a fault", b, worldText(next))
				}
			}
		}
	}
}

// TestBlocksThatAreNone holds Load of no block; all else is as it was.
func TestBlocksThatAreNone(t *testing.T) {
	for _, yellow := range []bool{false, true} {
		for _, w := range []impl.World{worldOf(t, 9), worldOf(t, 9, ""), worldOf(t, 0, "~#1", "~#2"), fullerWorld(t, 3, 4, 5)} {
			w.Yellow = yellow
			count := len(w.St.Cells) / 64
			for _, b := range placesAround(count) {
				next := checkLoad(t, w, b)
				want := w
				want.St.Fault = impl.FlBlock
				if isNone := b < 0 || b >= count; isNone && !sameWorld(next, want) || !isNone && next.St.Fault == impl.FlBlock {
					t.Errorf("block %d of %d made %s", b, count, worldText(next))
				}
			}
		}
	}
	w := worldOf(t, 9, "")
	w.Yellow = true
	if next := checkLoad(t, w, 0); next.Yellow || next.St.Fuel != 9 || next.St.Fault != 0 {
		t.Error("an empty block made", worldText(next))
	}
}

// TestNamesThatStandTwice holds Look and Known by hand.
func TestNamesThatStandTwice(t *testing.T) {
	w := fullerWorld(t, 3, 20, 0)
	w.St.Vars = []int{9, 8, 7}
	w.Dict = []impl.Entry{{Name: "red", N: 1}, {Name: "sq", N: 2}, {Name: "red", Var: true, N: 8}, {Name: "a", N: 0}, {Name: "sq", N: 0}, {Name: "dup", N: 1}, {Name: "red", N: 2}}
	checkKnown(t, w)
	if known := impl.Known(w); !slices.Equal(known, []string{"red", "dup", "sq", "a"}) {
		t.Error("known are", known)
	}
	for name, want := range map[string]impl.Entry{"red": {Name: "red", N: 2}, "sq": {Name: "sq"}, "a": {Name: "a"}, "dup": {Name: "dup", N: 1}} {
		if e, ok := impl.Look(w, name); !ok || e != want {
			t.Errorf("%q is %+v, %v", name, e, ok)
		}
	}
	for _, name := range []string{"", "re", "redd", "Red", "drop", "load"} {
		if e, ok := impl.Look(w, name); ok || e != (impl.Entry{}) {
			t.Errorf("%q is %+v, %v", name, e, ok)
		}
	}
	w.Dict = w.Dict[:6]
	if e, ok := impl.Look(w, "red"); !ok || e != (impl.Entry{Name: "red", Var: true, N: 8}) {
		t.Errorf("red is %+v, %v", e, ok)
	}
	w.Dict = nil
	if known := impl.Known(w); len(known) != 0 {
		t.Error("known are", known)
	}
	checkKnown(t, w)
	w.Dict = slices.Repeat([]impl.Entry{{Name: "red"}, {Name: "red", N: 1}}, 20)
	checkKnown(t, w)
}

func TestNewWorld(t *testing.T) {
	check := func(cells []uint32, in []byte, fuel int, isOne bool) {
		t.Helper()
		want := impl.World{}
		if isOne {
			want.St = impl.St{Mem: make([]int32, 32), Cells: slices.Clone(cells), In: slices.Clone(in), Fuel: fuel}
		}
		store, bytes := holdCells(cells), hold(in, 9)
		got := impl.NewWorld(impl.Store{Cells: store.list()}, bytes.list(), fuel)
		store.check(t)
		bytes.check(t)
		clear(store.all)
		clear(bytes.all)
		if !sameWorld(got, want) || impl.WorldOk(got) != isOne {
			t.Fatalf("NewWorld of %d cells, %q and %d is %+v", len(cells), in, fuel, got)
		}
		checkKnown(t, got)
		checkOwnWorld(t, got, want)
	}
	m := mixer(131)
	for _, size := range slices.Concat(rightSizes, wrongSizes) {
		if size < 2000 {
			check(mixedCells(&m, size), []byte("in"), 9, slices.Contains(rightSizes, size))
		}
	}
	for _, size := range []int{0, 1, 99, 100, 101, 102, 1000} {
		check(mixedCells(&m, 64), make([]byte, size), 9, size <= 100)
	}
	for _, fuel := range []int{0, 1, 3999, 4000, 4001, -1, math.MaxInt, math.MinInt, 1 << 32} {
		check(mixedCells(&m, 64), nil, fuel, fuel >= 0 && fuel <= 4000)
	}
}

// checkNoWorld holds that a world isn't right, and that nothing is made of it.
func checkNoWorld(t *testing.T, what string, w impl.World) {
	t.Helper()
	if isWorld(w) {
		t.Fatalf("by the rows a world with %s is right", what)
	}
	checkKnown(t, w)
	for _, text := range []string{"~dup", "\"note", ":a", "=dup", "&x#5", "~#5", "~load"} {
		if next := checkDoItem(t, w, itemsOf(t, text)[0], 1); !sameWorld(next, impl.World{}) {
			t.Errorf("%q made %+v of a world with %s", text, next, what)
		}
	}
	for _, b := range []int{-1, 0, 1, 2} {
		if next := checkLoad(t, w, b); !sameWorld(next, impl.World{}) {
			t.Errorf("block %d made %+v of a world with %s", b, next, what)
		}
	}
}

// richWorld is a right world with something in all of its lists.
func richWorld(t *testing.T) impl.World {
	w := impl.World{Defs: defsOf(t, "dup * ; | #0 if 1025 @ then ; | for 5 if"), St: stOn(1, 2, 3), Open: true}
	w.Dict = []impl.Entry{{Name: "word0"}, {Name: "word1", N: 1}, {Name: "x", Var: true, N: 127}, {Name: "word2", N: 2}}
	return w
}

func TestWorldsThatAreWrong(t *testing.T) {
	if w := richWorld(t); !isWorld(w) || !impl.WorldOk(w) {
		t.Fatal("no right world")
	}
	for what, change := range wrongChanges() {
		w := richWorld(t)
		change(&w.St)
		checkNoWorld(t, what, w)
		w.Open, w.Defs, w.Dict = false, nil, nil
		checkNoWorld(t, what+" and nothing else", w)
	}
	for _, body := range []string{"then", "next", "if next", "for then", "if then then", "for if next", "#3", "#23", "#-1", "#24", "dup #3 for", strings.Repeat("1 ", 61), strings.Repeat("if ", 61)} {
		for k := range 3 {
			w := richWorld(t)
			w.Defs[k].Body = bodyOf(t, body)
			checkNoWorld(t, "the body "+body, w)
		}
	}
	for _, op := range []impl.Op{{Kind: -1}, {Kind: 9}, {Kind: 1 << 32}, {Kind: impl.OPrim, N: 24}, {Kind: impl.OPrim, N: -1}, {Kind: impl.OExit, N: 1}, {Kind: impl.OIf, N: 1}} {
		for k := range 3 {
			w := richWorld(t)
			w.Defs[k].Body = append(w.Defs[k].Body, op)
			checkNoWorld(t, "an op that is none", w)
		}
	}
	for _, name := range []string{"", " ", "A", "a b", mixedName(25, 3), mixedName(1000, 3)} {
		for k := range 3 {
			w := richWorld(t)
			w.Defs[k].Name = name
			checkNoWorld(t, "the definition "+name, w)
			w = richWorld(t)
			w.Dict[k].Name = name
			checkNoWorld(t, "the entry "+name, w)
		}
	}
}

// TestEntriesThatAreWrong holds entries of nothing, lists that are too long, and what is open where it may not be.
func TestEntriesThatAreWrong(t *testing.T) {
	for _, n := range append(placesAround(3), 5, 127, 126) {
		for _, isVar := range []bool{false, true} {
			w := richWorld(t)
			w.Dict[1] = impl.Entry{Name: "a", Var: isVar, N: n}
			if isOne := !isVar && n >= 0 && n < 3 || isVar && slices.Contains(w.St.Vars, n); !isOne {
				checkNoWorld(t, fmt.Sprint("an entry ", isVar, n), w)
				continue
			}
			if !impl.WorldOk(w) {
				t.Error("no right world with", w.Dict)
			}
			checkLoad(t, w, 0)
		}
	}
	changes := map[string]func(w *impl.World){
		"what isn't ended, and not open":  func(w *impl.World) { w.Open = false },
		"what isn't ended ahead":          func(w *impl.World) { w.Defs[1].Body = bodyOf(t, "if") },
		"what isn't ended at first":       func(w *impl.World) { w.Defs[0].Body = bodyOf(t, "for") },
		"nothing that could be open":      func(w *impl.World) { w.Defs, w.Dict = nil, nil },
		"an entry of no definition":       func(w *impl.World) { w.Defs, w.Open = nil, false },
		"an entry of no variable":         func(w *impl.World) { w.St.Vars = nil },
		"an entry of a cell":              func(w *impl.World) { w.Dict[2].N = 126 },
		"an entry too many":               func(w *impl.World) { w.Dict = slices.Repeat(w.Dict[:1], 41) },
		"far too many entries":            func(w *impl.World) { w.Dict = slices.Repeat(w.Dict[:1], 300) },
		"a definition too many":           func(w *impl.World) { w.Defs = namedDefs(t, 25, ";") },
		"far too many definitions":        func(w *impl.World) { w.Defs = namedDefs(t, 200, ";") },
		"a call of what isn't there":      func(w *impl.World) { w.Defs, w.Dict = w.Defs[:1], nil; w.Defs[0].Body = bodyOf(t, "#1") },
		"a definition that isn't ended":   func(w *impl.World) { w.Open = false; w.Defs[2].Body = bodyOf(t, "5 -if") },
		"one thing ended by another":      func(w *impl.World) { w.Defs[2].Body = bodyOf(t, "if for then") },
		"a thing that is ended too often": func(w *impl.World) { w.Defs[2].Body = bodyOf(t, "if if then then then") },
	}
	for what, change := range changes {
		w := richWorld(t)
		change(&w)
		checkNoWorld(t, what, w)
	}
	checkNoWorld(t, "nothing at all", impl.World{})
	checkNoWorld(t, "yellow alone", impl.World{Yellow: true})
	for _, dict := range [][]impl.Entry{{{Name: "A"}}, {{Name: ""}, {Name: "a", Var: true, N: -5}, {Name: "a", N: 1 << 40}}} {
		checkNoWorld(t, "entries alone", impl.World{Dict: dict})
	}
}

// TestWorldsThatAreRight holds worlds that are at the bounds.
func TestWorldsThatAreRight(t *testing.T) {
	changes := []func(w *impl.World){
		func(w *impl.World) {},
		func(w *impl.World) { w.Yellow = true },
		func(w *impl.World) { w.Open, w.Defs[2].Body = false, nil },
		func(w *impl.World) { w.Open, w.Dict, w.Defs = false, nil, nil },
		func(w *impl.World) { w.Open, w.Dict, w.Defs = false, w.Dict[2:3], nil },
		func(w *impl.World) { w.Dict = nil },
		func(w *impl.World) { w.Dict = slices.Repeat(w.Dict, 10) },
		func(w *impl.World) { w.Defs[2].Body = bodyOf(t, "#2 #1 #0") },
		func(w *impl.World) { w.Defs[0].Body = bodyOf(t, "#2 #1 #0") },
		func(w *impl.World) { w.Defs[2].Body = bodyOf(t, strings.Repeat("for ", 60)) },
		func(w *impl.World) { w.Defs[2].Body = bodyOf(t, "if then for -if then") },
		func(w *impl.World) { w.Defs[2].Body = nil },
		func(w *impl.World) { w.Defs = namedDefs(t, 24, "#23 ;", "1") },
		func(w *impl.World) { w.Defs[0].Name, w.Defs[1].Name = w.Defs[2].Name, w.Defs[2].Name },
		func(w *impl.World) { w.Defs[0].Name, w.Dict[0].Name = "dup", mixedName(24, 5) },
		func(w *impl.World) { w.St.Fault = 13 },
		func(w *impl.World) { w.St.Cells, w.St.Vars, w.Dict = nil, nil, w.Dict[:2] },
		func(w *impl.World) { w.St.Data, w.St.Ret = nil, nil },
	}
	for at, change := range changes {
		w := richWorld(t)
		change(&w)
		if !isWorld(w) || !impl.WorldOk(w) {
			t.Errorf("world %d isn't right", at)
		}
		checkKnown(t, w)
		for b := range 3 {
			checkLoad(t, w, b)
		}
		for _, text := range []string{"~dup", "~word2", "~x", "~load", "~empty", ":a", "=dup", "=if", "=next", "=word2", "=x", "&x#5", "~#5", "=#5", "%7"} {
			checkDoItem(t, w, itemsOf(t, text)[0], 9)
		}
	}
}

// TestItemsThatNobodyDoes holds items that are none, and those that do nothing.
func TestItemsThatNobodyDoes(t *testing.T) {
	worlds := []impl.World{richWorld(t), worldOf(t, 0, ""), fullerWorld(t, 24, 20, 40)}
	for _, w := range worlds {
		for _, it := range noItems {
			for _, place := range []int{-1, 0, 9, 64} {
				if next := checkDoItem(t, w, it, place); !sameWorld(next, impl.World{}) {
					t.Errorf("%+v made %s", it, worldText(next))
				}
			}
		}
		for _, text := range []string{"%0", "%7", "%ffffffff", "\"note", "^cap", "_caps", "\"dup", "^if", "_load"} {
			for _, yellow := range []bool{false, true} {
				w.Yellow = yellow
				next, want := checkDoItem(t, w, itemsOf(t, text)[0], 9), w
				if want.St.Fuel > 0 {
					want.St.Fuel--
				} else {
					want.St.Fault = impl.FlFuel
				}
				if !sameWorld(next, want) {
					t.Errorf("%q made %s of %s", text, worldText(next), worldText(w))
				}
			}
		}
	}
}

// TestShortBlocks holds all blocks of up to four of some items, with two states ahead.
func TestShortBlocks(t *testing.T) {
	words := map[byte]string{'d': ":b", 'c': "=b", 'i': "=if", 't': "=then", 'x': "=;", '0': "~#0", '1': "~#1", 'r': "~b", 'p': "~drop", 'v': "&b#3", 'e': "~empty", 'l': "~load"}
	seen := map[int]int{}
	ahead := []impl.World{worldOf(t, 60, "", "=#7"), worldOf(t, 6, "", ":b =#4 =;")}
	ahead[1].Yellow, ahead[1].St.Data = true, []int32{0, 1}
	eachText("dcitx01rpvel", 4, func(s string) {
		var texts []string
		for at := range len(s) {
			texts = append(texts, words[s[at]])
		}
		block := cellsOfTexts(t, strings.Join(texts, " "))
		for _, w := range ahead {
			w.St.Cells = slices.Concat(block, w.St.Cells[64:])
			want, _ := loadByRows(w, 0)
			got := impl.Load(w, 0)
			if !sameWorld(got, want) || !isWorld(got) || !impl.WorldOk(got) {
				t.Fatalf("%q made %s, want %s", texts, safeText(got), safeText(want))
			}
			seen[want.St.Fault]++
		}
	})
	for _, fault := range []int{0, impl.FlWord, impl.FlStack, impl.FlFuel, impl.FlDepth, impl.FlShape, impl.FlEnd, impl.FlRet} {
		if seen[fault] < 20 {
			t.Error("only", seen[fault], "ended with", fault)
		}
	}
}

// loadNames are names of all kinds of words, and some that nothing but a definition has.
var loadNames = []string{"b", "c", "sq", "word1", "rtoeanirrtoeanir", "dup", "drop", "+", "a", "push", "pop", "!", "@", "if", "then", "for", ";", "load", "empty", "key"}

// mixedLoadItem tells an item that is often one of a program's.
func mixedLoadItem(m *mixer) impl.Item {
	name := loadNames[m.below(len(loadNames))]
	if m.below(3) > 0 {
		name = loadNames[m.below(5)]
	}
	op := []string{"if", "-if", "then", "for", "next", ";", ";"}[m.below(7)]
	n := []int32{0, 1, 2, -1, 7, 1024, int32(1024 + m.below(140)), most32, least32}[m.below(9)]
	switch kind := m.below(20); {
	case kind < 3:
		return impl.Item{Kind: impl.IDef, Name: name}
	case kind < 6:
		return impl.Item{Kind: impl.IComp, Name: name}
	case kind < 9:
		return impl.Item{Kind: impl.IComp, Name: op}
	case kind < 11:
		return impl.Item{Kind: impl.IGreen, N: n, Hex: m.below(2) == 0}
	case kind == 11:
		return impl.Item{Kind: impl.IExec, Name: []string{"push", "pop", "@", "!", "i"}[m.below(5)]}
	case kind < 14:
		return impl.Item{Kind: impl.IExec, Name: name}
	case kind < 17:
		return impl.Item{Kind: impl.IYel, N: n}
	case kind == 17:
		return impl.Item{Kind: impl.IVar, Name: loadNames[m.below(3)], N: n}
	case kind == 18:
		return impl.Item{Kind: impl.IExec, Name: []string{"load", "load", "load", "empty"}[m.below(4)]}
	}
	return []impl.Item{{Raw: 7}, {Kind: impl.INote, Name: name}, {Kind: impl.ICap, Name: name}, {Kind: impl.ICaps, Name: name}}[m.below(4)]
}

// mixedBlock tells the cells of a block of such items.
func mixedBlock(m *mixer) []uint32 {
	var cells []uint32
	for range m.below(40) {
		cells = append(cells, cellsByRows(mixedLoadItem(m))...)
	}
	cells = append(cells, make([]uint32, 64)...)
	return cells[:64]
}

// mixedWorld is any right world without a fault, sometimes one that is nearly full.
func mixedWorld(t *testing.T, m *mixer) impl.World {
	w := impl.World{St: mixedSt(m), Yellow: m.below(2) == 0}
	w.St.Fuel = min(w.St.Fuel, 200)
	for from := 0; from < len(w.St.Cells); from += 64 {
		copy(w.St.Cells[from:], mixedBlock(m))
	}
	count := []int{0, 1, 2, 3, 23, 24}[m.below(6)]
	for range count {
		w.Defs = append(w.Defs, impl.Def{Name: loadNames[m.below(len(loadNames))], Body: mixedBody(m, 60, count)})
	}
	if count > 0 && m.below(4) > 0 {
		w.Open = true
		body := w.Defs[count-1].Body
		body = append(slices.Clone(body[:m.below(len(body)+1)]), bodyOf(t, strings.Repeat("drop ", 60))...)
		w.Defs[count-1].Body = body[:[]int{0, 1, 5, 57, 58, 59, 60}[m.below(7)]]
	}
	for range []int{0, 1, 3, 38, 39, 40}[m.below(6)] {
		e := impl.Entry{Name: loadNames[m.below(len(loadNames))]}
		switch {
		case len(w.St.Vars) > 0 && m.below(2) == 0:
			e.Var, e.N = true, w.St.Vars[m.below(len(w.St.Vars))]
		case count > 0:
			e.N = m.below(count)
		default:
			continue
		}
		w.Dict = append(w.Dict, e)
	}
	return w
}

// TestAnyWorld holds mixed worlds, and what items and blocks make of them, one behind the other.
func TestAnyWorld(t *testing.T) {
	m := mixer(13)
	seen, items := map[int]int{}, 0
	for range 150 {
		w := mixedWorld(t, &m)
		for range 5 {
			checkKnown(t, w)
			for b := -1; b <= len(w.St.Cells)/64; b++ {
				seen[checkLoad(t, w, b).St.Fault]++
			}
			next := checkDoItem(t, w, mixedLoadItem(&m), m.below(len(w.St.Cells)+3)-1)
			if isWorld(next) {
				seen[next.St.Fault]++
			}
			if isWorld(next) && next.St.Fault == 0 {
				w = next
				items++
			}
		}
	}
	for _, fault := range []int{0, impl.FlWord, impl.FlStack, impl.FlRet, impl.FlAddr, impl.FlFuel, impl.FlFull, impl.FlShape, impl.FlMix, impl.FlBlock} {
		if seen[fault] < 3 {
			t.Error("only", seen[fault], "ended with", fault)
		}
	}
	if items < 100 {
		t.Error("only", items, "items were done")
	}
}

// livelyBlocks are blocks of definitions that mostly do something, of variables, of what calls them, and of loads.
func livelyBlocks(t *testing.T, m *mixer) []string {
	var texts []string
	for b := range 3 {
		text := ""
		for k := range 1 + m.below(3) {
			name := string(loadNames[k+m.below(2)])
			switch m.below(5) {
			case 0:
				text += "&" + []string{"b", "c", "x"}[m.below(3)] + "#" + strconv.Itoa(m.below(9)) + " "
			case 1:
				text += "~#" + strconv.Itoa(m.below(4)) + " ~load "
			default:
				text += ":" + name + " "
				for _, word := range strings.Fields(livelyText(m, 2, 0, 1)) {
					text += livelyWord(m, word) + " "
				}
				text += []string{"=; ", "=; ", "=; ", ""}[m.below(4)] + "~#" + strconv.Itoa(b) + " ~#3 ~" + name + " "
			}
		}
		texts = append(texts, text)
	}
	return texts
}

// livelyWord tells the item of a word of livelyText.
func livelyWord(m *mixer, word string) string {
	_, err := strconv.Atoi(word)
	switch {
	case word[0] == '#':
		return []string{"=b", "=c", "~b", "=x", "~#9 =+"}[m.below(5)]
	case err == nil:
		return "=#" + word
	}
	return "=" + word
}

// TestAnyProgram holds mixed programs, each of which is loaded block by block.
func TestAnyProgram(t *testing.T) {
	m := mixer(133)
	seen, long := map[int]int{}, 0
	for range 1000 {
		w := worldOf(t, 50+m.below(300), livelyBlocks(t, &m)...)
		for b := range 3 {
			next := checkLoad(t, w, b)
			seen[next.St.Fault]++
			if next.St.Fault == 0 && w.St.Fuel-next.St.Fuel > 30 {
				long++
			}
			next.St.Fault = 0
			w = next
		}
	}
	for _, fault := range []int{0, impl.FlStack, impl.FlRet, impl.FlFuel, impl.FlShape, impl.FlDepth, impl.FlBlock} {
		if seen[fault] < 3 {
			t.Error("only", seen[fault], "ended with", fault)
		}
	}
	if long < 50 {
		t.Error("only", long, "went on for long")
	}
}

// TestLongLoading holds loading that takes all of the most fuel.
func TestLongLoading(t *testing.T) {
	blocks := []string{"~#0 ~load ~#0 ~load ~#0 ~load", ":b =; ~#1 ~load |~b ~b ~b ~b ~#1 ~load ~#1 ~load ~#1 ~load ~#1 ~load", "~#0 ~@ ~#3 ~or ~#0 ~! ~#0 ~load"}
	for _, text := range blocks {
		w := worldOf(t, 4000, strings.Split(text, "|")...)
		got, want := impl.Load(w, 0), impl.World{}
		if want, _ = loadByRows(w, 0); !sameWorld(got, want) {
			t.Errorf("%q made %s, want %s", text, safeText(got), worldText(want))
		}
	}
	forever := worldOf(t, 4000, ":ever =ever =; ~ever")
	if got := impl.Load(forever, 0); got.St.Fault != impl.FlFuel || got.St.Fuel != 0 || !got.Yellow {
		t.Error("a definition without end left", safeText(got))
	}
}
