package tests

import (
	"math"
	"slices"
	"strconv"
	"strings"
	"testing"
	"unsafe"

	"loop.example/g00711/impl"
)

// endedBy are the signs of the ops that have none of their own number, with what ends them, if they begin.
var endedBy = map[string]string{"if": "then", "-if": "then", "then": "", "for": "next", "next": "", ";": ""}

// signKinds are the Kinds of the ops with signs.
var signKinds = map[string]int{"if": 3, "-if": 4, "then": 5, "for": 6, "next": 7, ";": 8}

// opOf tells the op of a word of bodyOf.
func opOf(t *testing.T, word string) impl.Op {
	t.Helper()
	if kind, ok := signKinds[word]; ok {
		return impl.Op{Kind: kind}
	}
	if k := slices.Index(primNames, word); k >= 0 {
		return impl.Op{Kind: 1, N: int32(k)}
	}
	digits, isCall := strings.CutPrefix(word, "#")
	n, err := strconv.ParseInt(digits, 10, 32)
	if err != nil {
		t.Fatalf("%q is no op", word)
	}
	if isCall {
		return impl.Op{Kind: 2, N: int32(n)}
	}
	return impl.Op{N: int32(n)}
}

// bodyOf tells the body that is written so: numbers, built-in words, signs, and calls as #2.
func bodyOf(t *testing.T, s string) []impl.Op {
	t.Helper()
	var body []impl.Op
	for _, word := range strings.Fields(s) {
		body = append(body, opOf(t, word))
	}
	return body
}

// signOfOp tells the sign of an op that has one, a point for another one, the empty text for what is no op.
func signOfOp(o impl.Op) string {
	for sign, kind := range signKinds {
		if o.Kind == kind {
			if o.N != 0 {
				return ""
			}
			return sign
		}
	}
	if o.Kind == 0 || o.Kind == 1 && o.N >= 0 && o.N <= 23 || o.Kind == 2 && o.N >= 0 && o.N <= 23 {
		return "."
	}
	return ""
}

// bracketOf tells a bracket for an op that begins or ends.
func bracketOf(o impl.Op) string {
	switch o.Kind {
	case 3, 4:
		return "("
	case 5:
		return ")"
	case 6:
		return "["
	case 7:
		return "]"
	}
	return ""
}

// endsInOrder tells whether all that begins is ended: what has nothing inside is taken out, again and again.
func endsInOrder(body []impl.Op) bool {
	left := ""
	for _, op := range body {
		left += bracketOf(op)
	}
	for left != "" {
		next := strings.ReplaceAll(strings.ReplaceAll(left, "()", ""), "[]", "")
		if next == left {
			return false
		}
		left = next
	}
	return true
}

func isShape(body []impl.Op) bool {
	wrong := slices.ContainsFunc(body, func(o impl.Op) bool { return signOfOp(o) == "" })
	return len(body) <= 60 && !wrong && endsInOrder(body)
}

// treesByRows tells the trees of a right body: each is the least beginning of it in which all is ended.
func treesByRows(body []impl.Op) []impl.Tree {
	var list []impl.Tree
	for len(body) > 0 {
		size := 1
		for bracketOf(body[0]) != "" && !endsInOrder(body[:size]) {
			size++
		}
		tree := impl.Tree{Kind: body[0].Kind, N: body[0].N}
		if size > 1 {
			tree.Kids = treesByRows(body[1 : size-1])
		}
		list = append(list, tree)
		body = body[size:]
	}
	return list
}

func sameTrees(one, other []impl.Tree) bool {
	return slices.EqualFunc(one, other, func(one, other impl.Tree) bool {
		return one.Kind == other.Kind && one.N == other.N && sameTrees(one.Kids, other.Kids)
	})
}

// writtenOut tells the ops of any trees, but no more than some of those of too many.
func writtenOut(list []impl.Tree, deep int) []impl.Op {
	var body []impl.Op
	for _, tree := range list {
		if deep > 61 || len(body) > 61 {
			break
		}
		op := impl.Op{Kind: tree.Kind, N: tree.N}
		body = slices.Concat(body, []impl.Op{op}, writtenOut(tree.Kids, deep+1))
		if end := endedBy[signOfOp(op)]; end != "" {
			body = append(body, impl.Op{Kind: signKinds[end]})
		}
	}
	return body
}

// flatByRows tells the body whose trees these are.
func flatByRows(list []impl.Tree) []impl.Op {
	body := writtenOut(list, 0)
	if !isShape(body) || !sameTrees(treesByRows(body), list) {
		return nil
	}
	return body
}

// span is where a list of an answer stands, with the room behind it.
type span struct{ from, end uintptr }

func spansOf(list []impl.Tree) []span {
	var spans []span
	if from := uintptr(unsafe.Pointer(unsafe.SliceData(list))); cap(list) > 0 {
		spans = append(spans, span{from, from + uintptr(cap(list))*unsafe.Sizeof(impl.Tree{})})
	}
	for _, tree := range list {
		spans = append(spans, spansOf(tree.Kids)...)
	}
	return spans
}

// checkApart looks whether two lists of trees stand in the same memory.
func checkApart(t *testing.T, list []impl.Tree) {
	t.Helper()
	spans := spansOf(list)
	slices.SortFunc(spans, func(one, other span) int { return int(one.from) - int(other.from) })
	for at := 1; at < len(spans); at++ {
		if spans[at].from < spans[at-1].end {
			t.Fatalf("two lists of an answer are one: %+v", list)
		}
	}
}

// checkShape holds ShapeOk and TreeOf of a body against the rows, and FlatOf of its trees against the body.
func checkShape(t *testing.T, body []impl.Op) {
	t.Helper()
	right := isShape(body)
	var want []impl.Tree
	if right {
		want = treesByRows(body)
	}
	argument := hold(body, impl.Op{Kind: impl.OThen})
	for range 2 {
		if ok := impl.ShapeOk(argument.list()); ok != right {
			t.Fatalf("ShapeOk(%v) is %v", body, ok)
		}
		list := impl.TreeOf(argument.list())
		argument.check(t)
		if !sameTrees(list, want) {
			t.Fatalf("TreeOf(%v) = %+v, want %+v", body, list, want)
		}
		checkApart(t, list)
		if right {
			checkFlat(t, list, body)
		}
	}
}

// heldTrees are trees that are an argument: all of their lists are parts of one, each with others as the room behind it.
type heldTrees struct {
	all, kept []impl.Tree
	size      int
}

func holdTrees(list []impl.Tree) heldTrees {
	all := slices.Clone(list)
	var spots [][2]int
	for at := 0; at < len(all); at++ {
		spots = append(spots, [2]int{len(all), len(all[at].Kids)})
		all = append(all, all[at].Kids...)
	}
	size := len(all)
	all = append(all, slices.Repeat([]impl.Tree{{Kind: 3, N: 33}}, 80)...)
	for at, spot := range spots {
		if spot[1] > 0 {
			all[at].Kids = all[spot[0] : spot[0]+spot[1]]
		}
	}
	return heldTrees{all, slices.Clone(all), min(size, len(list))}
}

// wipe holds the trees against what they were, and writes over them.
func (h heldTrees) wipe(t *testing.T) {
	t.Helper()
	for at, tree := range h.all {
		was := h.kept[at]
		if tree.Kind != was.Kind || tree.N != was.N || len(tree.Kids) != len(was.Kids) || unsafe.SliceData(tree.Kids) != unsafe.SliceData(was.Kids) {
			t.Fatalf("an argument was written into: %+v was %+v", tree, was)
		}
	}
	clear(h.all)
}

// checkFlat holds the body of trees against what it should be.
func checkFlat(t *testing.T, list []impl.Tree, want []impl.Op) {
	t.Helper()
	for range 2 {
		argument := holdTrees(list)
		body := impl.FlatOf(argument.all[:argument.size])
		argument.wipe(t)
		if !slices.Equal(body, want) {
			t.Fatalf("FlatOf(%+v) = %v, want %v", list, body, want)
		}
		wipeList(&body, impl.Op{Kind: 7, N: 7})
	}
}

// checkTrees holds FlatOf of trees against the rows, and TreeOf of that against the trees.
func checkTrees(t *testing.T, list []impl.Tree) []impl.Op {
	t.Helper()
	want := flatByRows(list)
	checkFlat(t, list, want)
	if back := impl.TreeOf(want); want != nil && !sameTrees(back, list) {
		t.Fatalf("%+v came back as %+v", list, back)
	}
	return want
}

func TestNumbersOfBodies(t *testing.T) {
	kinds := []int{impl.OLit, impl.OPrim, impl.OCall, impl.OIf, impl.OUnless, impl.OThen, impl.OFor, impl.ONext, impl.OExit}
	if !slices.Equal(kinds, []int{0, 1, 2, 3, 4, 5, 6, 7, 8}) {
		t.Error("kinds", kinds)
	}
	if impl.MaxBody != 60 || impl.MaxDefs != 24 {
		t.Error("limits", impl.MaxBody, impl.MaxDefs)
	}
}

// leafOf is a tree without Kids.
func leafOf(t *testing.T, word string) impl.Tree {
	op := opOf(t, word)
	return impl.Tree{Kind: op.Kind, N: op.N}
}

func treeOf(t *testing.T, word string, kids ...impl.Tree) impl.Tree {
	tree := leafOf(t, word)
	tree.Kids = kids
	return tree
}

func TestBodiesByHand(t *testing.T) {
	leaf := func(word string) impl.Tree { return leafOf(t, word) }
	tree := func(word string, kids ...impl.Tree) impl.Tree { return treeOf(t, word, kids...) }
	rows := []struct {
		body string
		list []impl.Tree
	}{
		{"", nil},
		{"-7", []impl.Tree{leaf("-7")}},
		{"0 dup #0 ; #23 nop", []impl.Tree{leaf("0"), leaf("dup"), leaf("#0"), leaf(";"), leaf("#23"), leaf("nop")}},
		{"if then", []impl.Tree{tree("if")}},
		{"-if then for next", []impl.Tree{tree("-if"), tree("for")}},
		{"5 for i if . then next ;", []impl.Tree{leaf("5"), tree("for", leaf("i"), tree("if", leaf("."))), leaf(";")}},
		{"if -if for next then then", []impl.Tree{tree("if", tree("-if", tree("for")))}},
		{"for if ; then 1 -if #2 then next 3", []impl.Tree{tree("for", tree("if", leaf(";")), leaf("1"), tree("-if", leaf("#2"))), leaf("3")}},
		{"if if then if then then", []impl.Tree{tree("if", tree("if"), tree("if"))}},
		{"for for 1 next next 2 for next", []impl.Tree{tree("for", tree("for", leaf("1"))), leaf("2"), tree("for")}},
	}
	for _, row := range rows {
		body := bodyOf(t, row.body)
		if !impl.ShapeOk(body) {
			t.Errorf("%q is no body", row.body)
		}
		if list := impl.TreeOf(body); !sameTrees(list, row.list) {
			t.Errorf("%q became %+v, want %+v", row.body, list, row.list)
		}
		checkShape(t, body)
		checkFlat(t, row.list, body)
		checkTrees(t, row.list)
	}
}

// TestEndsThatAreWrong holds bodies of which something ends that wasn't begun, or begins and isn't ended.
func TestEndsThatAreWrong(t *testing.T) {
	rows := []string{
		"then", "next", "if", "-if", "for", "then if", "next for", "then then", "if then then", "for next next", "if if then", "for for next",
		"if next", "-if next", "for then", "if next then", "for then next", "if for then next", "for if next then", "for -if next then",
		"if then then if", "next for next", "1 then", "1 if 2", "if then next", "for next then", "if ; next", "for next if", "-if if then", "if -if for then next then",
	}
	for _, row := range rows {
		body := bodyOf(t, row)
		if impl.ShapeOk(body) || len(impl.TreeOf(body)) != 0 {
			t.Errorf("%q is no body", row)
		}
		checkShape(t, body)
	}
}

// TestShortBodies holds all bodies of a few ops of each Kind.
func TestShortBodies(t *testing.T) {
	words := map[byte]string{'0': "4", 'd': "over", 'c': "#3", 'i': "if", 'u': "-if", 't': "then", 'f': "for", 'n': "next", 'x': ";"}
	bodyOfSigns := func(s string) []impl.Op {
		var body []impl.Op
		for at := range len(s) {
			body = append(body, opOf(t, words[s[at]]))
		}
		return body
	}
	right := 0
	count := func(s string) {
		body := bodyOfSigns(s)
		checkShape(t, body)
		if isShape(body) {
			right++
		}
	}
	eachText("0dciutfnx", 3, count)
	eachText("0itfn", 5, count)
	if right < 100 {
		t.Error("only", right, "were right")
	}
	eachText("iutfn", 7, func(s string) {
		body := bodyOfSigns(s)
		if ok := impl.ShapeOk(body); ok != isShape(body) {
			t.Fatalf("ShapeOk(%v) is %v", body, ok)
		}
	})
}

// someOps are ops of each Kind, with each N that a Kind may turn at, and of no Kind.
func someOps() []impl.Op {
	numbers := []int32{0, 1, -1, 2, 3, 5, 8, 22, 23, 24, 25, 47, 48, 59, 60, 61, 255, 256, -23, -24, -256, 1 << 16, 1<<16 + 1, least32, least32 + 1, most32, most32 - 1}
	kinds := []int{-1, -2, -8, -9, 9, 10, 11, 24, 255, 256, 264, 1 << 32, 1<<32 + 2, 1<<32 + 8, math.MaxInt, math.MinInt, math.MinInt + 3}
	for kind := range 9 {
		kinds = append(kinds, kind)
	}
	var ops []impl.Op
	for _, kind := range kinds {
		for _, n := range numbers {
			ops = append(ops, impl.Op{Kind: kind, N: n})
		}
	}
	return ops
}

// TestOpsOfABody holds each op as a body, and at each place of some bodies.
func TestOpsOfABody(t *testing.T) {
	frames := [][2]string{{"", ""}, {"if", "then"}, {"for 1", "next ;"}, {"if for", "next then"}, {"", "then"}, {"for", ""}, {"dup", "next"}}
	for _, op := range someOps() {
		for _, frame := range frames {
			checkShape(t, slices.Concat(bodyOf(t, frame[0]), []impl.Op{op}, bodyOf(t, frame[1])))
		}
	}
	for k := range int32(24) {
		for _, kind := range []int{impl.OPrim, impl.OCall} {
			if !impl.ShapeOk([]impl.Op{{Kind: kind, N: k}}) {
				t.Error("no op", kind, k)
			}
		}
	}
}

// deepBody is one of so many beginnings, one in the other, around some more words.
func deepBody(t *testing.T, deep, more int) []impl.Op {
	begins, ends := []string{"if", "for", "-if"}, []string{"then", "next", "then"}
	body := bodyOf(t, strings.Repeat("dup ", more))
	for at := range deep {
		body = slices.Concat(bodyOf(t, begins[at%3]), body, bodyOf(t, ends[at%3]))
	}
	return body
}

// TestLongBodies holds bodies of as many ops as there may be, and of one more.
func TestLongBodies(t *testing.T) {
	for _, deep := range []int{0, 1, 2, 3, 10, 28, 29, 30} {
		for _, size := range []int{58, 59, 60, 61, 62, 63, 100, 500} {
			body := deepBody(t, deep, max(0, size-2*deep))
			if ok := impl.ShapeOk(body); ok != (len(body) <= 60) {
				t.Error("a body of", len(body), "ops is right:", ok)
			}
			checkShape(t, body)
			checkTrees(t, treesByRows(body))
		}
	}
	for _, deep := range []int{31, 32, 60, 61, 200} {
		checkShape(t, deepBody(t, deep, 0))
		checkTrees(t, treesByRows(deepBody(t, deep, 0)))
	}
	for _, sign := range []string{"then ", "if ", "for ", "next ", "if then ", "-if then ", "for next "} {
		for _, count := range []int{29, 30, 31, 60, 61, 62} {
			checkShape(t, bodyOf(t, strings.Repeat(sign, count)))
		}
	}
	deepest := deepBody(t, 30, 0)
	if !impl.ShapeOk(deepest) || impl.ShapeOk(append(deepest, impl.Op{})) || impl.ShapeOk(make([]impl.Op, 61)) || !impl.ShapeOk(make([]impl.Op, 60)) {
		t.Error("the limit of a body")
	}
}

// TestTreesThatNoBodyHas holds trees of kinds that end, of leaves with Kids, and with another N.
func TestTreesThatNoBodyHas(t *testing.T) {
	kids := [][]impl.Tree{nil, {}, {leafOf(t, "2")}, {leafOf(t, "then")}, {treeOf(t, "if", leafOf(t, "i")), leafOf(t, ";")}}
	right := 0
	for _, op := range someOps() {
		for _, some := range kids {
			one := []impl.Tree{{Kind: op.Kind, N: op.N, Kids: some}}
			for _, list := range [][]impl.Tree{
				one, {{Kind: impl.OFor, Kids: one}}, {leafOf(t, "1"), one[0], leafOf(t, "1")}, {{Kind: impl.OUnless, Kids: []impl.Tree{{Kind: impl.OIf}, one[0]}}},
				{{Kind: impl.OIf}, one[0]}, {leafOf(t, "1"), {Kind: impl.OExit, Kids: one}}, {{Kind: impl.ONext, Kids: one}},
			} {
				if checkTrees(t, list) != nil {
					right++
				}
			}
		}
	}
	if right < 500 {
		t.Error("only", right, "were right")
	}
}

// TestTreesWithoutEnd holds trees that stand among their own Kids, or that are more than can be gone through.
func TestTreesWithoutEnd(t *testing.T) {
	for _, kind := range []int{impl.OIf, impl.OUnless, impl.OFor, impl.OLit, impl.OThen, -1} {
		ring := []impl.Tree{{N: 1}, {Kind: kind}, {N: 2}}
		ring[1].Kids = ring
		own := []impl.Tree{{Kind: kind}}
		own[0].Kids = own
		for _, list := range [][]impl.Tree{ring, own, ring[1:], {{Kind: impl.OFor, Kids: own}}} {
			if body := impl.FlatOf(list); len(body) != 0 {
				t.Error("a ring has the body", body)
			}
		}
	}
	twice, deep := []impl.Tree{{N: 5}}, []impl.Tree{{N: 6}}
	for range 100000 {
		deep = []impl.Tree{{Kind: impl.OFor, Kids: deep}}
	}
	for range 100 {
		twice = []impl.Tree{{Kind: impl.OIf, Kids: twice}, {Kind: impl.OUnless, Kids: twice}}
	}
	for _, list := range [][]impl.Tree{twice, deep, make([]impl.Tree, 100000), slices.Repeat([]impl.Tree{{Kind: impl.OIf}}, 100000)} {
		if body := impl.FlatOf(list); len(body) != 0 {
			t.Error("too many trees have the body", body)
		}
	}
}

// TestTreesOfOneList holds trees that have the same Kids.
func TestTreesOfOneList(t *testing.T) {
	kids := bodyOf(t, "1 if 2 then")
	shared := impl.TreeOf(kids)
	list := []impl.Tree{{Kind: impl.OIf, Kids: shared}, {Kind: impl.OFor, Kids: shared}, {Kind: impl.OUnless, Kids: shared[:1]}}
	want := bodyOf(t, "if 1 if 2 then then for 1 if 2 then next -if 1 then")
	if body := impl.FlatOf(list); !slices.Equal(body, want) {
		t.Errorf("%v, want %v", body, want)
	}
	checkApart(t, impl.TreeOf(impl.FlatOf(list)))
}

// mixedBody tells a right body of at most so many ops, whose calls are of some of so many definitions.
func mixedBody(m *mixer, room, defs int) []impl.Op {
	var body []impl.Op
	begins := []int{impl.OIf, impl.OUnless, impl.OFor}
	ends := map[int]int{impl.OIf: impl.OThen, impl.OUnless: impl.OThen, impl.OFor: impl.ONext}
	for len(body) < room && m.below(8) > 0 {
		switch kind := m.below(6); {
		case kind < 2 && len(body)+2 <= room:
			begin := begins[m.below(3)]
			inner := mixedBody(m, room-len(body)-2, defs)
			body = slices.Concat(body, []impl.Op{{Kind: begin}}, inner, []impl.Op{{Kind: ends[begin]}})
		case kind == 3:
			body = append(body, impl.Op{Kind: impl.OPrim, N: int32(m.below(24))})
		case kind == 4 && defs > 0:
			body = append(body, impl.Op{Kind: impl.OCall, N: int32(m.below(defs))})
		case kind == 5:
			body = append(body, impl.Op{Kind: impl.OExit})
		default:
			body = append(body, impl.Op{N: int32(m.below(1<<16))<<16>>m.below(32) - int32(m.below(9))})
		}
	}
	return body
}

// bentBody tells a body with an op that is put in, taken out, exchanged, or another one.
func bentBody(m *mixer, body []impl.Op, ops []impl.Op) []impl.Op {
	body = slices.Clone(body)
	at, op := m.below(len(body)+1), ops[m.below(len(ops))]
	if m.below(2) == 0 {
		op = impl.Op{Kind: m.below(9)}
	}
	switch other := m.below(len(body) + 1); {
	case m.below(3) == 0 || at == len(body) || other == len(body):
		return slices.Insert(body, at, op)
	case m.below(2) == 0:
		return slices.Delete(body, at, at+1)
	case m.below(2) == 0:
		body[at] = op
	default:
		body[at], body[other] = body[other], body[at]
	}
	return body
}

func TestMixedBodies(t *testing.T) {
	m, ops := mixer(9), someOps()
	bent := 0
	for range 4000 {
		body := mixedBody(&m, 60, 24)
		if !impl.ShapeOk(body) {
			t.Fatalf("%v is right", body)
		}
		checkShape(t, body)
		other := bentBody(&m, body, ops)
		checkShape(t, other)
		if !impl.ShapeOk(other) {
			bent++
		}
	}
	if bent < 1000 {
		t.Error("only", bent, "were wrong")
	}
}

// mixedTrees tells trees, most of which a body has.
func mixedTrees(m *mixer, deep int, ops []impl.Op) []impl.Tree {
	var list []impl.Tree
	for m.below(4) > 0 {
		tree := impl.Tree{Kind: []int{0, 1, 2, 8}[m.below(4)]}
		if m.below(2) == 0 && deep > 0 {
			tree = impl.Tree{Kind: []int{3, 4, 6}[m.below(3)], Kids: mixedTrees(m, deep-1, ops)}
		}
		if m.below(40) == 0 {
			op := ops[m.below(len(ops))]
			tree.Kind, tree.N = op.Kind, op.N
		}
		list = append(list, tree)
	}
	return list
}

func TestMixedTrees(t *testing.T) {
	m, ops := mixer(99), someOps()
	right := 0
	for range 6000 {
		if checkTrees(t, mixedTrees(&m, m.below(7), ops)) != nil {
			right++
		}
	}
	if right < 1000 {
		t.Error("only", right, "were right")
	}
}

func isName(s string) bool {
	for at := range len(s) {
		if strings.IndexByte(nameLetters(), s[at]) < 0 {
			return false
		}
	}
	return len(s) >= 1 && len(s) <= 24
}

func isDefs(defs []impl.Def) bool {
	for _, def := range defs {
		calls := slices.ContainsFunc(def.Body, func(o impl.Op) bool { return o.Kind == 2 && int(o.N) >= len(defs) })
		if !isName(def.Name) || !isShape(def.Body) || calls {
			return false
		}
	}
	return len(defs) <= 24
}

func opTextByRows(o impl.Op, defs []impl.Def) string {
	sign := signOfOp(o)
	switch {
	case sign != ".":
		return sign
	case o.Kind == 0:
		return strconv.Itoa(int(o.N))
	case o.Kind == 1:
		return primNames[o.N]
	case int(o.N) < len(defs):
		return defs[o.N].Name
	}
	return ""
}

func bodyTextByRows(defs []impl.Def, k int) string {
	if k < 0 || k >= len(defs) || !isDefs(defs) {
		return ""
	}
	text := defs[k].Name
	for _, op := range defs[k].Body {
		text += " " + opTextByRows(op, defs)
	}
	return text
}

// heldDefs are definitions that are an argument; in ones that are packed all bodies are parts of one list.
type heldDefs struct {
	all, kept []impl.Def
	names     []heldText
	bodies    []held[impl.Op]
	size      int
}

func holdDefs(defs []impl.Def, packed bool) heldDefs {
	h := heldDefs{all: slices.Clone(defs), size: len(defs)}
	var ops []impl.Op
	for _, def := range defs {
		ops = append(ops, def.Body...)
	}
	body := hold(ops, impl.Op{Kind: impl.OExit})
	if packed {
		h.bodies = append(h.bodies, body)
	}
	from := 0
	for at, def := range defs {
		if !packed {
			body = hold(def.Body, impl.Op{Kind: impl.OThen})
			h.bodies = append(h.bodies, body)
			from = 0
		}
		name := holdText(def.Name)
		h.names = append(h.names, name)
		h.all[at] = impl.Def{Name: name.text(), Body: body.list()[from : from+len(def.Body)]}
		from += len(def.Body)
	}
	h.all = append(h.all, slices.Repeat([]impl.Def{{Name: "behind", Body: []impl.Op{{N: 5}}}}, 30)...)
	h.kept = slices.Clone(h.all)
	return h
}

func (h heldDefs) list() []impl.Def { return h.all[:h.size] }

// wipe holds the definitions against what they were, and writes over them, their names and their bodies.
func (h heldDefs) wipe(t *testing.T) {
	t.Helper()
	for at, def := range h.all {
		was := h.kept[at]
		if def.Name != was.Name || len(def.Body) != len(was.Body) || unsafe.SliceData(def.Body) != unsafe.SliceData(was.Body) {
			t.Fatalf("an argument was written into: %+v was %+v", def, was)
		}
	}
	clear(h.all)
	for _, body := range h.bodies {
		body.check(t)
		clear(body.all)
	}
	for _, name := range h.names {
		name.wipe(t)
	}
}

// placesAround are numbers of definitions, and of none.
func placesAround(count int) []int {
	list := slices.Concat(oddNumbers, []int{math.MaxInt, math.MinInt, 1 << 32, 1<<32 + 1, -1 << 32, 256})
	for near := -2; near <= count+2; near++ {
		list = append(list, near)
	}
	return list
}

// checkDefs holds DefsOk and BodyText of definitions against the rows.
func checkDefs(t *testing.T, defs []impl.Def) bool {
	t.Helper()
	want := isDefs(defs)
	ks := placesAround(len(defs))
	for _, packed := range []bool{false, true} {
		argument := holdDefs(defs, packed)
		if ok := impl.DefsOk(argument.list()); ok != want {
			t.Fatalf("DefsOk(%+v) is %v", defs, ok)
		}
		var texts []string
		for _, k := range ks {
			texts = append(texts, impl.BodyText(argument.list(), k))
		}
		argument.wipe(t)
		for at, k := range ks {
			if want := bodyTextByRows(defs, k); texts[at] != want {
				t.Fatalf("BodyText(%+v, %d) = %q, want %q", defs, k, texts[at], want)
			}
		}
	}
	return want
}

func checkOpText(t *testing.T, o impl.Op, defs []impl.Def) {
	t.Helper()
	argument := holdDefs(defs, true)
	text := impl.OpText(o, argument.list())
	argument.wipe(t)
	if want := opTextByRows(o, defs); text != want {
		t.Fatalf("OpText(%v) of %d definitions is %q, want %q", o, len(defs), text, want)
	}
}

// namedDefs are so many definitions with these bodies, in turn.
func namedDefs(t *testing.T, count int, bodies ...string) []impl.Def {
	var defs []impl.Def
	for at := range count {
		defs = append(defs, impl.Def{Name: "word" + strconv.Itoa(at), Body: bodyOf(t, bodies[at%len(bodies)])})
	}
	return defs
}

func TestTextsOfBodiesByHand(t *testing.T) {
	defs := []impl.Def{
		{Name: "go", Body: bodyOf(t, "5 for i if . then next ;")},
		{Name: "rest", Body: bodyOf(t, "-2147483648 2147483647 0 #0 -if #2 then #1 ;")},
		{Name: "?*!", Body: nil},
		{Name: "-", Body: bodyOf(t, "-")},
	}
	rows := map[int]string{0: "go 5 for i if . then next ;", 1: "rest -2147483648 2147483647 0 go -if ?*! then rest ;", 2: "?*!", 3: "- -", 4: "", -1: ""}
	for k, want := range rows {
		if text := impl.BodyText(defs, k); text != want {
			t.Errorf("definition %d is %q, want %q", k, text, want)
		}
	}
	if !checkDefs(t, defs) || checkDefs(t, defs[:2]) || !checkDefs(t, defs[:1]) || !checkDefs(t, nil) || !checkDefs(t, []impl.Def{}) {
		t.Error("definitions")
	}
}

// TestCallsOfDefinitions holds calls of the last definition and of the ones behind it.
func TestCallsOfDefinitions(t *testing.T) {
	for _, count := range []int{1, 2, 3, 10, 23, 24, 25} {
		for at := range count {
			for _, n := range []int{0, count - 2, count - 1, count, count + 1, 23, 24, -1} {
				defs := namedDefs(t, count, "", "2 if #0 then", ";")
				defs[at].Body = append(bodyOf(t, "for #0 next"), impl.Op{Kind: impl.OCall, N: int32(n)})
				if ok := impl.DefsOk(defs); ok != (n >= 0 && n < count && count <= 24) {
					t.Fatalf("a call of %d in one of %d definitions is right: %v", n, count, ok)
				}
				if at == 0 || at == count-1 {
					checkDefs(t, defs)
				}
			}
		}
	}
}

func TestNumberOfDefinitions(t *testing.T) {
	full := strings.Repeat("dup #0 ", 30)
	for _, count := range []int{1, 23, 24, 25, 26, 48, 200} {
		if ok := checkDefs(t, namedDefs(t, count, full, "")); ok != (count <= 24) {
			t.Error(count, "definitions are right:", ok)
		}
	}
	same := slices.Repeat([]impl.Def{{Name: "same", Body: bodyOf(t, "#23")}}, 24)
	if !checkDefs(t, same) {
		t.Error("definitions with one name are right")
	}
}

// TestDefinitionsThatAreNone holds definitions of which one has a name that is none, or a body that is none.
func TestDefinitionsThatAreNone(t *testing.T) {
	names := []string{"", " ", "a b", "A", "a\n", "\x00", "é", "ok", "go!", "a#", "~a", mixedName(24, 1), mixedName(25, 1), mixedName(24, 2) + " ", strings.Repeat("a", 1000)}
	bodies := []string{"", "then", "if", "for next", "for then", strings.Repeat("1 ", 60), strings.Repeat("1 ", 61), "#2", "#3", "1 next", "if for then next"}
	right := 0
	for _, at := range []int{0, 1, 2} {
		for _, name := range names {
			for _, body := range bodies {
				defs := namedDefs(t, 3, "#1 if 5 then", "over", "")
				defs[at] = impl.Def{Name: name, Body: bodyOf(t, body)}
				if checkDefs(t, defs) {
					right++
				}
			}
		}
		for _, op := range someOps() {
			defs := namedDefs(t, 3, "#1 if 5 then", "over", "")
			defs[at].Body = append(defs[at].Body, op)
			if ok := impl.DefsOk(defs); ok != isDefs(defs) {
				t.Fatalf("DefsOk(%+v) is %v", defs, ok)
			}
		}
	}
	if right != 3*3*4 {
		t.Error(right, "were right")
	}
}

// TestTextsOfOps holds ops with few definitions, many, too many, and ones that aren't right.
func TestTextsOfOps(t *testing.T) {
	odd := []impl.Def{{Name: "", Body: bodyOf(t, "then")}, {Name: "not a name"}, {Name: "\xff\n", Body: bodyOf(t, "#9")}, {Name: strings.Repeat("long", 50)}, {Name: "fine"}}
	for _, defs := range [][]impl.Def{nil, namedDefs(t, 1, ""), namedDefs(t, 3, "#2"), namedDefs(t, 23, "if then"), namedDefs(t, 24, ""), namedDefs(t, 60, "for"), odd} {
		for _, op := range someOps() {
			checkOpText(t, op, defs)
		}
		for n := range int32(64) {
			for kind := range 9 {
				checkOpText(t, impl.Op{Kind: kind, N: n - 2}, defs)
			}
		}
	}
	signs := []string{"if", "-if", "then", "for", "next", ";"}
	for at, kind := range []int{impl.OIf, impl.OUnless, impl.OThen, impl.OFor, impl.ONext, impl.OExit} {
		if text := impl.OpText(impl.Op{Kind: kind}, nil); text != signs[at] {
			t.Errorf("%q is the sign of %d, want %q", text, kind, signs[at])
		}
	}
	for _, n := range numbers32() {
		if text := impl.OpText(impl.Op{N: n}, nil); text != strconv.Itoa(int(n)) {
			t.Fatalf("%q is the text of %d", text, n)
		}
	}
}

func TestMixedDefinitions(t *testing.T) {
	m, ops := mixer(999), someOps()
	right := 0
	for range 150 {
		var defs []impl.Def
		for count := m.below(25); len(defs) < count; {
			defs = append(defs, impl.Def{Name: mixedName(1+m.below(24), uint64(m.below(1<<30))), Body: mixedBody(&m, m.below(61), count)})
		}
		if !checkDefs(t, defs) {
			t.Fatalf("%+v are right", defs)
		}
		if len(defs) > 0 {
			at := m.below(len(defs))
			defs[at].Body = bentBody(&m, defs[at].Body, ops)
			if checkDefs(t, defs) {
				right++
			}
		}
	}
	if right == 0 || right > 120 {
		t.Error(right, "were right")
	}
}
