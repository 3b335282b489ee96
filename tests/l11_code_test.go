package tests

import (
	"math"
	"slices"
	"strconv"
	"strings"
	"testing"

	"loop.example/g00711/impl"
)

// stepNames are the texts of steps, by Op; stepKinds tell what N of each is: a number, a word, a place, or none.
var stepNames = []string{"lit", "do", "call", "jump", "zero", "pos", "for", "next", "ret", "end"}

const stepKinds = "nwpppp-p--"

// codeOf tells the steps of a text: their texts, with commas between.
func codeOf(t *testing.T, s string) []impl.Ins {
	t.Helper()
	var list []impl.Ins
	for _, part := range strings.Split(s, ",") {
		words := strings.Fields(part)
		step := impl.Ins{Op: slices.Index(stepNames, words[0])}
		switch {
		case len(words) == 1:
		case words[0] == "do":
			step.N = slices.Index(primNames, words[1])
		default:
			n, err := strconv.Atoi(words[1])
			if err != nil {
				t.Fatal(err)
			}
			step.N = n
		}
		list = append(list, step)
	}
	return list
}

// stepText tells the text of a step.
func stepText(i impl.Ins) string {
	if i.Op < 0 || i.Op > 9 {
		return ""
	}
	switch stepKinds[i.Op] {
	case '-':
		return stepNames[i.Op]
	case 'w':
		if i.N < 0 || i.N > 23 {
			return ""
		}
		return "do " + primNames[i.N]
	}
	return stepNames[i.Op] + " " + strconv.Itoa(i.N)
}

func isStep(i impl.Ins, steps int) bool {
	if i.Op < 0 || i.Op > 9 {
		return false
	}
	least, most := 0, 0
	switch stepKinds[i.Op] {
	case 'n':
		least, most = math.MinInt32, math.MaxInt32
	case 'w':
		most = 23
	case 'p':
		most = steps - 1
	}
	return i.N >= least && i.N <= most
}

func isCode(list []impl.Ins) bool {
	wrong := slices.ContainsFunc(list, func(i impl.Ins) bool { return !isStep(i, len(list)) })
	return len(list) > 0 && len(list) <= 1500 && !wrong && list[len(list)-1].Op == 9
}

func listingByRows(list []impl.Ins) string {
	if !isCode(list) {
		return ""
	}
	text := ""
	for at, i := range list {
		text += strconv.Itoa(at) + " " + stepText(i) + "\n"
	}
	return text
}

// endsByTail tells whether the op at a place is a call with an exit right behind it.
func endsByTail(body []impl.Op, at int) bool {
	return body[at].Kind == 2 && at+1 < len(body) && body[at+1].Kind == 8
}

// opPlaces tells where the code of each op of each body begins, the place behind the last one too: all are known before there is a step.
func opPlaces(defs []impl.Def, tail bool) [][]int {
	var all [][]int
	place := 0
	for _, def := range defs {
		places := []int{place}
		for at, op := range def.Body {
			if op.Kind != 5 && !(tail && at > 0 && endsByTail(def.Body, at-1)) {
				place++
			}
			places = append(places, place)
		}
		all = append(all, places)
	}
	return all
}

// codeByRows tells the code of definitions, and where each begins.
func codeByRows(defs []impl.Def, tail bool) ([]impl.Ins, []int) {
	if !isDefs(defs) {
		return nil, nil
	}
	all := opPlaces(defs, tail)
	var list []impl.Ins
	var starts []int
	for k, def := range defs {
		starts = append(starts, all[k][0])
		for at, op := range def.Body {
			isTail := tail && endsByTail(def.Body, at)
			if all[k][at+1] == all[k][at] {
				continue
			}
			step := impl.Ins{Op: []int{0, 1, 2, 4, 5, -1, 6, 7, 8}[op.Kind], N: int(op.N)}
			switch {
			case op.Kind == 2:
				step.N = all[op.N][0]
			case op.Kind == 3 || op.Kind == 4:
				step.N = all[k][endOf(def.Body, at)]
			case op.Kind == 7:
				step.N = all[k][beginOf(def.Body, at)] + 1
			}
			if isTail {
				step.Op = 3
			}
			list = append(list, step)
		}
	}
	return append(list, impl.Ins{Op: 9}), starts
}

// tailsOf tells how many calls have an exit right behind them.
func tailsOf(defs []impl.Def) int {
	count := 0
	for _, def := range defs {
		for at := range def.Body {
			if endsByTail(def.Body, at) {
				count++
			}
		}
	}
	return count
}

// checkCode holds the code of definitions against the rows, and code with tails against code without.
func checkCode(t *testing.T, defs []impl.Def) bool {
	t.Helper()
	for _, tail := range []bool{false, true} {
		want, places := codeByRows(defs, tail)
		for _, packed := range []bool{false, true} {
			argument := holdDefs(defs, packed)
			list, starts := impl.CodeOf(argument.list(), tail)
			other, _ := impl.CodeOf(argument.list(), tail)
			clear(other[:cap(other)])
			argument.wipe(t)
			if !slices.Equal(list, want) || !slices.Equal(starts, places) {
				t.Fatalf("CodeOf(%s, %v) = %v, %v, want %v, %v", bodiesText(defs), tail, list, starts, want, places)
			}
		}
		checkSteps(t, want)
	}
	plain, _ := impl.CodeOf(defs, false)
	short, starts := impl.CodeOf(defs, true)
	if isDefs(defs) {
		checkPlaces(t, short, starts, len(defs))
		if len(plain)-len(short) != tailsOf(defs) {
			t.Fatalf("code of %s has %d steps, with tails %d", bodiesText(defs), len(plain), len(short))
		}
	}
	return isDefs(defs)
}

// checkPlaces holds promise 11 of code that was made: it is code, and each definition begins at a place of it.
func checkPlaces(t *testing.T, list []impl.Ins, starts []int, count int) {
	t.Helper()
	if !impl.CodeOk(list) || len(starts) != count || !slices.IsSorted(starts) || strings.Count(impl.Listing(list), "\n") != len(list) {
		t.Fatalf("code that was made is none: %v, %v", list, starts)
	}
	for _, start := range starts {
		if start < 0 || start >= len(list) {
			t.Fatalf("a definition begins at %d of %v", start, list)
		}
	}
}

// checkSteps holds CodeOk and Listing of a list against the rows.
func checkSteps(t *testing.T, list []impl.Ins) bool {
	t.Helper()
	right, text := isCode(list), listingByRows(list)
	argument := hold(list, impl.Ins{Op: impl.CEnd, N: -3})
	if ok := impl.CodeOk(argument.list()); ok != right {
		t.Fatalf("CodeOk(%v) is %v", list, ok)
	}
	got := impl.Listing(argument.list())
	argument.check(t)
	clear(argument.all)
	if got != text {
		t.Fatalf("Listing(%v) = %q, want %q", list, got, text)
	}
	return right
}

func TestNumbersOfCode(t *testing.T) {
	numbers := []int{impl.CLit, impl.CPrim, impl.CCall, impl.CJump, impl.CZero, impl.CPos, impl.CFor, impl.CNext, impl.CRet, impl.CEnd}
	for at, n := range numbers {
		if n != at {
			t.Errorf("%s is %d, want %d", stepNames[at], n, at)
		}
	}
	if impl.MaxCode != 1500 {
		t.Error("MaxCode is", impl.MaxCode)
	}
}

// coding are definitions, their code without tails and with, and where they begin then.
type coding struct {
	defs, plain, short string
	starts, tailStarts []int
}

func checkCodings(t *testing.T, rows []coding) {
	t.Helper()
	for _, row := range rows {
		defs := defsOf(t, row.defs)
		if row.short == "" {
			row.short, row.tailStarts = row.plain, row.starts
		}
		list, starts := impl.CodeOf(defs, false)
		if !slices.Equal(list, codeOf(t, row.plain)) || !slices.Equal(starts, row.starts) {
			t.Errorf("the code of %q is %q from %v, want %q from %v", row.defs, impl.Listing(list), starts, row.plain, row.starts)
		}
		list, starts = impl.CodeOf(defs, true)
		if !slices.Equal(list, codeOf(t, row.short)) || !slices.Equal(starts, row.tailStarts) {
			t.Errorf("with tails the code of %q is %q from %v, want %q from %v", row.defs, impl.Listing(list), starts, row.short, row.tailStarts)
		}
		checkCode(t, defs)
	}
}

func TestCodeOfEachOp(t *testing.T) {
	checkCodings(t, []coding{
		{"7", "lit 7, end", "", []int{0}, nil},
		{"-2147483648 2147483647 0 -1", "lit -2147483648, lit 2147483647, lit 0, lit -1, end", "", []int{0}, nil},
		{"dup nop i . /mod", "do dup, do nop, do i, do ., do /mod, end", "", []int{0}, nil},
		{";", "ret, end", "", []int{0}, nil},
		{"; ;", "ret, ret, end", "", []int{0}, nil},
		{"if then", "zero 1, end", "", []int{0}, nil},
		{"-if then", "pos 1, end", "", []int{0}, nil},
		{"for next", "for, next 1, end", "", []int{0}, nil},
		{"if 1 then 2", "zero 2, lit 1, lit 2, end", "", []int{0}, nil},
		{"-if 1 then 2", "pos 2, lit 1, lit 2, end", "", []int{0}, nil},
		{"for 1 next 2", "for, lit 1, next 1, lit 2, end", "", []int{0}, nil},
		{"9 for 1 2 next ;", "lit 9, for, lit 1, lit 2, next 2, ret, end", "", []int{0}, nil},
		{"if if -if then 4 then then 5", "zero 4, zero 4, pos 3, lit 4, lit 5, end", "", []int{0}, nil},
		{"if -if 1 then then", "zero 3, pos 3, lit 1, end", "", []int{0}, nil},
		{"for for 1 next next", "for, for, lit 1, next 2, next 1, end", "", []int{0}, nil},
		{"for next for next", "for, next 1, for, next 3, end", "", []int{0}, nil},
		{"for if 1 then next", "for, zero 3, lit 1, next 1, end", "", []int{0}, nil},
		{"if for next then", "zero 3, for, next 2, end", "", []int{0}, nil},
		{"-if for i -if ; then next then 8", "pos 6, for, do i, pos 5, ret, next 2, lit 8, end", "", []int{0}, nil},
		{"1 | 2 if 3 then | for next", "lit 1, lit 2, zero 4, lit 3, for, next 5, end", "", []int{0, 1, 4}, nil},
	})
}

func TestCodeOfCalls(t *testing.T) {
	checkCodings(t, []coding{
		{"#0", "call 0, end", "", []int{0}, nil},
		{"#1 | ;", "call 1, ret, end", "", []int{0, 1}, nil},
		{"; | #0", "ret, call 0, end", "", []int{0, 1}, nil},
		{"1 2 #2 | 3 #1 | 4 #0", "lit 1, lit 2, call 5, lit 3, call 3, lit 4, call 0, end", "", []int{0, 3, 5}, nil},
		{"#1 #2 #0 | 1 2 3 | #2", "call 3, call 6, call 0, lit 1, lit 2, lit 3, call 6, end", "", []int{0, 3, 6}, nil},
	})
}

func TestCodeOfTails(t *testing.T) {
	checkCodings(t, []coding{
		{"#0 ;", "call 0, ret, end", "jump 0, end", []int{0}, []int{0}},
		{"#0 ; ;", "call 0, ret, ret, end", "jump 0, ret, end", []int{0}, []int{0}},
		{"#0 #0 ;", "call 0, call 0, ret, end", "call 0, jump 0, end", []int{0}, []int{0}},
		{"#0 nop ;", "call 0, do nop, ret, end", "", []int{0}, nil},
		{"; #0", "ret, call 0, end", "", []int{0}, nil},
		{"if #0 then ;", "zero 2, call 0, ret, end", "", []int{0}, nil},
		{"for #0 next ;", "for, call 0, next 1, ret, end", "", []int{0}, nil},
		{"#0 if ; then", "call 0, zero 3, ret, end", "", []int{0}, nil},
		{"#0 for ; next", "call 0, for, ret, next 2, end", "", []int{0}, nil},
		{"#1 | ;", "call 1, ret, end", "", []int{0, 1}, nil},
		{"7 ; 5 ;", "lit 7, ret, lit 5, ret, end", "", []int{0}, nil},
		{"dup ; #0 ;", "do dup, ret, call 0, ret, end", "do dup, ret, jump 0, end", []int{0}, []int{0}},
		{"if #0 ; then 5", "zero 3, call 0, ret, lit 5, end", "zero 2, jump 0, lit 5, end", []int{0}, []int{0}},
		{"-if #0 ; then 5", "pos 3, call 0, ret, lit 5, end", "pos 2, jump 0, lit 5, end", []int{0}, []int{0}},
		{"if #0 ; then", "zero 3, call 0, ret, end", "zero 2, jump 0, end", []int{0}, []int{0}},
		{"for #0 ; next 5", "for, call 0, ret, next 1, lit 5, end", "for, jump 0, next 1, lit 5, end", []int{0}, []int{0}},
		{"#0 ; for next", "call 0, ret, for, next 3, end", "jump 0, for, next 2, end", []int{0}, []int{0}},
		{"#0 ; if 1 then 2", "call 0, ret, zero 4, lit 1, lit 2, end", "jump 0, zero 3, lit 1, lit 2, end", []int{0}, []int{0}},
		{"for -if #1 ; then next | #0 ; | #2 ;", "for, pos 4, call 5, ret, next 1, call 0, ret, call 7, ret, end", "for, pos 3, jump 4, next 1, jump 0, jump 5, end", []int{0, 5, 7}, []int{0, 4, 5}},
		{"#2 ; | #2 ; | 1 ;", "call 4, ret, call 4, ret, lit 1, ret, end", "jump 2, jump 2, lit 1, ret, end", []int{0, 2, 4}, []int{0, 1, 2}},
		{"if if #1 ; then #1 ; then #1 ; | 4", "zero 6, zero 4, call 8, ret, call 8, ret, call 8, ret, lit 4, end", "zero 4, zero 3, jump 5, jump 5, jump 5, lit 4, end", []int{0, 8}, []int{0, 5}},
	})
}

func TestCodeOfEmptyBodies(t *testing.T) {
	checkCodings(t, []coding{
		{"", "end", "", []int{0}, nil},
		{"|", "end", "", []int{0, 0}, nil},
		{"||", "end", "", []int{0, 0, 0}, nil},
		{"| 5", "lit 5, end", "", []int{0, 0}, nil},
		{"5 |", "lit 5, end", "", []int{0, 1}, nil},
		{"5 ||| 6", "lit 5, lit 6, end", "", []int{0, 1, 1, 1}, nil},
		{"#1 |", "call 1, end", "", []int{0, 1}, nil},
		{"#1 #2 #3 ||| 6", "call 3, call 3, call 3, lit 6, end", "", []int{0, 3, 3, 3}, nil},
		{"| #0 #1 #2 |", "call 0, call 0, call 3, end", "", []int{0, 0, 3}, nil},
		{"| #2 ; |", "call 2, ret, end", "jump 1, end", []int{0, 0, 2}, []int{0, 0, 1}},
		{"if then | -if then |", "zero 1, pos 2, end", "", []int{0, 1, 2}, nil},
	})
	for _, defs := range [][]impl.Def{nil, {}} {
		checkCode(t, defs)
		for _, tail := range []bool{false, true} {
			if list, starts := impl.CodeOf(defs, tail); !slices.Equal(list, []impl.Ins{{Op: impl.CEnd}}) || len(starts) != 0 {
				t.Error("the code of no definitions is", list, starts)
			}
		}
	}
	for count := 1; count <= 25; count++ {
		if checkCode(t, namedDefs(t, count, "")) != (count <= 24) {
			t.Error(count, "empty definitions")
		}
	}
}

// TestShortCode holds all short bodies of some ops, between others.
func TestShortCode(t *testing.T) {
	words := map[byte]string{'1': "1", 'c': "#1", 's': "#0", 'i': "if", 'u': "-if", 't': "then", 'f': "for", 'n': "next", 'x': ";"}
	right := 0
	eachText("1csiutfnx", 5, func(s string) {
		var body []impl.Op
		for at := range len(s) {
			body = append(body, opOf(t, words[s[at]]))
		}
		if !isShape(body) {
			return
		}
		right++
		for _, behind := range []string{"", "3 #0 ;"} {
			defs := []impl.Def{{Name: "a", Body: body}, {Name: "b", Body: bodyOf(t, behind)}, {Name: "c", Body: body}}
			for _, tail := range []bool{false, true} {
				list, starts := impl.CodeOf(defs, tail)
				want, places := codeByRows(defs, tail)
				if !slices.Equal(list, want) || !slices.Equal(starts, places) || !impl.CodeOk(list) {
					t.Fatalf("CodeOf(%s, %v) = %v, %v, want %v, %v", bodiesText(defs), tail, list, starts, want, places)
				}
			}
		}
	})
	if right < 2000 {
		t.Error("only", right, "were right")
	}
}

// TestMostCode holds as many definitions and ops as there may be.
func TestMostCode(t *testing.T) {
	bodies := []string{strings.Repeat("1 ", 60), strings.Repeat("#23 ", 60), strings.Repeat("#23 ; ", 30), strings.Repeat("for ", 30) + strings.Repeat("next ", 30), strings.Repeat("if #0 ; then ", 15), strings.Repeat("-if ", 30) + strings.Repeat("then ", 30)}
	for _, body := range bodies {
		checkCode(t, namedDefs(t, 24, body))
		checkCode(t, namedDefs(t, 24, body, ""))
		checkCode(t, namedDefs(t, 25, body))
	}
	checkCode(t, namedDefs(t, 24, bodies...))
	list, starts := impl.CodeOf(namedDefs(t, 24, bodies[1]), true)
	if len(list) != 24*60+1 || starts[23] != 23*60 || list[0] != (impl.Ins{Op: impl.CCall, N: 23 * 60}) {
		t.Error("the most code has", len(list), "steps, the last of which begins at", starts)
	}
	list, starts = impl.CodeOf(namedDefs(t, 24, bodies[2]), true)
	if len(list) != 24*30+1 || starts[23] != 23*30 || list[0] != (impl.Ins{Op: impl.CJump, N: 23 * 30}) {
		t.Error("the most tails have", len(list), "steps, the last of which begins at", starts)
	}
}

func TestMixedCode(t *testing.T) {
	m, ops := mixer(11), someOps()
	tails, wrong := 0, 0
	for range 400 {
		var defs []impl.Def
		if m.below(2) == 0 {
			defs = livelyDefs(t, &m, 1+m.below(24))
		}
		for count := m.below(25); len(defs) < count; {
			body := mixedBody(&m, m.below(61), count)
			if at := len(body) - 1; at > 0 && m.below(2) == 0 && body[at-1].Kind < 3 && body[at].Kind < 3 {
				body[at-1], body[at] = impl.Op{Kind: 2, N: int32(m.below(count))}, impl.Op{Kind: 8}
			}
			defs = append(defs, impl.Def{Name: mixedName(1+m.below(24), uint64(m.below(1<<30))), Body: body})
		}
		if !checkCode(t, defs) {
			t.Fatalf("%s are right", bodiesText(defs))
		}
		tails += tailsOf(defs)
		if len(defs) > 0 {
			at := m.below(len(defs))
			defs[at].Body = bentBody(&m, defs[at].Body, ops)
			if !checkCode(t, defs) {
				wrong++
			}
		}
	}
	if tails < 200 || wrong < 100 {
		t.Error("only", tails, "tails and", wrong, "that were wrong")
	}
}

// TestCodeOfWrongDefinitions holds definitions of which one isn't right.
func TestCodeOfWrongDefinitions(t *testing.T) {
	rows := []string{"then", "if", "for", "next", "if next", "for then", "1 ; if", "#3", "#24", strings.Repeat("1 ", 61)}
	none := func(what string, defs []impl.Def) {
		t.Helper()
		for _, tail := range []bool{false, true} {
			if list, starts := impl.CodeOf(defs, tail); len(list) != 0 || len(starts) != 0 {
				t.Errorf("%s became %v, %v", what, list, starts)
			}
		}
		if checkCode(t, defs) {
			t.Error(what, "is right")
		}
	}
	for at := range 3 {
		for _, row := range rows {
			defs := defsOf(t, "1|#2 ;|;")
			defs[at].Body = bodyOf(t, row)
			none(row, defs)
		}
		for _, op := range []impl.Op{{Kind: -1}, {Kind: 9}, {Kind: impl.OPrim, N: 24}, {Kind: impl.OPrim, N: -1}, {Kind: impl.OCall, N: -1}, {Kind: impl.OExit, N: 1}, {Kind: impl.OFor, N: 1}} {
			defs := defsOf(t, "1|#2 ;|;")
			defs[at].Body = append(defs[at].Body, op)
			none("an op that is none", defs)
		}
		for _, name := range []string{"", " ", "A", mixedName(25, 3)} {
			defs := defsOf(t, "1|#2 ;|;")
			defs[at].Name = name
			none("the name "+name, defs)
		}
	}
	for _, count := range []int{25, 26, 100} {
		none("too many definitions", namedDefs(t, count, ";"))
	}
}

// TestStepsAtTheirBounds holds each Op with N at its bounds and beyond, at each place of code.
func TestStepsAtTheirBounds(t *testing.T) {
	seen := [10]int{}
	for op := -2; op <= 12; op++ {
		for _, steps := range []int{1, 2, 3, 10, 1500} {
			numbers := []int{steps - 2, steps - 1, steps, steps + 1, -1, 0, 1, 22, 23, 24, math.MaxInt32 - 1, math.MaxInt32, math.MaxInt32 + 1, math.MinInt32, math.MinInt32 - 1, math.MinInt32 + 1, 1 << 32, 1<<32 + 1, -1 << 32, math.MaxInt, math.MinInt}
			for _, n := range numbers {
				for _, at := range []int{0, steps / 2, steps - 1} {
					list := append(slices.Repeat([]impl.Ins{{Op: impl.CRet}}, steps-1), impl.Ins{Op: impl.CEnd})
					list[at] = impl.Ins{Op: op, N: n}
					if checkSteps(t, list) {
						seen[op]++
					}
				}
			}
		}
	}
	for op, count := range seen {
		if count == 0 {
			t.Error("no", stepNames[op], "is right")
		}
	}
	for _, op := range []int{math.MinInt, math.MaxInt, 1 << 32, -1 << 32, 256, 1<<32 + 9} {
		checkSteps(t, []impl.Ins{{Op: op}, {Op: impl.CEnd}})
		checkSteps(t, []impl.Ins{{Op: impl.CRet}, {Op: op}})
	}
}

func TestCodeByHand(t *testing.T) {
	right := []string{"end", "end, end", "end, ret, end", "lit 5, end", "jump 1, end", "jump 0, end", "for, next 0, end", "next 2, zero 1, pos 0, end", "lit -2147483648, lit 2147483647, do dup, do nop, end", "call 3, end, end, end"}
	for _, s := range right {
		list := codeOf(t, s)
		if !checkSteps(t, list) || !impl.CodeOk(list) {
			t.Errorf("%q is code", s)
		}
		for at := range list {
			checkSteps(t, list[:at])
			checkSteps(t, list[at:])
		}
	}
	wrong := []string{"ret", "lit 5", "end, ret", "end, end, jump 0", "jump 2, end", "jump -1, end", "call 2, end", "zero 2, end", "pos 2, end", "next 2, end", "for, next -1, end", "lit 2147483648, end", "lit -2147483649, end"}
	for _, s := range wrong {
		list := codeOf(t, s)
		if checkSteps(t, list) || impl.CodeOk(list) || impl.Listing(list) != "" {
			t.Errorf("%q is no code", s)
		}
	}
	for _, list := range [][]impl.Ins{nil, {}, {{Op: impl.CEnd, N: 1}}, {{Op: impl.CEnd, N: -1}}, {{Op: impl.CFor, N: 1}, {Op: impl.CEnd}}, {{Op: impl.CRet, N: -1}, {Op: impl.CEnd}}, {{Op: impl.CEnd, N: 1}, {Op: impl.CEnd}}} {
		if checkSteps(t, list) || impl.CodeOk(list) || impl.Listing(list) != "" {
			t.Errorf("%v is no code", list)
		}
	}
}

// TestNumberOfSteps holds as many steps as there may be, and more.
func TestNumberOfSteps(t *testing.T) {
	for _, steps := range []int{1, 2, 1441, 1499, 1500, 1501, 1502, 3000} {
		for _, op := range []int{impl.CLit, impl.CCall, impl.CRet, impl.CEnd} {
			list := append(slices.Repeat([]impl.Ins{{Op: op}}, steps-1), impl.Ins{Op: impl.CEnd})
			if checkSteps(t, list) != (steps <= 1500) || impl.CodeOk(list) != (steps <= 1500) {
				t.Error(steps, "steps")
			}
		}
	}
	full := append(slices.Repeat([]impl.Ins{{Op: impl.CJump, N: 1499}}, 1499), impl.Ins{Op: impl.CEnd})
	if text := impl.Listing(full); !strings.HasSuffix(text, "\n1498 jump 1499\n1499 end\n") || strings.Count(text, "\n") != 1500 {
		t.Error("the longest listing has", strings.Count(text, "\n"), "lines")
	}
}

func TestTextsOfSteps(t *testing.T) {
	rows := map[impl.Ins]string{
		{Op: impl.CLit, N: 5}: "lit 5", {Op: impl.CLit}: "lit 0", {Op: impl.CLit, N: -2147483648}: "lit -2147483648", {Op: impl.CLit, N: 1 << 40}: "lit 1099511627776",
		{Op: impl.CPrim}: "do dup", {Op: impl.CPrim, N: 23}: "do nop", {Op: impl.CPrim, N: 24}: "", {Op: impl.CPrim, N: -1}: "", {Op: impl.CPrim, N: 1 << 32}: "",
		{Op: impl.CCall, N: 12}: "call 12", {Op: impl.CJump, N: 0}: "jump 0", {Op: impl.CZero, N: -7}: "zero -7", {Op: impl.CPos, N: 1499}: "pos 1499",
		{Op: impl.CFor}: "for", {Op: impl.CFor, N: 4}: "for", {Op: impl.CNext, N: 3}: "next 3", {Op: impl.CNext, N: -3}: "next -3",
		{Op: impl.CRet}: "ret", {Op: impl.CRet, N: -4}: "ret", {Op: impl.CEnd}: "end", {Op: impl.CEnd, N: 9}: "end",
		{Op: -1}: "", {Op: 10}: "", {Op: -1, N: 5}: "", {Op: 1 << 32}: "", {Op: math.MinInt}: "", {Op: math.MaxInt}: "",
		{Op: impl.CJump, N: math.MinInt}: "jump -9223372036854775808", {Op: impl.CCall, N: math.MaxInt}: "call 9223372036854775807",
	}
	for i, want := range rows {
		if text := impl.InsText(i); text != want {
			t.Errorf("InsText(%v) = %q, want %q", i, text, want)
		}
	}
	for op := -3; op <= 13; op++ {
		for _, n := range placesAround(24) {
			i := impl.Ins{Op: op, N: n}
			if text := impl.InsText(i); text != stepText(i) {
				t.Errorf("InsText(%v) = %q, want %q", i, text, stepText(i))
			}
		}
	}
}
