package tests

import (
	"fmt"
	"slices"
	"strconv"
	"strings"
	"testing"

	"loop.example/g00711/impl"
)

// faultNames are what faults are called in the machines that are written here, by their codes.
var faultNames = []string{"", "word", "stack", "ret", "addr", "div", "fuel", "depth", "full", "shape", "end", "mix", "block", "out"}

// machOf is a machine that is written: its place and its fuel, Data, Ret, and a fault or done where there is one, with strokes between. All else is as in stOn.
func machOf(t *testing.T, s string) impl.Mach {
	t.Helper()
	parts := strings.Split(s, "|")
	head := numbersOf(t, parts[0])
	m := impl.Mach{St: withFuel(stOn(numbersOf(t, parts[1])...), int(head[1])), At: int(head[0])}
	m.St.Ret = slotsOf(t, parts[2])
	if len(parts) == 3 {
		return m
	}
	if word := strings.TrimSpace(parts[3]); word == "done" {
		m.Done = true
	} else {
		m.St.Fault = slices.Index(faultNames, word)
	}
	return m
}

func machText(m impl.Mach) string {
	return fmt.Sprint("place ", m.At, ", done ", m.Done, ", ", outcome(m.St))
}

func sameMach(one, other impl.Mach) bool {
	return sameSt(one.St, other.St) && one.At == other.At && one.Done == other.Done
}

func isPlaceOf(code []impl.Ins, at int) bool { return slices.Contains(places(len(code)), at) }

// tickByRows tells what Tick should tell.
func tickByRows(code []impl.Ins, m impl.Mach) impl.Mach {
	if !isCode(code) || !isPlaceOf(code, m.At) || !isRightSt(m.St) {
		return impl.Mach{}
	}
	return goOn(code, m)
}

// goOn is a tick of a machine that can be on its code.
func goOn(code []impl.Ins, m impl.Mach) impl.Mach {
	switch {
	case m.Done || m.St.Fault != 0:
		return m
	case code[m.At].Op == 9:
		m.St.Fault = impl.FlEnd
		return m
	case m.St.Fuel == 0:
		m.St.Fault = impl.FlFuel
		return m
	}
	m.St.Fuel--
	next := stepOn(code, m)
	if next.St.Fault != 0 {
		m.St.Fault = next.St.Fault
		return m
	}
	return next
}

// slotOn tells a state with a slot more.
func slotOn(st impl.St, kind int, n int32) impl.St {
	if len(st.Ret) == 24 {
		st.Fault = impl.FlRet
		return st
	}
	st.Ret = slices.Concat(st.Ret, []impl.Slot{{Kind: kind, N: n}})
	return st
}

// stepOn tells the machine behind a step that isn't an end, for which there is fuel; where that has a fault, it alone counts.
func stepOn(code []impl.Ins, m impl.Mach) impl.Mach {
	step, behind := code[m.At], m.At+1
	data := len(m.St.Data)
	switch name := stepNames[step.Op]; {
	case name == "next":
		return nextOn(step.N, m)
	case name == "ret":
		return backOn(len(code), m)
	case name == "lit":
		return impl.Mach{St: pushByRows(m.St, int32(step.N)), At: behind}
	case name == "do":
		return impl.Mach{St: doByRows(m.St, step.N), At: behind}
	case name == "call":
		return impl.Mach{St: slotOn(m.St, 2, int32(behind)), At: step.N}
	case name == "jump":
		return impl.Mach{St: m.St, At: step.N}
	case data == 0:
		m.St.Fault = impl.FlStack
		return m
	case name == "for":
		taken := m.St
		taken.Data = m.St.Data[:data-1]
		return impl.Mach{St: slotOn(taken, 1, m.St.Data[data-1]), At: behind}
	case name == "zero" && m.St.Data[data-1] != 0, name == "pos" && m.St.Data[data-1] < 0:
		return impl.Mach{St: m.St, At: behind}
	}
	return impl.Mach{St: m.St, At: step.N}
}

func nextOn(to int, m impl.Mach) impl.Mach {
	rest := len(m.St.Ret) - 1
	switch {
	case rest < 0:
		m.St.Fault = impl.FlRet
		return m
	case m.St.Ret[rest].Kind != 1:
		m.St.Fault = impl.FlMix
		return m
	}
	less := round(int64(m.St.Ret[rest].N) - 1)
	m.St.Ret = m.St.Ret[:rest]
	if less <= 0 {
		return impl.Mach{St: m.St, At: m.At + 1}
	}
	return impl.Mach{St: slotOn(m.St, 1, less), At: to}
}

func backOn(steps int, m impl.Mach) impl.Mach {
	rest := len(m.St.Ret) - 1
	if rest < 0 || m.St.Ret[rest].Kind != 2 {
		m.St.Fault = impl.FlMix
		return m
	}
	to := int(m.St.Ret[rest].N)
	if to < -1 || to >= steps {
		m.St.Fault = impl.FlMix
		return m
	}
	m.St.Ret = m.St.Ret[:rest]
	if to == -1 {
		m.Done = true
		return m
	}
	return impl.Mach{St: m.St, At: to}
}

// startByRows tells what Start should tell.
func startByRows(code []impl.Ins, at int, st impl.St) impl.Mach {
	if !isCode(code) || !isPlaceOf(code, at) || !isRightSt(st) || st.Fault != 0 {
		return impl.Mach{}
	}
	return impl.Mach{St: slotOn(st, 2, -1), At: at}
}

// played is what comes of a machine from its Start on, and how many jumps were done.
type played struct {
	end     impl.Mach
	deepest int
	jumps   int
}

// playByRows tells what Play and Deepest should tell.
func playByRows(code []impl.Ins, at int, st impl.St) played {
	m := startByRows(code, at, st)
	p := played{end: m, deepest: len(m.St.Ret)}
	if m.St.Mem == nil {
		return p
	}
	for !p.end.Done && p.end.St.Fault == 0 {
		if code[p.end.At].Op == 3 && p.end.St.Fuel > 0 {
			p.jumps++
		}
		p.end = goOn(code, p.end)
		p.deepest = max(p.deepest, len(p.end.St.Ret))
	}
	return p
}

// checkMach holds the machine that a call makes of some code and a state.
func checkMach(t *testing.T, what string, code []impl.Ins, st impl.St, call func(code []impl.Ins, st impl.St) impl.Mach, want impl.Mach) {
	t.Helper()
	checkStep(t, what, st, func(st impl.St) impl.St {
		argument := hold(code, impl.Ins{Op: impl.CRet})
		got := call(argument.list(), st)
		argument.check(t)
		clear(argument.all)
		if got.At != want.At || got.Done != want.Done {
			t.Fatalf("%s left %s, want %s", what, machText(got), machText(want))
		}
		return got.St
	}, want.St)
	if want.St.Mem != nil && !impl.StOk(want.St) {
		t.Fatalf("%s left a state that isn't right: %s", what, machText(want))
	}
}

// checkTick holds a Tick against the rows.
func checkTick(t *testing.T, code []impl.Ins, m impl.Mach) impl.Mach {
	t.Helper()
	want := tickByRows(code, m)
	call := func(code []impl.Ins, st impl.St) impl.Mach {
		return impl.Tick(code, impl.Mach{St: st, At: m.At, Done: m.Done})
	}
	checkMach(t, "a tick", code, m.St, call, want)
	return want
}

// checkPlay holds Start, Play and Deepest against the rows; Play is as many Ticks as it takes.
func checkPlay(t *testing.T, code []impl.Ins, at int, st impl.St) played {
	t.Helper()
	start := func(code []impl.Ins, st impl.St) impl.Mach { return impl.Start(code, at, st) }
	checkMach(t, "Start", code, st, start, startByRows(code, at, st))
	want := playByRows(code, at, st)
	play := func(code []impl.Ins, st impl.St) impl.Mach {
		return impl.Mach{St: impl.Play(code, at, st), At: want.end.At, Done: want.end.Done}
	}
	checkMach(t, "Play", code, st, play, want.end)
	deepest := func(code []impl.Ins, st impl.St) impl.Mach { return impl.Mach{At: impl.Deepest(code, at, st)} }
	checkMach(t, "Deepest", code, st, deepest, impl.Mach{At: want.deepest})
	m, ticks := impl.Start(code, at, st), 0
	for m.St.Mem != nil && !m.Done && m.St.Fault == 0 {
		m = impl.Tick(code, m)
		ticks++
	}
	if !sameMach(m, want.end) || ticks > st.Fuel+1 && ticks > 0 {
		t.Fatalf("%d ticks of %v left %s, want %s", ticks, code, machText(m), machText(want.end))
	}
	if again := impl.Tick(code, m); !sameMach(again, m) {
		t.Fatalf("a machine went on behind its end: %s became %s", machText(m), machText(again))
	}
	return want
}

// ticking is a machine on some code, and what a tick makes of it.
type ticking struct{ code, from, to string }

// checkTicks holds ticks, with all that keeps the machine from them too.
func checkTicks(t *testing.T, rows []ticking) {
	t.Helper()
	for _, row := range rows {
		code, from, to := codeOf(t, row.code), machOf(t, row.from), machOf(t, row.to)
		if got := impl.Tick(code, from); !sameMach(got, to) {
			t.Errorf("%q from %q: %s, want %q", row.code, row.from, machText(got), row.to)
		}
		checkTick(t, code, from)
		for fault := 1; fault <= 13; fault++ {
			still := from
			still.St.Fault = fault
			if got := checkTick(t, code, still); !sameMach(got, still) {
				t.Errorf("%q from %q with fault %d went on", row.code, row.from, fault)
			}
			still.Done = true
			checkTick(t, code, still)
		}
		done := from
		done.Done = true
		if got := checkTick(t, code, done); !sameMach(got, done) {
			t.Errorf("%q from %q that is done went on", row.code, row.from)
		}
		empty := from
		empty.St.Fuel = 0
		want := empty
		want.St.Fault = impl.FlFuel
		if code[from.At].Op == impl.CEnd {
			want.St.Fault = impl.FlEnd
		}
		if got := checkTick(t, code, empty); !sameMach(got, want) {
			t.Errorf("%q from %q without fuel: %s", row.code, row.from, machText(got))
		}
	}
}

func TestTickOfNumbersAndWords(t *testing.T) {
	full := strings.Repeat("3 ", 16)
	checkTicks(t, []ticking{
		{"lit 7, end", "0 9 | 1 2 | b4", "1 8 | 1 2 7 | b4"},
		{"lit -2147483648, end", "0 1 | |", "1 0 | -2147483648 |"},
		{"end, lit 2147483647, end", "1 4000 | |", "2 3999 | 2147483647 |"},
		{"lit 7, end", "0 9 |" + full + "|", "0 8 |" + full + "| | stack"},
		{"lit 7, end", "0 9 |" + full[2:] + "|", "1 8 |" + full[2:] + "7 |"},
		{"do dup, end", "0 9 | 6 | d3", "1 8 | 6 6 | d3"},
		{"do dup, end", "0 9 | | d3", "0 8 | | d3 | stack"},
		{"do over, end", "0 9 |" + full + "|", "0 8 |" + full + "| | stack"},
		{"lit 1, do +, end", "1 9 | 5 6 |", "2 8 | 11 |"},
		{"do /mod, end", "0 9 | 5 0 |", "0 8 | 5 0 | | div"},
		{"do @, end", "0 9 | 77 |", "0 8 | 77 | | addr"},
		{"do !, end", "0 9 | 8 1030 |", "0 8 | 8 1030 | | addr"},
		{"do push, end", "0 9 | 6 5 | b4", "1 8 | 6 | b4 d5"},
		{"do push, end", "0 9 | 6 5 |" + strings.Repeat("c1 ", 24), "0 8 | 6 5 |" + strings.Repeat("c1 ", 24) + "| ret"},
		{"do pop, end", "0 9 | 6 | b4 d5", "1 8 | 6 5 | b4"},
		{"do pop, end", "0 9 | 6 | b4", "0 8 | 6 | b4 | mix"},
		{"do pop, end", "0 9 | 6 |", "0 8 | 6 | | ret"},
		{"do i, end", "0 9 | | c-8", "1 8 | -8 | c-8"},
		{"do nop, end", "0 9 | | c-8", "1 8 | | c-8"},
	})
}

func TestTickOfCallsAndJumps(t *testing.T) {
	full := strings.Repeat("d5 ", 24)
	checkTicks(t, []ticking{
		{"call 1, end", "0 9 | 7 |", "1 8 | 7 | b1"},
		{"call 0, end", "0 9 | | c3", "0 8 | | c3 b1"},
		{"end, end, call 3, end", "2 9 | | b-1", "3 8 | | b-1 b3"},
		{"end, end, call 0, end, end", "2 9 | |", "0 8 | | b3"},
		{"call 1, end", "0 9 | 7 |" + full, "0 8 | 7 |" + full + "| ret"},
		{"call 1, end", "0 9 | 7 |" + full[3:], "1 8 | 7 |" + full[3:] + "b1"},
		{"jump 0, end", "0 9 | 7 | d1", "0 8 | 7 | d1"},
		{"jump 1, end", "0 9 | |", "1 8 | |"},
		{"lit 1, lit 2, jump 0, lit 3, end", "2 9 | 4 |", "0 8 | 4 |"},
		{"lit 1, jump 3, lit 2, lit 3, end", "1 9 | 4 |", "3 8 | 4 |"},
		{"jump 1, end", "0 9 | |" + full, "1 8 | |" + full},
		{"end", "0 9 | 7 | b4", "0 9 | 7 | b4 | end"},
		{"end", "0 0 | 7 | b-1", "0 0 | 7 | b-1 | end"},
		{"end, end, lit 1, end", "1 9 | |", "1 9 | | | end"},
		{"lit 1, end", "1 9 | |" + full, "1 9 | |" + full + "| end"},
	})
}

func TestTickOfForks(t *testing.T) {
	checkTicks(t, []ticking{
		{"zero 2, lit 1, end", "0 9 | 5 0 | b4", "2 8 | 5 0 | b4"},
		{"zero 2, lit 1, end", "0 9 | 5 |", "1 8 | 5 |"},
		{"zero 2, lit 1, end", "0 9 | 0 -1 |", "1 8 | 0 -1 |"},
		{"zero 2, lit 1, end", "0 9 | -2147483648 |", "1 8 | -2147483648 |"},
		{"zero 2, lit 1, end", "0 9 | 2147483647 |", "1 8 | 2147483647 |"},
		{"zero 2, lit 1, end", "0 9 | | b4", "0 8 | | b4 | stack"},
		{"zero 0, end", "0 9 | 0 |", "0 8 | 0 |"},
		{"zero 1, end", "0 9 | 0 |", "1 8 | 0 |"},
		{"zero 1, end", "0 9 | 3 |", "1 8 | 3 |"},
		{"lit 1, lit 2, zero 0, end", "2 9 | 0 |", "0 8 | 0 |"},
		{"pos 2, lit 1, end", "0 9 | -5 0 | b4", "2 8 | -5 0 | b4"},
		{"pos 2, lit 1, end", "0 9 | 5 |", "2 8 | 5 |"},
		{"pos 2, lit 1, end", "0 9 | 2147483647 |", "2 8 | 2147483647 |"},
		{"pos 2, lit 1, end", "0 9 | 5 -1 |", "1 8 | 5 -1 |"},
		{"pos 2, lit 1, end", "0 9 | -2147483648 |", "1 8 | -2147483648 |"},
		{"pos 2, lit 1, end", "0 9 | |", "0 8 | | | stack"},
		{"pos 0, end", "0 9 | 0 |", "0 8 | 0 |"},
		{"lit 1, lit 2, pos 1, end", "2 9 | 6 |", "1 8 | 6 |"},
	})
}

// TestTickOfCounts holds the steps of a loop; the least number goes round.
func TestTickOfCounts(t *testing.T) {
	full := strings.Repeat("d5 ", 24)
	checkTicks(t, []ticking{
		{"for, next 1, end", "0 9 | 7 3 | b4", "1 8 | 7 | b4 c3"},
		{"for, next 1, end", "0 9 | 0 |", "1 8 | | c0"},
		{"for, next 1, end", "0 9 | -2147483648 |", "1 8 | | c-2147483648"},
		{"for, next 1, end", "0 9 | | b4", "0 8 | | b4 | stack"},
		{"for, next 1, end", "0 9 | |" + full, "0 8 | |" + full + "| stack"},
		{"for, next 1, end", "0 9 | 7 3 |" + full, "0 8 | 7 3 |" + full + "| ret"},
		{"for, next 1, end", "0 9 | 7 3 |" + full[3:], "1 8 | 7 |" + full[3:] + "c3"},
		{"for, next 1, end", "1 9 | 7 | b4 c3", "1 8 | 7 | b4 c2"},
		{"for, lit 5, next 1, end", "2 9 | | c2", "1 8 | | c1"},
		{"for, lit 5, next 1, end", "2 9 | | c1", "3 8 | |"},
		{"for, lit 5, next 1, end", "2 9 | | c0", "3 8 | |"},
		{"for, lit 5, next 1, end", "2 9 | | c-1", "3 8 | |"},
		{"for, lit 5, next 1, end", "2 9 | 6 | b4 c-2147483647", "3 8 | 6 | b4"},
		{"for, lit 5, next 1, end", "2 9 | | c-2147483648", "1 8 | | c2147483647"},
		{"for, lit 5, next 1, end", "2 9 | 6 | b4 c-2147483648", "1 8 | 6 | b4 c2147483647"},
		{"for, lit 5, next 1, end", "2 9 | | c2147483647", "1 8 | | c2147483646"},
		{"for, lit 5, next 1, end", "2 9 | | c5 c1", "3 8 | | c5"},
		{"next 0, end", "0 9 | | c2", "0 8 | | c1"},
		{"next 1, end", "0 9 | | c2", "1 8 | | c1"},
		{"next 1, end", "0 9 | | c1", "1 8 | |"},
		{"next 2, end, end", "0 9 | | c9", "2 8 | | c8"},
		{"next 0, end", "0 9 | |" + full[3:] + "c2", "0 8 | |" + full[3:] + "c1"},
		{"next 0, end", "0 9 | 4 |", "0 8 | 4 | | ret"},
		{"next 0, end", "0 9 | 4 | d5", "0 8 | 4 | d5 | mix"},
		{"next 0, end", "0 9 | 4 | b5", "0 8 | 4 | b5 | mix"},
		{"next 0, end", "0 9 | 4 | c5 d1", "0 8 | 4 | c5 d1 | mix"},
		{"next 0, end", "0 9 | 4 | c5 b-1", "0 8 | 4 | c5 b-1 | mix"},
	})
}

// TestTickOfWaysBack holds places to go back to, those of no code too.
func TestTickOfWaysBack(t *testing.T) {
	checkTicks(t, []ticking{
		{"ret, end", "0 9 | 7 | b-1", "0 8 | 7 | | done"},
		{"lit 1, lit 2, ret, end", "2 9 | 7 | c2 b-1", "2 8 | 7 | c2 | done"},
		{"ret, end", "0 9 | | b-1 b-1", "0 8 | | b-1 | done"},
		{"ret, end", "0 9 | 7 | b0", "0 8 | 7 |"},
		{"ret, end", "0 9 | 7 | b-1 b1", "1 8 | 7 | b-1"},
		{"ret, end", "0 9 | 7 | b4 b2", "0 8 | 7 | b4 b2 | mix"},
		{"ret, end", "0 9 | 7 | b3", "0 8 | 7 | b3 | mix"},
		{"ret, end", "0 9 | 7 | b-2", "0 8 | 7 | b-2 | mix"},
		{"ret, end", "0 9 | 7 | b-1 b-2", "0 8 | 7 | b-1 b-2 | mix"},
		{"ret, end", "0 9 | | b-2147483648", "0 8 | | b-2147483648 | mix"},
		{"ret, end", "0 9 | | b2147483647", "0 8 | | b2147483647 | mix"},
		{"ret, end", "0 9 | | b65536", "0 8 | | b65536 | mix"},
		{"lit 1, lit 2, ret, end", "2 9 | | d6 b3", "3 8 | | d6"},
		{"lit 1, lit 2, ret, end", "2 9 | | d6 b0", "0 8 | | d6"},
		{"lit 1, lit 2, ret, end", "2 9 | | d6 b2", "2 8 | | d6"},
		{"lit 1, lit 2, ret, end", "2 9 | | d6 b4", "2 8 | | d6 b4 | mix"},
		{"ret, end", "0 9 | 7 |", "0 8 | 7 | | mix"},
		{"ret, end", "0 9 | 7 | d0", "0 8 | 7 | d0 | mix"},
		{"ret, end", "0 9 | 7 | d-1", "0 8 | 7 | d-1 | mix"},
		{"ret, end", "0 9 | 7 | c0", "0 8 | 7 | c0 | mix"},
		{"ret, end", "0 9 | 7 | c-1", "0 8 | 7 | c-1 | mix"},
		{"ret, end", "0 9 | 7 | b-1 c1", "0 8 | 7 | b-1 c1 | mix"},
		{"ret, end", "0 9 | |" + strings.Repeat("b-1 ", 24), "0 8 | |" + strings.Repeat("b-1 ", 23) + "| done"},
	})
	for _, steps := range []int{1, 2, 255, 256, 257, 1441, 1499, 1500} {
		code := append(slices.Repeat([]impl.Ins{{Op: impl.CRet}}, steps-1), impl.Ins{Op: impl.CEnd})
		for _, n := range []int{steps - 1, steps, steps + 1, -1, -2, -steps, -steps - 1, 0, 1} {
			m := machOf(t, "0 9 | 7 | c3")
			m.St.Ret = append(m.St.Ret, impl.Slot{Kind: impl.SlBack, N: int32(n)})
			next := checkTick(t, code, m)
			if isBack := n >= 0 && n < steps && steps > 1; isBack != (next.St.Fault == 0 && !next.Done) || isBack && next.At != n {
				t.Errorf("from %d in code of %d steps: %s", n, steps, machText(next))
			}
		}
	}
}

// playing is a machine at its Start on some code, how it ends, and the most slots there were.
type playing struct {
	code, from, end string
	deepest         int
}

func checkPlays(t *testing.T, rows []playing) {
	t.Helper()
	for _, row := range rows {
		code, from, end := codeOf(t, row.code), machOf(t, row.from), machOf(t, row.end)
		if got := impl.Play(code, from.At, from.St); !sameSt(got, end.St) {
			t.Errorf("%q from %q left %s, want %q", row.code, row.from, outcome(got), row.end)
		}
		if deepest := impl.Deepest(code, from.At, from.St); deepest != row.deepest {
			t.Errorf("%q from %q has at the most %d slots, want %d", row.code, row.from, deepest, row.deepest)
		}
		if p := checkPlay(t, code, from.At, from.St); p.end.At != end.At || p.end.Done != end.Done {
			t.Errorf("%q from %q ended as %s, want %q", row.code, row.from, machText(p.end), row.end)
		}
		for fuel := range min(from.St.Fuel, 40) {
			checkPlay(t, code, from.At, withFuel(from.St, fuel))
		}
	}
}

func TestPlaysByHand(t *testing.T) {
	full := strings.Repeat("b7 ", 24)
	checkPlays(t, []playing{
		{"end", "0 9 | 7 |", "0 9 | 7 | b-1 | end", 1},
		{"end", "0 0 | 7 | c5", "0 0 | 7 | c5 b-1 | end", 2},
		{"end, ret, end", "2 9 | 7 |", "2 9 | 7 | b-1 | end", 1},
		{"ret, end", "0 9 | 7 | c5", "0 8 | 7 | c5 | done", 2},
		{"ret, end", "0 1 | 7 |", "0 0 | 7 | | done", 1},
		{"ret, end", "0 0 | 7 |", "0 0 | 7 | b-1 | fuel", 1},
		{"lit 5, lit 6, ret, end", "1 9 | |", "2 7 | 6 | | done", 1},
		{"jump 0, end", "0 9 | 7 |", "0 0 | 7 | b-1 | fuel", 1},
		{"jump 0, end", "0 4000 | | c5", "0 0 | | c5 b-1 | fuel", 2},
		{"jump 1, jump 0, end", "0 3 | |", "1 0 | | b-1 | fuel", 1},
		{"jump 1, end", "0 3 | |", "1 2 | | b-1 | end", 1},
		{"call 2, ret, lit 1, do push, lit 2, do push, do pop, do pop, ret, end", "0 20 | |", "1 11 | 2 1 | | done", 4},
		{"call 2, ret, lit 1, do push, lit 2, do push, do pop, do pop, ret, end", "0 7 | | d6", "8 0 | 2 1 | d6 b-1 b1 | fuel", 5},
		{"lit 3, do push, do pop, do drop, end", "0 9 | | c1 c2", "4 5 | | c1 c2 b-1 | end", 4},
		{"for, next 1, ret, end", "0 9 | 3 |", "2 4 | | | done", 2},
		{"for, do i, next 1, ret, end", "0 50 | 3 | c9", "3 42 | 3 2 1 | c9 | done", 3},
		{"for, do i, next 1, end", "0 6 | -2147483648 |", "2 0 | -2147483648 2147483647 2147483646 | b-1 c2147483646 | fuel", 2},
		{"zero 2, ret, lit 4, ret, end", "0 9 | 0 |", "3 6 | 0 4 | | done", 1},
		{"pos 2, ret, lit 4, ret, end", "0 9 | -3 |", "1 7 | -3 | | done", 1},
		{"call 0, end", "0 50 | 7 |", "0 26 | 7 | b-1 " + strings.Repeat("b1 ", 23) + "| ret", 24},
		{"call 0, end", "0 50 | 7 |" + full[3:], "0 49 | 7 |" + full[3:] + "b-1 | ret", 24},
		{"ret, end", "0 9 | 7 |" + full, "0 9 | 7 |" + full + "| ret", 24},
		{"end", "0 0 | 7 |" + full, "0 0 | 7 |" + full + "| ret", 24},
		{"ret, end", "1 9 | 7 |" + full, "1 9 | 7 |" + full + "| ret", 24},
		{"ret, end", "0 9 | 7 |" + full[3:], "0 8 | 7 |" + full[3:] + "| done", 24},
		{"do push, ret, end", "0 9 | 7 |", "1 7 | | b-1 d7 | mix", 2},
		{"for, ret, end", "0 9 | 7 |", "1 7 | | b-1 c7 | mix", 2},
		{"next 0, end", "0 9 | |", "0 8 | | b-1 | mix", 1},
		{"call 1, lit 4, ret, end", "0 9 | |", "2 4 | 4 4 | | done", 2},
		{"lit 1028, do !, end", "0 9 | 8 |", "1 7 | 8 1028 | b-1 | addr", 1},
	})
}

// TestPlayOfAllElse holds what steps do to memory, cells, the register and bytes.
func TestPlayOfAllElse(t *testing.T) {
	code := codeOf(t, "lit -7, lit 5, do !, lit -8, lit 1151, do !, lit 6, do a!, do key, do ., lit 66, do emit, do a, lit 5, do @, ret, end")
	st := stOn(44)
	want := copySt(st)
	want.Mem[5], want.Cells[127], want.A = -7, 0xfffffff8, 6
	want.In, want.Out, want.Data, want.Fuel = []byte("zs"), []byte("so 65 B"), []int32{44, 6, -7}, 70-16
	if got := impl.Play(code, 0, st); !sameSt(got, want) {
		t.Errorf("left %+v, want %+v", got, want)
	}
	if deepest := impl.Deepest(code, 0, st); deepest != 4 {
		t.Error("the most slots are", deepest)
	}
	for fuel := range 18 {
		for at := range code {
			checkPlay(t, code, at, withFuel(st, fuel))
		}
	}
}

// everyStep tells steps of each Op, to each place of some code.
func everyStep(steps int) []impl.Ins {
	list := []impl.Ins{{Op: impl.CLit}, {Op: impl.CLit, N: -1}, {Op: impl.CPrim, N: 1}, {Op: impl.CPrim, N: 19}, {Op: impl.CPrim, N: 20}, {Op: impl.CFor}, {Op: impl.CRet}, {Op: impl.CEnd}}
	for _, op := range []int{impl.CCall, impl.CJump, impl.CZero, impl.CPos, impl.CNext} {
		for to := range steps {
			list = append(list, impl.Ins{Op: op, N: to})
		}
	}
	return list
}

// TestShortPlays holds all code of up to three steps and an end, from its beginning.
func TestShortPlays(t *testing.T) {
	states := []impl.St{withFuel(stOn(2, 0, 2), 25), withFuel(stOn(-1), 9)}
	for at := range states {
		states[at].Cells, states[at].Vars, states[at].Ret = nil, nil, nil
	}
	seen := map[int]int{}
	for free := range 4 {
		steps := everyStep(free + 1)
		count := 1
		for range free {
			count *= len(steps)
		}
		for k := range count {
			var code []impl.Ins
			for range free {
				code = append(code, steps[k%len(steps)])
				k /= len(steps)
			}
			code = append(code, impl.Ins{Op: impl.CEnd})
			for _, st := range states {
				want := playByRows(code, 0, st)
				if got, deepest := impl.Play(code, 0, st), impl.Deepest(code, 0, st); !sameSt(got, want.end.St) || deepest != want.deepest {
					t.Fatalf("%q on %v left %s with %d slots at the most, want %s with %d", impl.Listing(code), st.Data, outcome(got), deepest, outcome(want.end.St), want.deepest)
				}
				seen[want.end.St.Fault]++
			}
		}
	}
	for _, fault := range []int{0, impl.FlStack, impl.FlRet, impl.FlFuel, impl.FlEnd, impl.FlMix} {
		if seen[fault] < 100 {
			t.Error("only", seen[fault], "ended with", fault)
		}
	}
}

// mixedSteps tells code of any steps, of which the jumps mostly go on.
func mixedSteps(m *mixer, steps int) []impl.Ins {
	var code []impl.Ins
	for at := range steps - 1 {
		step := impl.Ins{Op: m.below(9)}
		switch stepKinds[step.Op] {
		case 'n':
			step.N = []int{0, 1, 2, 5, -1, -9, 1024 + m.below(130), m.below(32), least32, most32}[m.below(10)]
		case 'w':
			step.N = m.below(24)
		case 'p':
			step.N = m.below(steps)
			if m.below(3) > 0 {
				step.N = min(at+1+m.below(4), steps-1)
			}
		}
		code = append(code, step)
	}
	return append(code, impl.Ins{Op: impl.CEnd})
}

// TestAnyMachine holds ticks of mixed machines at all places of mixed code, and what comes of them.
func TestAnyMachine(t *testing.T) {
	m := mixer(12)
	seen, done := map[int]int{}, 0
	for range 400 {
		code := mixedSteps(&m, 1+m.below(30))
		st := mixedSt(&m)
		for at := range st.Ret {
			if m.below(3) > 0 {
				st.Ret[at].N = int32(m.below(len(code)+4) - 2)
			}
			if m.below(4) == 0 {
				st.Ret[at] = impl.Slot{Kind: impl.SlBack, N: -1}
			}
		}
		for at := range code {
			next := checkTick(t, code, impl.Mach{St: st, At: at})
			seen[next.St.Fault]++
			if next.Done {
				done++
			}
		}
		st.Fuel = min(st.Fuel, 300)
		for range 3 {
			checkPlay(t, code, m.below(len(code)), st)
			st.Data, st.Ret = numbersOf(t, "4 -2 1 0 3 2")[m.below(7):], slotsOf(t, "c2 b3 d6 b-1")[m.below(5):]
		}
	}
	for _, fault := range []int{0, impl.FlStack, impl.FlRet, impl.FlAddr, impl.FlFuel, impl.FlEnd, impl.FlMix} {
		if seen[fault] < 10 {
			t.Error("only", seen[fault], "ended with", fault)
		}
	}
	if done < 10 {
		t.Error("only", done, "were done")
	}
}

// levelByRows tells a state whose ways back are all alike.
func levelByRows(st impl.St) impl.St {
	st.Ret = slices.Clone(st.Ret)
	for at, slot := range st.Ret {
		if slot.Kind == 2 {
			st.Ret[at].N = 0
		}
	}
	return st
}

// checkPromise12 holds that the machine does what a body means.
func checkPromise12(t *testing.T, defs []impl.Def, k int, st impl.St) impl.St {
	t.Helper()
	code, starts := impl.CodeOf(defs, false)
	want := levelByRows(meansByRows(defs, k, st))
	played, means := impl.Play(code, starts[k], st), impl.Means(defs, k, st)
	if !sameSt(impl.Level(played), want) || !sameSt(impl.Level(means), want) {
		t.Fatalf("definition %d of %s on %s\nplayed %s\nmeans  %s\nwant   %s", k, bodiesText(defs), outcome(st), outcome(played), outcome(means), outcome(want))
	}
	return played
}

// checkPromise13 holds that with tails the machine does the same, where it went without a fault: each jump was a call and an exit.
func checkPromise13(t *testing.T, defs []impl.Def, k int, st impl.St) (saved int) {
	t.Helper()
	code, starts := impl.CodeOf(defs, false)
	short, begins := impl.CodeOf(defs, true)
	end, fast := impl.Play(code, starts[k], st), impl.Play(short, begins[k], st)
	deepest, flat := impl.Deepest(code, starts[k], st), impl.Deepest(short, begins[k], st)
	if impl.StOk(st) && !impl.StOk(fast) {
		t.Fatalf("definition %d of %s with tails left a state that isn't right: %s", k, bodiesText(defs), outcome(fast))
	}
	if end.Fault != 0 {
		return 0
	}
	saved = fast.Fuel - end.Fuel
	if jumps := playByRows(short, begins[k], st).jumps; saved != jumps || flat > deepest || !sameSt(withFuel(fast, end.Fuel), end) {
		t.Fatalf("definition %d of %s left %s with at most %d slots, with %d tails %s with %d", k, bodiesText(defs), outcome(end), deepest, jumps, outcome(fast), flat)
	}
	return saved
}

// checkBoth holds both promises, with fuel that is just enough or less too, and the machine against the rows.
func checkBoth(t *testing.T, defs []impl.Def, k int, st impl.St) (end impl.St, saved int) {
	t.Helper()
	end = checkPromise12(t, defs, k, st)
	saved = checkPromise13(t, defs, k, st)
	taken := st.Fuel - end.Fuel
	for fuel := max(0, taken-20); fuel <= min(taken+2, 4000); fuel++ {
		checkPromise12(t, defs, k, withFuel(st, fuel))
		checkPromise13(t, defs, k, withFuel(st, fuel))
	}
	for _, tail := range []bool{false, true} {
		code, starts := impl.CodeOf(defs, tail)
		checkPlay(t, code, starts[k], st)
	}
	return end, saved
}

// TestMachineOfBodies holds definitions with each kind of op on some states; the rest of the fuel, and what tails save, are by hand.
func TestMachineOfBodies(t *testing.T) {
	rows := []struct {
		defs, has              string
		fault, taken, saved    int
		deepest, deepestTailed int
	}{
		{"7 ;", "", 0, 2, 0, 4, 4},
		{"", "", impl.FlEnd, 0, 0, 4, 4},
		{"dup * ;", "5", 0, 3, 0, 4, 4},
		{"#1 ; | 4 ;", "", 0, 4, 1, 5, 4},
		{"#1 #1 ; | #2 #2 ; | 2* ;", "3", 0, 17, 3, 6, 6},
		{"if 1 then 2 ;", "0", 0, 3, 0, 4, 4},
		{"if 1 then 2 ;", "3", 0, 4, 0, 4, 4},
		{"-if 1 then 2 ;", "-3", 0, 4, 0, 4, 4},
		{"-if 1 then 2 ;", "3", 0, 3, 0, 4, 4},
		{"for i next ;", "3", 0, 8, 0, 5, 5},
		{"for i #1 next ; | if -if ; then dup * ; then ;", "2", 0, 18, 0, 6, 6},
		{"for i 1 + for i next next ;", "2", 0, 22, 0, 6, 6},
		{"if -1 + #0 ; then ;", "4", 0, 4*5 + 2, 4, 8, 4},
		{"if -1 + #1 ; then ; | if -1 + #0 ; then ;", "5", 0, 5*5 + 2, 5, 9, 4},
		{"-if #1 ; then ; | - 1 + ;", "-7", 0, 7, 1, 5, 4},
		{"1 | 2 | 3 ;", "", 0, 4, 0, 4, 4},
		{"#2 ; | 1 | 2 ;", "", 0, 4, 1, 5, 4},
		{"#1 ; | 2", "", impl.FlEnd, 2, 0, 5, 4},
		{"#0 ;", "", impl.FlRet, 21, 0, 24, 4},
		{"for #1 ; next | ;", "4", impl.FlMix, 4, 0, 6, 5},
		{"push #1 ; | pop ;", "5", impl.FlMix, 3, 0, 6, 5},
		{"push 9 pop ;", "5", 0, 4, 0, 5, 5},
		{"push #1 pop ; | #2 ; | 8 ;", "5", 0, 8, 1, 7, 6},
		{"push push push pop pop pop #1 ; | 3 push pop ;", "5 6 7", 0, 12, 1, 7, 7},
		{"#1 push pop ; | push push push pop pop pop ;", "5 6 7", 0, 11, 0, 8, 8},
		{"drop if then ;", "5", impl.FlStack, 2, 0, 4, 4},
	}
	for _, row := range rows {
		defs := defsOf(t, row.defs)
		st := stOn(numbersOf(t, row.has)...)
		end, saved := checkBoth(t, defs, 0, st)
		if end.Fault != row.fault || st.Fuel-end.Fuel != row.taken || saved != row.saved {
			t.Errorf("%q on %q left %s, of which tails save %d", row.defs, row.has, outcome(end), saved)
		}
		code, starts := impl.CodeOf(defs, false)
		short, begins := impl.CodeOf(defs, true)
		deepest, flat := impl.Deepest(code, starts[0], st), impl.Deepest(short, begins[0], st)
		if deepest != row.deepest || flat != row.deepestTailed {
			t.Errorf("%q on %q has at the most %d slots, with tails %d", row.defs, row.has, deepest, flat)
		}
	}
}

// TestMachineOfShortBodies holds both promises of all short bodies of some ops, ahead of a definition that is called and into which the first one falls.
func TestMachineOfShortBodies(t *testing.T) {
	words := map[byte]string{'1': "1", 'd': "drop", 'c': "#1", 's': "#0", 'i': "if", 'u': "-if", 't': "then", 'f': "for", 'n': "next", 'x': ";"}
	states := []impl.St{withFuel(stOn(2, 0), 20), withFuel(stOn(0, -1, 2), 60)}
	for at := range states {
		states[at].Cells, states[at].Vars = nil, nil
	}
	saved, seen := 0, map[int]int{}
	eachText("1dcsiutfnx", 4, func(s string) {
		var body []impl.Op
		for at := range len(s) {
			body = append(body, opOf(t, words[s[at]]))
		}
		if !isShape(body) {
			return
		}
		for _, behind := range []string{";", "dup -if drop then", "drop if #0 ; then ;"} {
			defs := []impl.Def{{Name: "a", Body: body}, {Name: "b", Body: bodyOf(t, behind)}}
			for _, st := range states {
				seen[checkPromise12(t, defs, 0, st).Fault]++
				saved += checkPromise13(t, defs, 0, st)
			}
		}
	})
	for _, fault := range []int{0, impl.FlStack, impl.FlRet, impl.FlFuel, impl.FlEnd, impl.FlMix} {
		if seen[fault] < 50 {
			t.Error("only", seen[fault], "ended with", fault)
		}
	}
	if saved < 100 {
		t.Error("tails saved only", saved)
	}
}

// tameText tells a body that leaves as many numbers as it finds; all calls are of definitions further on, and many of them stand ahead of an exit.
func tameText(m *mixer, deep int, ends bool, k, count int) string {
	words := []string{"1 +", "-", "dup .", "2 *", "dup drop", "push 5 pop nip", "dup push drop pop", "nop", "3 or", "a! a", "key drop", "5 and"}
	text := ""
	for range 1 + m.below(3) {
		to := "#" + strconv.Itoa(min(k+1+m.below(4), count-1)) + " "
		switch kind := m.below(8); {
		case kind == 0 && deep > 0:
			text += []string{"1", "2", "3"}[m.below(3)] + " for " + tameText(m, deep-1, false, k, count) + "next "
		case kind < 3 && deep > 0:
			text += []string{"if ", "-if "}[m.below(2)] + tameText(m, deep-1, ends, k, count) + "then "
		case kind < 4 && k+1 < count:
			text += to
		case kind < 6 && k+1 < count && ends:
			return text + to + "; "
		default:
			text += words[m.below(len(words))] + " "
		}
	}
	return text
}

func tameDefs(t *testing.T, m *mixer, count int) []impl.Def {
	t.Helper()
	var bodies []string
	for len(bodies) < count {
		text := tameText(m, 2, true, len(bodies), count)
		if !strings.HasSuffix(text, "; ") && m.below(8) > 0 || len(bodies) == count-1 {
			text += ";"
		}
		if len(strings.Fields(text)) <= 60 {
			bodies = append(bodies, text)
		}
	}
	return defsOf(t, strings.Join(bodies, "|"))
}

// TestMachineOfAnyBodies holds both promises of mixed definitions on mixed states.
func TestMachineOfAnyBodies(t *testing.T) {
	m := mixer(121)
	seen, saved := map[int]int{}, 0
	for range 700 {
		defs := livelyDefs(t, &m, 1+m.below(6))
		st := withFuel(stOn(numbersOf(t, "4 -2 1 0 3 2")[m.below(6):]...), m.below(400))
		switch m.below(8) {
		case 0:
			st = mixedSt(&m)
			st.Fuel = min(st.Fuel, 500)
		case 1:
			defs = []impl.Def{{Name: "a", Body: mixedBody(&m, 60, 2)}, {Name: "b", Body: mixedBody(&m, 60, 2)}}
		case 2, 3, 4:
			defs = tameDefs(t, &m, 2+m.below(7))
		}
		end, less := checkBoth(t, defs, m.below(len(defs)), st)
		seen[end.Fault]++
		saved += less
	}
	for _, fault := range []int{0, impl.FlStack, impl.FlRet, impl.FlFuel, impl.FlEnd, impl.FlMix, impl.FlAddr} {
		if seen[fault] < 3 {
			t.Error("only", seen[fault], "ended with", fault)
		}
	}
	if saved < 100 {
		t.Error("tails saved only", saved)
	}
}

// TestMachineOfLongRuns holds runs that take all of the most fuel, and the longest code.
func TestMachineOfLongRuns(t *testing.T) {
	for _, s := range []string{"for next ;", "#0 ;", "if -1 + #0 ; then ;", "for #1 next ; | dup drop ;", "1 + #1 ; | #0 ;", "for i drop next #0 ;"} {
		for _, n := range []int32{least32, -1, 0, 1, 700, 1332, 3998, 3999, 4000, most32} {
			st := withFuel(stOn(7, n), 4000)
			st.Cells, st.Vars = nil, nil
			checkPromise12(t, defsOf(t, s), 0, st)
			checkPromise13(t, defsOf(t, s), 0, st)
		}
	}
	chain := namedDefs(t, 24, strings.Repeat("nop ", 60))
	chain[23].Body[59] = impl.Op{Kind: impl.OExit}
	for k := range chain {
		for less := range 3 {
			end := checkPromise12(t, chain, k, withFuel(stOn(1), 60*(24-k)+1-less))
			if (end.Fault == 0) != (less < 2) || end.Fuel != max(0, 1-less) {
				t.Errorf("from definition %d on: %s", k, outcome(end))
			}
		}
	}
	code := append(slices.Repeat([]impl.Ins{{Op: impl.CPrim, N: 23}}, 1499), impl.Ins{Op: impl.CEnd})
	for _, at := range []int{0, 1, 1000, 1498, 1499} {
		if end := checkPlay(t, code, at, withFuel(stOn(1), 4000)).end; end.St.Fault != impl.FlEnd || end.St.Fuel != 4000-1499+at || end.At != 1499 {
			t.Errorf("from step %d on: %s", at, machText(end))
		}
	}
}

// checkNoMachine holds that there is none, with or without a tick.
func checkNoMachine(t *testing.T, what string, code []impl.Ins, at int, st impl.St) {
	t.Helper()
	if p := checkPlay(t, code, at, st); !sameMach(p.end, impl.Mach{}) || p.deepest != 0 {
		t.Errorf("%s: %s, with %d slots", what, machText(p.end), p.deepest)
	}
	none := []impl.Mach{impl.Start(code, at, st), {St: impl.Play(code, at, st)}, {At: impl.Deepest(code, at, st)}}
	for k, m := range none {
		if !sameMach(m, impl.Mach{}) {
			t.Errorf("%s: %d tells %s", what, k, machText(m))
		}
	}
	for _, done := range []bool{false, true} {
		m := impl.Mach{St: st, At: at, Done: done}
		next := checkTick(t, code, m)
		if isKept := isRightSt(st) && st.Fault != 0; !isKept && !sameMach(next, impl.Mach{}) || isKept && !sameMach(next, m) {
			t.Errorf("%s: a tick of %s is %s", what, machText(m), machText(next))
		}
	}
}

func TestCodeThatIsNone(t *testing.T) {
	wrong := []string{"ret", "lit 5", "end, ret", "end, end, jump 0", "end, jump 2", "jump 2, end", "jump -1, end", "call 2, end", "call -1, end", "zero 2, end", "pos 2, end", "next 2, end", "next -1, end", "lit 2147483648, end", "lit -2147483649, end"}
	for _, s := range wrong {
		for _, st := range []impl.St{stOn(1, 2), withFuel(stOn(), 0)} {
			code := codeOf(t, s)
			for at := range code {
				checkNoMachine(t, s, code, at, st)
			}
		}
	}
	bent := [][]impl.Ins{nil, {}, {{Op: impl.CEnd, N: 1}}, {{Op: impl.CFor, N: 1}, {Op: impl.CEnd}}, {{Op: impl.CRet, N: -1}, {Op: impl.CEnd}}, {{Op: -1}, {Op: impl.CEnd}}, {{Op: 10}, {Op: impl.CEnd}}, {{Op: impl.CPrim, N: 24}, {Op: impl.CEnd}}, {{Op: impl.CPrim, N: -1}, {Op: impl.CEnd}}}
	bent = append(bent, slices.Repeat([]impl.Ins{{Op: impl.CEnd}}, 1501), slices.Repeat([]impl.Ins{{Op: impl.CEnd}}, 4000))
	for _, code := range bent {
		for _, at := range []int{-1, 0, 1, len(code) - 1} {
			checkNoMachine(t, "bent code", code, at, stOn(1, 2))
		}
	}
	if end := checkPlay(t, slices.Repeat([]impl.Ins{{Op: impl.CEnd}}, 1500), 1499, stOn()).end; end.At != 1499 || end.St.Fault != impl.FlEnd {
		t.Error("the most code left", machText(end))
	}
}

func TestPlacesThatAreNone(t *testing.T) {
	for _, s := range []string{"end", "ret, end", "lit 1, lit 2, ret, jump 0, end"} {
		code := codeOf(t, s)
		for _, at := range placesAround(len(code)) {
			if isPlaceOf(code, at) {
				checkPlay(t, code, at, stOn(1, 2))
				checkTick(t, code, impl.Mach{St: stOn(1, 2), At: at})
				continue
			}
			checkNoMachine(t, "place "+strconv.Itoa(at)+" of "+s, code, at, stOn(1, 2))
			faulty := stOn(1, 2)
			faulty.Fault = impl.FlEnd
			if m := checkTick(t, code, impl.Mach{St: faulty, At: at}); !sameMach(m, impl.Mach{}) {
				t.Error("a tick at", at, "of", s, "is", machText(m))
			}
		}
	}
}

// TestMachinesThatAreNone holds states that aren't right, or have a Fault.
func TestMachinesThatAreNone(t *testing.T) {
	code := codeOf(t, "lit 1, ret, call 0, end")
	for what, change := range wrongChanges() {
		st := stOn(1, 2, 3)
		change(&st)
		for at := range code {
			checkNoMachine(t, what, code, at, st)
		}
	}
	for fault := 1; fault <= 13; fault++ {
		for _, st := range []impl.St{stOn(), stOn(1, 2, 3), stOn(fullData()...), withFuel(stOn(1), 0)} {
			st.Fault = fault
			for at := range code {
				checkNoMachine(t, "a state with a fault", code, at, st)
			}
		}
	}
	for _, code := range [][]impl.Ins{nil, code} {
		if m := checkTick(t, code, impl.Mach{}); !sameMach(m, impl.Mach{}) {
			t.Error("a tick of no machine is", machText(m))
		}
	}
}
