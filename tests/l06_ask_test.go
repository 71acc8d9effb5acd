package tests

import (
	"fmt"
	"math"
	"regexp"
	"slices"
	"strconv"
	"strings"
	"testing"

	"loop.example/g00712/impl"
)

func inRegister(t int, x int, v int) impl.Atom { return impl.Atom{T: t, X: x, V: v} }

func inCell(x int, v int) impl.Atom { return impl.Atom{Kind: 1, X: x, V: v} }

func ask(list ...impl.Atom) []impl.Atom { return list }

var badKinds = []int{-1, 2, 3, 256, -256, math.MinInt, math.MaxInt}

// Of a cell, T must be 0, so all of these are bad for it.
var strayTs = []int{-1, 1, 2, impl.MaxThreads, impl.MaxValue, math.MinInt, math.MaxInt}

// wantHolds looks for the atom among all that is true of the machine.
func wantHolds(m impl.Machine, a impl.Atom) bool {
	for t, th := range m.Threads {
		for x, v := range th.Vals {
			if a == inRegister(t, x, v) {
				return true
			}
		}
	}
	for x, v := range m.Mem.Cells {
		if a.Kind == 1 && a.X == x && a.V == v {
			return true
		}
	}
	return false
}

func wantAll(m impl.Machine, query []impl.Atom) bool {
	return !slices.ContainsFunc(query, func(a impl.Atom) bool { return !wantHolds(m, a) })
}

func TestAskLimits(t *testing.T) {
	if impl.MaxAtoms != 8 {
		t.Error("limit", impl.MaxAtoms)
	}
}

func TestAtomOk(t *testing.T) {
	numbers := []int{math.MinInt, -1000001, -1000000, -1, 0, 1, 2, 3, 4, 5, 15, 16, 1000000, 1000001, math.MaxInt}
	programs := []impl.Prog{prog(1, nil), prog(2, nil, nil), prog(5, nil, nil, nil), prog(16, code(fence))}
	for _, p := range programs {
		for _, x := range numbers {
			for _, v := range numbers {
				for _, at := range numbers {
					fine := within(v, -1000000, 1000000)
					wantRegister := fine && within(at, 0, len(p.Codes)-1) && within(x, 0, 3)
					if got := impl.AtomOk(impl.Atom{Kind: 0, T: at, X: x, V: v}, p); got != wantRegister {
						t.Error("register", p, at, x, v, got)
					}
					wantCell := fine && at == 0 && within(x, 0, p.Cells-1)
					if got := impl.AtomOk(impl.Atom{Kind: 1, T: at, X: x, V: v}, p); got != wantCell {
						t.Error("cell", p, at, x, v, got)
					}
				}
			}
		}
		for _, kind := range badKinds {
			if impl.AtomOk(impl.Atom{Kind: kind}, p) {
				t.Error("kind", kind, p)
			}
		}
	}
	for _, p := range badPrograms() {
		if impl.AtomOk(inRegister(0, 0, 0), p) || impl.AtomOk(inCell(0, 0), p) {
			t.Error("invalid program", p)
		}
	}
}

func askedMachine() impl.Machine {
	return machine(mem(5, -6, 0), thread(2, vals(1, -2, 30, impl.MaxValue), slot(0, 9)), thread(0, vals(4, 3, 2, -impl.MaxValue)))
}

// Every atom that is true of the machine holds, and no other one.
func TestHoldsOneAtom(t *testing.T) {
	m := askedMachine()
	values := []int{math.MinInt, -1000001, -1000000, -6, -2, -1, 0, 1, 2, 3, 4, 5, 9, 30, 1000000, 1000001, math.MaxInt}
	indexes := []int{math.MinInt, -2, -1, 0, 1, 2, 3, 4, 5, 16, math.MaxInt}
	for _, x := range indexes {
		for _, v := range values {
			for _, at := range indexes {
				for _, kind := range append([]int{0, 1}, badKinds...) {
					a := impl.Atom{Kind: kind, T: at, X: x, V: v}
					if got := impl.Holds(m, ask(a)); got != wantHolds(m, a) {
						t.Error("holds", a, got)
					}
				}
			}
		}
	}
}

func TestHoldsCases(t *testing.T) {
	m := askedMachine()
	cases := []struct {
		want  bool
		query []impl.Atom
	}{
		{true, ask(inRegister(0, 0, 1))},
		{true, ask(inRegister(0, 3, impl.MaxValue))},
		{true, ask(inRegister(1, 3, -impl.MaxValue))},
		{true, ask(inCell(0, 5))}, // what waits in the buffer is not in the cell
		{false, ask(inCell(0, 9))},
		{true, ask(inCell(2, 0))},
		{false, ask(inCell(3, 0))}, // what does not exist does not have the value 0 either
		{false, ask(inRegister(2, 0, 0))},
		{false, ask(inRegister(0, 4, 0))},
		{true, ask(inCell(1, -6), inRegister(1, 0, 4))},
		{true, ask(inCell(1, -6), inCell(1, -6))},
		{false, ask(inCell(1, -6), inCell(1, 6))},
		{false, ask(inRegister(1, 0, 5), inCell(1, -6))},
		{true, ask(impl.Atom{Kind: 1, T: 1, X: 1, V: -6})}, // T says nothing about a cell
	}
	for _, c := range cases {
		if got := impl.Holds(m, c.query); got != c.want {
			t.Error("holds", c.query, got)
		}
	}
}

func TestHoldsManyAtoms(t *testing.T) {
	m := askedMachine()
	for n := range 12 {
		query := slices.Repeat(ask(inCell(0, 5)), n)
		if got := impl.Holds(m, query); got != (n <= 8) {
			t.Error("number of atoms", n, got)
		}
		for at := range n {
			one := slices.Clone(query)
			for _, bad := range ask(inCell(0, 6), inRegister(0, 0, 2), impl.Atom{Kind: 2, V: 5}) {
				one[at] = bad
				if impl.Holds(m, one) {
					t.Error("holds", one)
				}
			}
		}
	}
	if impl.Holds(m, slices.Repeat(ask(inCell(0, 5)), 100000)) {
		t.Error("very many atoms")
	}
}

// Holds says nothing about the rest of the machine.
func TestHoldsInInvalidMachines(t *testing.T) {
	odd := machine(mem(5000000), thread(-1, nil), thread(0, vals(7)), thread(0, vals(1, 2, 3, 4, 5)), idle(0))
	for _, m := range append(machinesWithoutText(), odd) {
		if !impl.Holds(m, nil) || !impl.Holds(m, ask()) {
			t.Error("a query without atoms", m)
		}
		for at := range 6 {
			for x := range 6 {
				for _, v := range []int{0, 5, 7, 5000000} {
					for _, a := range ask(inRegister(at, x, v), inCell(x, v)) {
						if got := impl.Holds(m, ask(a)); got != wantHolds(m, a) {
							t.Error("holds", m, a, got)
						}
					}
				}
			}
		}
	}
}

// machineOf reads an outcome, which says all that a query can ask.
func machineOf(t *testing.T, outcome string) impl.Machine {
	t.Helper()
	var lists [][]int
	for _, part := range strings.Split(outcome, " | ") {
		var list []int
		for _, word := range strings.Fields(part) {
			v, err := strconv.Atoi(word)
			if err != nil {
				t.Fatal("outcome", outcome, err)
			}
			list = append(list, v)
		}
		lists = append(lists, list)
	}
	last := len(lists) - 1
	m := machine(mem(lists[last]...))
	for _, list := range lists[:last] {
		m.Threads = append(m.Threads, thread(0, list))
	}
	return m
}

func atomsOf(m impl.Machine) []impl.Atom {
	var list []impl.Atom
	for t, th := range m.Threads {
		for x, v := range th.Vals {
			list = append(list, inRegister(t, x, v))
		}
	}
	for x, v := range m.Mem.Cells {
		list = append(list, inCell(x, v))
	}
	return list
}

// queriesAbout returns queries that hold in all, in some and in none of the ends, each once.
func queriesAbout(ends []impl.Machine) [][]impl.Atom {
	queries := [][]impl.Atom{nil}
	for _, m := range ends {
		atoms := atomsOf(m)
		for i, a := range atoms {
			other := a
			other.V = limited(a.V+2) - 1
			queries = append(queries, ask(a), ask(other), ask(a, atoms[(i+3)%len(atoms)]))
		}
		queries = append(queries, atoms[:min(8, len(atoms))], atoms[max(0, len(atoms)-8):])
	}
	slices.SortFunc(queries, func(a []impl.Atom, b []impl.Atom) int { return strings.Compare(fmt.Sprint(a), fmt.Sprint(b)) })
	return slices.CompactFunc(queries, slices.Equal)
}

func wantAnswers(ends []impl.Machine, query []impl.Atom) (int, int) {
	can, must := 0, 1
	for _, m := range ends {
		if wantAll(m, query) {
			can = 1
		} else {
			must = 0
		}
	}
	return can, must
}

func checkAnswers(t *testing.T, p impl.Prog, query []impl.Atom, plain bool, can int, must int) {
	t.Helper()
	gotCan, gotMust := impl.CanEnd(p, query, plain), impl.MustEnd(p, query, plain)
	if gotCan != can || gotMust != must {
		t.Error("answers", p, query, plain, gotCan, gotMust, "want", can, must)
	}
}

// checkAgreement holds the first part of promise 6 against one machine and returns the number of queries that hold in some ends only.
func checkAgreement(t *testing.T, p impl.Prog, plain bool) int {
	t.Helper()
	outcomes, ok := impl.Outcomes(p, plain)
	if !ok {
		checkAnswers(t, p, nil, plain, -1, -1)
		checkAnswers(t, p, ask(inCell(0, 0)), plain, -1, -1)
		return 0
	}
	var ends []impl.Machine
	for _, outcome := range outcomes {
		ends = append(ends, machineOf(t, outcome))
	}
	some := 0
	for _, query := range queriesAbout(ends) {
		can, must := wantAnswers(ends, query)
		checkAnswers(t, p, query, plain, can, must)
		if can > must {
			some++
		}
	}
	return some
}

func TestAnswersAgreeWithOutcomes(t *testing.T) {
	for _, p := range exploredPrograms(t) {
		checkAgreement(t, p, true)
		checkAgreement(t, p, false)
	}
	choice := code(store(1, 0), store(1, 1), ins(2, 0, 0, 0), ins(7, 0, 1, 1), jump(0))
	some := 0
	codes := codesOf(choice, 2)
	for i, first := range codes {
		for _, second := range codes[i:] {
			one := code(ins(0, 1, 0, 1))
			p := prog(2, append(slices.Clone(one), first...), append(one, second...))
			some += checkAgreement(t, p, true) + checkAgreement(t, p, false)
		}
	}
	if some == 0 {
		t.Error("no query holds in some ends only")
	}
}

func TestAnswersCases(t *testing.T) {
	add := "set 1 1000; add 1 1; add 1 1; add 1 1; add 1 1; add 1 1; add 1 1; add 1 1; add 1 1; add 1 1; add 1 1; store 1 0; sub 2 1"
	top := ask(inCell(0, impl.MaxValue), inRegister(0, 1, impl.MaxValue), inRegister(0, 2, -impl.MaxValue))
	cases := []struct {
		texts               []string
		query               string
		canPlain, mustPlain int
		can, must           int
	}{
		{[]string{""}, "0:0=0 & [0]=0 & [1]=0", 1, 1, 1, 1},
		{[]string{""}, "0:0=1", 0, 0, 0, 0},
		{[]string{sb0, sb1}, "0:0=0 & 1:0=0", 0, 0, 1, 0},
		{[]string{sb0, sb1}, "0:0=1 & 1:0=1", 1, 0, 1, 0},
		{[]string{sb0, sb1}, "0:0=0 & 1:0=1", 1, 0, 1, 0},
		{[]string{sb0, sb1}, "0:0=0", 1, 0, 1, 0},
		{[]string{sb0, sb1}, "0:1=1 & 1:1=1 & [0]=1 & [1]=1", 1, 1, 1, 1},
		{[]string{sb0, sb1}, "[0]=0", 0, 0, 0, 0}, // a store that waits is drained before the end
		{[]string{sb0, sb1}, "0:0=0 & 0:0=1", 0, 0, 0, 0},
		{[]string{"load 0 0; jz 0 0", "set 1 5; store 1 0"}, "0:0=5", 1, 1, 1, 1}, // the loop ends only with the store
		{[]string{"load 0 0; jz 0 0", "set 1 5; store 1 0"}, "0:0=0", 0, 0, 0, 0},
	}
	for _, c := range cases {
		p := progOf(t, 2, c.texts...)
		query, ok := impl.ParseAsk(c.query)
		if !ok {
			t.Fatal("query refused", c.query)
		}
		checkAnswers(t, p, query, true, c.canPlain, c.mustPlain)
		checkAnswers(t, p, query, false, c.can, c.must)
	}
	checkAnswers(t, progOf(t, 1, add), top, true, 1, 1)
	checkAnswers(t, progOf(t, 1, add), top, false, 1, 1)
}

// A query without atoms holds in every final state, if there is one.
func TestAnswersWithoutAtoms(t *testing.T) {
	for _, p := range exploredPrograms(t) {
		for _, plain := range []bool{true, false} {
			n := impl.EndsOf(p, plain)
			can, must := min(n, 1), 1
			if n < 0 {
				must = -1
			}
			checkAnswers(t, p, nil, plain, can, must)
			checkAnswers(t, p, ask(), plain, can, must)
		}
	}
	checkAnswers(t, progOf(t, 1, ""), nil, true, 1, 1)
	checkAnswers(t, progOf(t, 1, "set 1 1"), nil, false, 1, 1)
}

func TestAnswersWithoutFinalState(t *testing.T) {
	for _, texts := range [][]string{{"jz 0 0"}, {"set 1 1; store 1 0", "jz 0 0"}, {"load 2 1; jz 2 0", "store 1 0"}} {
		p := progOf(t, 2, texts...)
		for _, query := range [][]impl.Atom{nil, ask(inRegister(0, 0, 0)), ask(inCell(0, 7)), ask(inCell(0, 1), inCell(0, 2))} {
			checkAnswers(t, p, query, true, 0, 1)
			checkAnswers(t, p, query, false, 0, 1)
		}
		checkAnswers(t, p, ask(inCell(2, 0)), true, -1, -1)
	}
}

func TestAnswersAtTheStateLimit(t *testing.T) {
	full, over := progOf(t, 1, counter(499, "; fence")), progOf(t, 1, counter(499, "; fence; fence"))
	onlyPlain := progOf(t, 1, counter(499, "; store 1 0"))
	yes, no := ask(inRegister(0, 1, 1)), ask(inRegister(0, 1, 2))
	for _, plain := range []bool{true, false} {
		checkAnswers(t, full, yes, plain, 1, 1)
		checkAnswers(t, full, no, plain, 0, 0)
		for _, query := range [][]impl.Atom{nil, yes, no} {
			checkAnswers(t, over, query, plain, -1, -1)
		}
	}
	checkAnswers(t, onlyPlain, ask(inCell(0, 1)), true, 1, 1)
	checkAnswers(t, onlyPlain, ask(inCell(0, 1)), false, -1, -1)
	checkAnswers(t, onlyPlain, nil, true, 1, 1)
	checkAnswers(t, onlyPlain, nil, false, -1, -1)
}

// Atoms that AtomOk refuses for a program with 2 cells and 2 threads.
func badAtoms() []impl.Atom {
	list := ask(inRegister(2, 0, 0), inRegister(-1, 0, 0), inRegister(0, 4, 0), inRegister(0, -1, 0), inCell(2, 0), inCell(-1, 0))
	list = append(list, inRegister(math.MaxInt, math.MinInt, 0), inRegister(math.MinInt, math.MaxInt, 0), inCell(math.MaxInt, 0), inCell(math.MinInt, 0))
	for _, v := range badValues {
		list = append(list, inRegister(0, 0, v), inCell(0, v))
	}
	for _, kind := range badKinds {
		list = append(list, impl.Atom{Kind: kind})
	}
	for _, at := range strayTs {
		list = append(list, impl.Atom{Kind: 1, T: at})
	}
	return list
}

func TestAnswersToInvalidQueries(t *testing.T) {
	p := progOf(t, 2, sb0, sb1)
	for _, plain := range []bool{true, false} {
		for _, a := range badAtoms() {
			if impl.AtomOk(a, p) {
				t.Error("atom accepted", a)
			}
			// The atom counts also beside one that never holds.
			for _, query := range [][]impl.Atom{ask(a), ask(inCell(0, 1), a), ask(a, inCell(0, 1)), ask(inCell(0, 7), a, inCell(0, 7))} {
				checkAnswers(t, p, query, plain, -1, -1)
			}
		}
		for n := range 12 {
			yes, no := slices.Repeat(ask(inCell(0, 1)), n), slices.Repeat(ask(inCell(0, 2)), n)
			switch {
			case n > 8:
				checkAnswers(t, p, yes, plain, -1, -1)
				checkAnswers(t, p, no, plain, -1, -1)
			case n > 0:
				checkAnswers(t, p, yes, plain, 1, 1)
				checkAnswers(t, p, no, plain, 0, 0)
			}
		}
		for _, bad := range badPrograms() {
			for _, query := range [][]impl.Atom{nil, ask(inRegister(0, 0, 0)), ask(inCell(0, 0))} {
				checkAnswers(t, bad, query, plain, -1, -1)
			}
		}
	}
}

func TestAskText(t *testing.T) {
	cases := []struct {
		query []impl.Atom
		want  string
	}{
		{nil, ""},
		{ask(), ""},
		{ask(inRegister(0, 0, 0)), "0:0=0"},
		{ask(inCell(0, 0)), "[0]=0"},
		{ask(inRegister(1, 2, -3)), "1:2=-3"},
		{ask(inCell(15, 10)), "[15]=10"},
		{ask(inRegister(0, 0, 0), inRegister(1, 0, 0), inCell(1, -2)), "0:0=0 & 1:0=0 & [1]=-2"},
		{ask(inCell(1, 1), inCell(1, 1)), "[1]=1 & [1]=1"},
		// The numbers are limited, but need not belong to a program.
		{ask(inRegister(-1, -20, 300)), "-1:-20=300"},
		{ask(inCell(-4, 0)), "[-4]=0"},
		{ask(inRegister(1000000, -1000000, 1000000), inCell(1000000, -1000000)), "1000000:-1000000=1000000 & [1000000]=-1000000"},
		{slices.Repeat(ask(inCell(3, 4)), 8), "[3]=4 & [3]=4 & [3]=4 & [3]=4 & [3]=4 & [3]=4 & [3]=4 & [3]=4"},
	}
	for _, c := range cases {
		if got, ok := impl.AskText(c.query); !ok || got != c.want {
			t.Errorf("text of %v: %q %v", c.query, got, ok)
		}
	}
}

func checkNoAskText(t *testing.T, query []impl.Atom) {
	t.Helper()
	if text, ok := impl.AskText(query); ok || text != "" {
		t.Errorf("text of %v: %q %v", query, text, ok)
	}
}

func TestAskTextRefused(t *testing.T) {
	var bad []impl.Atom
	for _, v := range badValues {
		bad = append(bad, inRegister(v, 0, 0), inRegister(0, v, 0), inRegister(0, 0, v), inCell(v, 0), inCell(0, v))
	}
	for _, kind := range badKinds {
		bad = append(bad, impl.Atom{Kind: kind})
	}
	for _, at := range strayTs {
		bad = append(bad, impl.Atom{Kind: 1, T: at})
	}
	good := inRegister(1, 2, 3)
	for _, a := range bad {
		checkNoAskText(t, ask(a))
		checkNoAskText(t, ask(good, a))
		checkNoAskText(t, ask(a, good))
	}
	checkNoAskText(t, slices.Repeat(ask(good), 9))
	checkNoAskText(t, slices.Repeat(ask(inCell(0, 0)), 100000))
}

func TestParseAskInvertsAskText(t *testing.T) {
	numbers := []int{-1000000, -999999, -10, -1, 0, 1, 9, 10, 123456, 1000000}
	var atoms []impl.Atom
	for _, x := range numbers {
		for _, v := range numbers {
			atoms = append(atoms, inCell(x, v))
			for _, at := range numbers {
				atoms = append(atoms, inRegister(at, x, v))
			}
		}
	}
	for size := range 9 {
		for from := 0; from+size <= len(atoms); from++ {
			query := atoms[from : from+size]
			text, ok := impl.AskText(query)
			got, ok2 := impl.ParseAsk(text)
			if !ok || !ok2 || !slices.Equal(got, query) {
				t.Fatalf("parse %q: %v %v want %v", text, got, ok2, query)
			}
		}
	}
}

const numberPattern = `(0|-?[1-9][0-9]*)`

var atomPattern = regexp.MustCompile(`^(?:` + numberPattern + `:` + numberPattern + `=` + numberPattern + `|\[` + numberPattern + `\]=` + numberPattern + `)$`)

// wantAsk is the query whose text is given, by a pattern.
func wantAsk(text string) ([]impl.Atom, bool) {
	if text == "" {
		return nil, true
	}
	var query []impl.Atom
	for _, one := range strings.Split(text, " & ") {
		words := atomPattern.FindStringSubmatch(one)
		if words == nil {
			return nil, false
		}
		var numbers [6]int
		for i, word := range words[1:] {
			v, err := strconv.Atoi(word)
			if word != "" && (err != nil || v != limited(v)) {
				return nil, false
			}
			numbers[1+i] = v
		}
		if words[1] != "" {
			query = append(query, inRegister(numbers[1], numbers[2], numbers[3]))
		} else {
			query = append(query, inCell(numbers[4], numbers[5]))
		}
	}
	if len(query) > 8 {
		return nil, false
	}
	return query, true
}

func checkParseAsk(t *testing.T, text string) bool {
	t.Helper()
	want, wantOk := wantAsk(text)
	got, ok := impl.ParseAsk(text)
	if ok != wantOk || !slices.Equal(got, want) || !ok && got != nil {
		t.Errorf("parse %.200q: %v %v want %v %v", text, got, ok, want, wantOk)
	}
	if again, _ := impl.AskText(got); ok && again != text {
		t.Errorf("parse %q, but the text is %q", text, again)
	}
	return ok
}

func TestParseAskCases(t *testing.T) {
	good := []string{"", "0:0=0", "[0]=0", "0:0=0 & 1:0=0 & [1]=-2", "-1:-2=-3", "[-1]=-1", "1000000:-1000000=1000000", "[1000000]=-1000000"}
	bad := []string{
		" ", "&", " & ", "0:0=0 & ", " & 0:0=0", "0:0=0 &  & 0:0=0", "0:0=0 &1:0=0", "0:0=0& 1:0=0", "0:0=0&1:0=0", "0:0=0  & 1:0=0", "0:0=0 & & 1:0=0",
		"0:0=0 1:0=0", "0:0=0 && 1:0=0", "0:0=0\t&\t1:0=0", "0:0=0 & x", "x & 0:0=0", "[0]=0 [1]=0",
		" 0:0=0", "0:0=0 ", "0 :0=0", "0: 0=0", "0:0 =0", "0:0= 0", "[ 0]=0", "[0 ]=0", "[0] =0", "[0]= 0", "0:0=0\n", "\n", "[0]=0\x00",
		"x", "#:#=#", "[#]=#", "0", "0:0", "0:0=", "0:=0", ":0=0", "0=0", ":=", "=", ":", "[]=", "[]=0", "[0]=", "[0]", "[0", "0]=0", "[0=0", "[0]0", "[0]:0", "[0]:0=0", "0:[0]=0", "0:0:0", "0=0:0", "0:0==0", "0::0=0", "[[0]]=0", "[0]=[0]", "[0:0]=0",
		"0:0=0=0", "0:0:0=0", "[0]=0=0", "[0][0]=0", "r0:0=0", "0:r0=0", "(0)=0", "{0}=0", "T:X=V", "[X]=V",
		"00:0=0", "0:00=0", "0:0=00", "01:0=0", "+1:0=0", "0:+1=0", "0:0=+1", "-0:0=0", "0:-0=0", "0:0=-0", "[-0]=0", "[0]=-0", "[00]=0", "[+1]=0", "[0]=01", "[0]=-01",
		"-:0=0", "0:-=0", "0:0=-", "[-]=0", "[0]=-", "--1:0=0", "1-:0=0", "0:0=1-1", "0:0=1.0", "0:0=1e3", "0:0=1_0", "0:0=0x1", "0:0=a", "0:0=\u0661", "\u0660:0=0", "0:0=0\u00a0", "[0]\uff1d0", "0:0=\xff", "\xff",
		"1000001:0=0", "0:1000001=0", "0:0=1000001", "-1000001:0=0", "0:-1000001=0", "0:0=-1000001", "[1000001]=0", "[0]=1000001", "[-1000001]=0", "[0]=-1000001",
		"0:0=9223372036854775807", "0:0=9223372036854775808", "0:0=-9223372036854775808", "0:0=18446744073709551616", "[18446744073709551617]=0",
		strings.Repeat("0:0=0 & ", 8) + "0:0=0", strings.Repeat("[0]=0 & ", 7) + "[0]=0 & ", strings.Repeat("[0]=0 & ", 7),
		strings.Repeat("0:0=0 & ", 100000) + "0:0=0", strings.Repeat(" & ", 100000), "0:0=" + strings.Repeat("0", 1000000), "[" + strings.Repeat("1", 1000000) + "]=0", strings.Repeat("[", 1000000), strings.Repeat("-", 1000000),
	}
	for _, text := range append(good, strings.Repeat("0:0=0 & ", 7)+"0:0=0", strings.Repeat("[0]=0 & ", 7)+"[0]=0") {
		if !checkParseAsk(t, text) {
			t.Errorf("refused %q", text)
		}
	}
	for _, text := range bad {
		if checkParseAsk(t, text) {
			t.Errorf("accepted %.200q", text)
		}
	}
}

// All short texts of a small alphabet.
func TestParseAskOfShortTexts(t *testing.T) {
	texts := []string{""}
	accepted := 0
	for range 6 {
		texts = lengthened(texts, "01-:=[]")
		for _, text := range texts {
			if checkParseAsk(t, text) {
				accepted++
			}
		}
	}
	if accepted == 0 {
		t.Error("nothing accepted")
	}
}

// All texts that differ from that of a query in one character.
func TestParseAskOfChangedTexts(t *testing.T) {
	marks := []string{"", "0", "1", "9", "-", "+", ":", "=", "[", "]", "&", " ", " & ", "#", "x", "\t", "\n", "\x00", "\x80", "\u0661", "é"}
	for _, text := range []string{"0:0=0", "[0]=0", "10:-2=1000000", "[-100000]=-1000000", "0:0=0 & [1]=-2", "[1]=-2 & 1:2=3 & [0]=0", strings.Repeat("1:2=3 & ", 7) + "[1]=2"} {
		for at := range len(text) + 1 {
			for _, mark := range marks {
				checkParseAsk(t, text[:at]+mark+text[at:])
				if at < len(text) {
					checkParseAsk(t, text[:at]+mark+text[at+1:])
				}
			}
		}
	}
}

// What the table of chapter 6 says of each litmus test: the threads without the instruction that they begin with, and on which machines the query can hold.
type litmusRow struct {
	name            string
	threads         [][]impl.Instr
	query           []impl.Atom
	buffered, plain int
}

func litmusRows() []litmusRow {
	const x, y = 0, 1
	storeTo := func(a int) impl.Instr { return store(1, a) }
	load := func(a int, r int) impl.Instr { return ins(2, r, 0, a) }
	swap := func(a int) impl.Instr { return ins(7, 0, 1, a) }
	threads := func(list ...[]impl.Instr) [][]impl.Instr { return list }
	sb := ask(inRegister(0, 0, 0), inRegister(1, 0, 0))
	return []litmusRow{
		{"SB", threads(code(storeTo(x), load(y, 0)), code(storeTo(y), load(x, 0))), sb, 1, 0},
		{"SBF", threads(code(storeTo(x), fence, load(y, 0)), code(storeTo(y), fence, load(x, 0))), sb, 0, 0},
		{"MP", threads(code(storeTo(x), storeTo(y)), code(load(y, 0), load(x, 1))), ask(inRegister(1, 0, 1), inRegister(1, 1, 0)), 0, 0},
		{"LB", threads(code(load(x, 0), storeTo(y)), code(load(y, 0), storeTo(x))), ask(inRegister(0, 0, 1), inRegister(1, 0, 1)), 0, 0},
		{"CO", threads(code(storeTo(x)), code(load(x, 0), load(x, 2))), ask(inRegister(1, 0, 1), inRegister(1, 2, 0)), 0, 0},
		{"RW", threads(code(storeTo(x), load(x, 0), load(y, 2)), code(storeTo(y), load(y, 0), load(x, 2))),
			ask(inRegister(0, 0, 1), inRegister(0, 2, 0), inRegister(1, 0, 1), inRegister(1, 2, 0)), 1, 0},
		{"WC", threads(code(storeTo(x)), code(load(x, 0), storeTo(y)), code(load(y, 0), load(x, 2))),
			ask(inRegister(1, 0, 1), inRegister(2, 0, 1), inRegister(2, 2, 0)), 0, 0},
		{"SW", threads(code(swap(x), load(y, 2)), code(swap(y), load(x, 2))), ask(inRegister(0, 2, 0), inRegister(1, 2, 0)), 0, 0},
	}
}

func (row litmusRow) prog() impl.Prog {
	p := impl.Prog{Cells: 2}
	for _, list := range row.threads {
		if slices.ContainsFunc(list, func(in impl.Instr) bool { return in.Op == 3 || in.Op == 7 }) {
			list = append(code(ins(0, 1, 0, 1)), list...)
		}
		p.Codes = append(p.Codes, list)
	}
	return p
}

func TestKnown(t *testing.T) {
	for _, row := range litmusRows() {
		p, query, ok := impl.Known(row.name)
		if !ok || fmt.Sprint(p) != fmt.Sprint(row.prog()) || !slices.Equal(query, row.query) {
			t.Error("known", row.name, p, query, ok)
		}
		if !impl.ProgOk(p) || slices.ContainsFunc(query, func(a impl.Atom) bool { return !impl.AtomOk(a, p) }) {
			t.Error("invalid", row.name, p, query)
		}
	}
}

// The second part of promise 6. All of these programs are within the state limit.
func TestKnownQueries(t *testing.T) {
	for _, row := range litmusRows() {
		p, query, _ := impl.Known(row.name)
		if impl.CountStates(p, true) < 0 || impl.CountStates(p, false) < 0 {
			t.Error("too many states", row.name)
		}
		checkAnswers(t, p, query, false, row.buffered, 0)
		checkAnswers(t, p, query, true, row.plain, 0)
		checkAgreement(t, p, false)
		checkAgreement(t, p, true)
		if needs := row.buffered == 1; impl.Robust(p) == needs {
			t.Error("robust", row.name)
		}
		checkFenced(t, p)
	}
}

// The guarantee is about waiting stores: the tests that hold need both of them to wait.
func TestKnownQueriesWithOneFence(t *testing.T) {
	for _, name := range []string{"SB", "RW"} {
		p, query, _ := impl.Known(name)
		first, _ := impl.WithFences(p.Codes[0])
		second, _ := impl.WithFences(p.Codes[1])
		checkAnswers(t, prog(2, first, p.Codes[1]), query, false, 1, 0)
		checkAnswers(t, prog(2, p.Codes[0], second), query, false, 1, 0)
		checkAnswers(t, prog(2, first, second), query, false, 0, 0)
	}
}

func TestUnknownNames(t *testing.T) {
	names := []string{"", " ", "S", "B", "sb", "Sb", "sB", "SB ", " SB", "SB\n", "SB\x00", "SBf", "SBFF", "SBSB", "FSB", "mp", "MPF", "BS", "0", "\xff", "SBF,SB", strings.Repeat("SB", 100000)}
	known := map[string]bool{}
	for _, row := range litmusRows() {
		known[row.name] = true
	}
	for a := 'A'; a <= 'Z'; a++ {
		for b := 'A'; b <= 'Z'; b++ {
			for _, name := range []string{string(a), string(a) + string(b), string(a) + string(b) + "F"} {
				if !known[name] {
					names = append(names, name)
				}
			}
		}
	}
	for _, name := range names {
		p, query, ok := impl.Known(name)
		if ok || p.Cells != 0 || p.Codes != nil || query != nil {
			t.Errorf("known %.100q: %v %v %v", name, p, query, ok)
		}
	}
}

func TestAskSharesNoMemory(t *testing.T) {
	for _, row := range litmusRows() {
		p, query, _ := impl.Known(row.name)
		for _, list := range p.Codes {
			clear(list)
			_ = append(list, fence)
		}
		clear(query)
		p.Codes[0] = nil
		again, queryAgain, ok := impl.Known(row.name)
		if !ok || fmt.Sprint(again) != fmt.Sprint(row.prog()) || !slices.Equal(queryAgain, row.query) {
			t.Error("another result", row.name, again, queryAgain)
		}
	}
	query, _ := impl.ParseAsk("0:1=2 & [3]=4")
	clear(query)
	if again, ok := impl.ParseAsk("0:1=2 & [3]=4"); !ok || !slices.Equal(again, ask(inRegister(0, 1, 2), inCell(3, 4))) {
		t.Error("another query", again)
	}
}

func TestAskFunctionsKeepArguments(t *testing.T) {
	p := progOf(t, 2, sb0, sb1)
	m := askedMachine()
	query := ask(inCell(1, 1), inRegister(1, 0, 0), impl.Atom{Kind: 1, T: 1, V: 5})
	first, firstProg, firstMachine := slices.Clone(query), fmt.Sprint(p), copied(m)
	for n := range len(query) + 1 {
		impl.Holds(m, query[:n])
		impl.CanEnd(p, query[:n], true)
		impl.MustEnd(p, query[:n], false)
		impl.AskText(query[:n])
	}
	impl.AtomOk(query[0], p)
	if !slices.Equal(query, first) || fmt.Sprint(p) != firstProg || !sameMachine(m, firstMachine) {
		t.Error("arguments changed", query, p, m)
	}
}
