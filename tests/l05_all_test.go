package tests

import (
	"fmt"
	"slices"
	"strings"
	"testing"

	"loop.example/g00712/impl"
)

type edge struct {
	by impl.Move
	to int
}

// A graph has the states of a program on one of the machines, found by the tables of the document alone. If there are too many, the search ends there.
type graph struct {
	prog    impl.Prog
	plain   bool
	states  []impl.Machine
	edges   [][]edge // of each state, in ascending order of moves
	tooMany bool
}

func wantEdges(p impl.Prog, m impl.Machine, plain bool) ([]impl.Move, []impl.Machine) {
	var moves []impl.Move
	var after []impl.Machine
	for t, th := range m.Threads {
		switch {
		case !plain:
			for _, mv := range []impl.Move{execute(t), drain(t)} {
				if wantCan(p, m, mv) {
					moves, after = append(moves, mv), append(after, wantMoved(p, m, mv))
				}
			}
		case th.Pc < len(p.Codes[t]):
			moves, after = append(moves, execute(t)), append(after, wantPlain(p, m, t))
		}
	}
	return moves, after
}

func graphOf(p impl.Prog, plain bool) graph {
	start := machine(filled(p.Cells, 0))
	for range p.Codes {
		start.Threads = append(start.Threads, idle(0))
	}
	g := graph{prog: p, plain: plain, states: []impl.Machine{start}}
	index := map[string]int{fmt.Sprint(start): 0}
	for at := 0; at < len(g.states); at++ {
		moves, after := wantEdges(p, g.states[at], plain)
		var edges []edge
		for i, m := range after {
			key := fmt.Sprint(m)
			to, known := index[key]
			if !known {
				to = len(g.states)
				index[key] = to
				g.states = append(g.states, m)
			}
			edges = append(edges, edge{moves[i], to})
		}
		g.edges = append(g.edges, edges)
		if len(g.states) > 1500 {
			g.tooMany = true
			break
		}
	}
	return g
}

func wantOutcome(m impl.Machine) string {
	text := ""
	for _, th := range m.Threads {
		text += strings.Trim(fmt.Sprint(th.Vals), "[]") + " | "
	}
	return text + strings.Trim(fmt.Sprint(m.Mem.Cells), "[]")
}

func (g graph) final(at int) bool {
	for t, th := range g.states[at].Threads {
		if th.Pc != len(g.prog.Codes[t]) || len(th.Buf) != 0 {
			return false
		}
	}
	return true
}

// outcomes returns the outcome of each final state, in the order in which they are found.
func (g graph) outcomes() []string {
	var list []string
	for at, m := range g.states {
		if g.final(at) {
			list = append(list, wantOutcome(m))
		}
	}
	return list
}

// distances returns, for each state, the number of moves to the nearest final state with the outcome, or -1.
func (g graph) distances(outcome string) []int {
	back := make([][]int, len(g.states))
	for from, edges := range g.edges {
		for _, e := range edges {
			back[e.to] = append(back[e.to], from)
		}
	}
	far := slices.Repeat([]int{-1}, len(g.states))
	var list []int
	for at, m := range g.states {
		if g.final(at) && wantOutcome(m) == outcome {
			far[at] = 0
			list = append(list, at)
		}
	}
	for i := 0; i < len(list); i++ {
		for _, from := range back[list[i]] {
			if far[from] < 0 {
				far[from] = far[list[i]] + 1
				list = append(list, from)
			}
		}
	}
	return far
}

// witness always takes the smallest of the moves after which the end is nearest.
func (g graph) witness(outcome string) ([]impl.Move, bool) {
	far := g.distances(outcome)
	if far[0] < 0 {
		return nil, false
	}
	var moves []impl.Move
	for at := 0; far[at] > 0; {
		i := slices.IndexFunc(g.edges[at], func(e edge) bool { return far[e.to] == far[at]-1 })
		moves = append(moves, g.edges[at][i].by)
		at = g.edges[at][i].to
	}
	return moves, true
}

func checkTooMany(t *testing.T, p impl.Prog, plain bool) {
	t.Helper()
	if impl.CountStates(p, plain) != -1 || impl.EndsOf(p, plain) != -1 || impl.Robust(p) {
		t.Error("too many states or an invalid program", p, plain, impl.CountStates(p, plain), impl.EndsOf(p, plain), impl.Robust(p))
	}
	if list, ok := impl.Outcomes(p, plain); ok || list != nil {
		t.Error("outcomes of too many states or of an invalid program", p, plain, list, ok)
	}
	if !plain && impl.Stuck(p) != -1 {
		t.Error("stuck among too many states or in an invalid program", p, impl.Stuck(p))
	}
}

func checkNoWitness(t *testing.T, p impl.Prog, outcome string) {
	t.Helper()
	if moves, ok := impl.Witness(p, outcome); ok || moves != nil {
		t.Errorf("witness of %q: %v %v %v", outcome, p, moves, ok)
	}
}

// checkMachine compares what concerns one of the machines, and returns its outcomes.
func checkMachine(t *testing.T, g graph) []string {
	t.Helper()
	if g.tooMany {
		checkTooMany(t, g.prog, g.plain)
		return nil
	}
	want := g.outcomes()
	if n := impl.CountStates(g.prog, g.plain); n != len(g.states) {
		t.Error("states", g.prog, g.plain, n, "want", len(g.states))
	}
	if n := impl.EndsOf(g.prog, g.plain); n != len(want) {
		t.Error("ends", g.prog, g.plain, n, "want", len(want))
	}
	slices.Sort(want)
	want = slices.Compact(want)
	got, ok := impl.Outcomes(g.prog, g.plain)
	if !ok || !slices.Equal(got, want) {
		t.Errorf("outcomes %v %v: %q %v want %q", g.prog, g.plain, got, ok, want)
	}
	return want
}

func checkWitness(t *testing.T, g graph, outcome string) {
	t.Helper()
	want, _ := g.witness(outcome)
	moves, ok := impl.Witness(g.prog, outcome)
	if !ok || !slices.Equal(moves, want) {
		t.Errorf("witness of %q: %v %v %v want %v", outcome, g.prog, moves, ok, want)
	}
	m := started(t, g.prog)
	for _, mv := range moves {
		next, ok := impl.DoMove(g.prog, m, mv)
		if !ok {
			t.Fatal("a move of a witness is not possible", g.prog, moves, mv)
		}
		m = next
	}
	if !impl.AtEnd(g.prog, m) || impl.OutcomeOf(m) != outcome {
		t.Errorf("the witness of %q leads to %q", outcome, impl.OutcomeOf(m))
	}
}

// checkExplored holds everything that chapter 5 says of a valid program against the graphs, and promise 5 for it.
func checkExplored(t *testing.T, p impl.Prog) {
	t.Helper()
	first := fmt.Sprint(p)
	g := graphOf(p, false)
	plain, buffered := checkMachine(t, graphOf(p, true)), checkMachine(t, g)
	if g.tooMany {
		for _, outcome := range plain {
			checkNoWitness(t, p, outcome)
		}
		return
	}
	if got := impl.Robust(p); got != slices.Equal(plain, buffered) {
		t.Error("robust", p, got)
	}
	if got := impl.Stuck(p); got != 0 {
		t.Error("stuck", p, got)
	}
	for _, outcome := range buffered {
		checkWitness(t, g, outcome)
	}
	for _, outcome := range plain {
		if got, _ := impl.Outcomes(p, false); !slices.Contains(got, outcome) {
			t.Errorf("%q is an outcome of the plain machine only: %v", outcome, p)
		}
	}
	if fmt.Sprint(p) != first {
		t.Error("program changed", first, p)
	}
}

// A counter alone has 3n+2 states on either machine, all in a row.
func counter(n int, rest string) string {
	return fmt.Sprintf("set 0 %d; set 1 1; sub 0 1; jz 0 5; jz 2 2%s", n, rest)
}

const (
	sb0 = "set 1 1; store 1 0; load 0 1"
	sb1 = "set 1 1; store 1 1; load 0 0"
)

func exploredPrograms(t *testing.T) []impl.Prog {
	list := []impl.Prog{
		progOf(t, 2, "set 1 1; store 1 0; store 1 1", "load 0 1; load 2 0"),
		progOf(t, 2, "load 0 0; set 1 1; store 1 1", "load 0 1; set 1 1; store 1 0"),
		progOf(t, 2, "set 1 1; store 1 0; load 0 0; load 2 1", "set 1 1; store 1 1; load 0 1; load 2 0"),
		progOf(t, 1, "set 0 1; store 0 0; set 0 2; store 0 0", "load 0 0; load 1 0", "load 0 0; load 1 0"),
		progOf(t, 1, "store 0 0; store 0 0; store 0 0; store 0 0; store 0 0"),
		progOf(t, 3, "set 0 7; store 0 2; set 1 1; store 1 0", "load 0 0; jz 0 0; load 1 2"),
		progOf(t, 2, sb0+"; jz 0 0", sb1+"; jz 0 0"),
		progOf(t, 2, "store 0 1; jz 0 0", "load 0 1; jz 0 0"),
		progOf(t, 1, counter(20, ""), "set 1 1; store 1 0"),
		progOf(t, 1, counter(20, "; store 1 0"), "load 0 0; jz 0 0"),
		progOf(t, 1, "set 1 1; add 0 1; store 0 0; jz 2 1"),
		progOf(t, 1, "set 0 10; store 0 0", "set 0 1; store 0 0; set 0 -1; store 0 0", "load 0 0; load 1 0"),
	}
	return append(list, samplePrograms(t)...)
}

func TestExploredPrograms(t *testing.T) {
	for _, p := range exploredPrograms(t) {
		checkExplored(t, p)
	}
}

// Promise 5 and the guarantee about fences, on all pairs of short codes, loops among them.
func TestAllSmallPrograms(t *testing.T) {
	choice := code(store(1, 0), store(1, 1), ins(2, 0, 0, 0), ins(2, 2, 0, 1), fence, ins(7, 0, 1, 0), jump(0))
	var codes [][]impl.Instr
	for _, rest := range codesOf(choice, 2) {
		codes = append(codes, append(code(ins(0, 1, 0, 1)), rest...))
	}
	weak := 0
	for i, first := range codes {
		for _, second := range codes[i:] {
			p := prog(2, first, second)
			checkExplored(t, p)
			checkFenced(t, p)
			if !impl.Robust(p) {
				weak++
			}
		}
	}
	if weak == 0 {
		t.Error("all programs are robust without fences")
	}
}

// fencedProg has a fence after every store, if there is room for them.
func fencedProg(p impl.Prog) (impl.Prog, bool) {
	fenced := impl.Prog{Cells: p.Cells}
	for _, list := range p.Codes {
		longer, ok := impl.WithFences(list)
		if !ok {
			return impl.Prog{}, false
		}
		fenced.Codes = append(fenced.Codes, longer)
	}
	return fenced, true
}

func checkFenced(t *testing.T, p impl.Prog) {
	t.Helper()
	fenced, ok := fencedProg(p)
	if !ok {
		t.Fatal("no fences", p)
	}
	if impl.CountStates(fenced, false) < 0 {
		t.Error("too many states to tell", fenced)
	}
	if !impl.Robust(fenced) {
		t.Error("not robust with a fence after every store", fenced)
	}
}

func TestFencedProgramsAreRobust(t *testing.T) {
	twice := "set 1 2; set 2 1; store 1 0; sub 1 2; jz 1 6; jz 3 2; load 0 1"
	texts := [][]string{
		{sb0, sb1},
		{sb0 + "; jz 0 5; store 1 0", sb1 + "; jz 3 5; fence"},
		{twice, sb1},
		{"set 1 1; store 1 0; load 0 0; load 2 1", "set 1 1; store 1 1; load 0 1; load 2 0"},
		{"store 1 0; set 1 1; store 1 0; load 0 1", "store 1 1; set 1 1; store 1 1; load 0 0"},
		{"set 1 1; store 1 0; load 0 1; store 1 2", "set 1 1; store 1 1; load 0 0; store 0 2"},
		{sb0, sb1, "load 0 0"},
	}
	for _, list := range texts {
		p := progOf(t, 3, list...)
		if impl.CountStates(p, false) < 0 || impl.Robust(p) {
			t.Error("robust without fences", list)
		}
		checkFenced(t, p)
	}
	if !impl.Robust(progOf(t, 2, "set 1 1; store 1 0; fence; load 0 1", "set 1 1; store 1 1; fence; load 0 0")) {
		t.Error("not robust with fences")
	}
	// One fence is not enough: the store of the other thread still waits.
	if impl.Robust(progOf(t, 2, "set 1 1; store 1 0; fence; load 0 1", sb1)) {
		t.Error("robust with one fence")
	}
}

func TestRobust(t *testing.T) {
	cases := []struct {
		want  bool
		texts []string
	}{
		{true, []string{""}},
		{true, []string{"store 0 0"}},
		{true, []string{"jz 0 0"}}, // neither machine has an outcome
		{true, []string{sb0}},
		{true, []string{"set 1 1; store 1 0; store 1 1", "load 0 1; load 2 0"}},
		{true, []string{"set 1 1; swap 0 1 0; load 2 1", "set 1 1; swap 0 1 1; load 2 0"}},
		{false, []string{sb0, sb1}},
		{false, []string{"", sb1, sb0}},
		{true, []string{counter(499, "; fence")}},                   // exactly MaxStates on both machines
		{true, []string{counter(498, "; fence; fence; store 1 0")}}, // exactly MaxStates on the buffered machine
		{false, []string{counter(499, "; store 1 0")}},              // and one more, although the outcomes are the same
		{false, []string{counter(500, "")}},
		{false, []string{counter(499, "; store 1 0"), "jz 0 0"}}, // also where neither machine reaches an end
	}
	for _, c := range cases {
		if got := impl.Robust(progOf(t, 2, c.texts...)); got != c.want {
			t.Error("robust", c.texts, got)
		}
	}
}

func TestStatesLimit(t *testing.T) {
	if impl.MaxStates != 1500 {
		t.Error("limit", impl.MaxStates)
	}
}

func fences(n int) string { return strings.TrimSuffix(strings.Repeat("fence; ", n), "; ") }

func TestCountStates(t *testing.T) {
	const grows = "set 1 1; add 0 1; jz 2 1"
	cases := []struct {
		plain, buffered int
		texts           []string
	}{
		{1, 1, []string{""}},
		{1, 1, []string{"", "", ""}},
		{17, 17, []string{fences(16)}},
		{24, 24, []string{fences(1), fences(2), fences(3)}},
		{2, 2, []string{"set 0 0"}}, // the same values, but another Pc
		{2, 3, []string{"store 0 0"}},
		{3, 4, []string{"store 0 0; fence"}},
		{3, 6, []string{"store 0 0; store 0 0"}},
		{5, 14, []string{"store 0 0; store 0 0; store 0 0; store 0 0"}}, // three of them fill the buffer
		{4, 9, []string{"store 0 0", "store 0 0"}},
		// loops
		{1, 1, []string{"jz 0 0"}}, // leads to where it starts
		{2, 2, []string{"jz 0 1"}},
		{3, 3, []string{"set 0 1; jz 1 0"}}, // the second round differs from the first, and the third does not
		{2, 8, []string{"store 0 0; jz 0 0"}},
		{2, 3, []string{"jz 0 0", "store 0 0"}},
		{62, 62, []string{counter(20, "")}},
		{124, 186, []string{counter(20, ""), "store 0 0"}},
		// the limit
		{1500, 1500, []string{fences(9), fences(9), fences(14)}},
		{-1, -1, []string{fences(9), fences(9), fences(15)}},
		{-1, -1, []string{fences(16), fences(16), fences(16)}},
		{1499, 1499, []string{counter(499, "")}},
		{1500, 1500, []string{counter(499, "; fence")}},
		{-1, -1, []string{counter(499, "; fence; fence")}},
		{1499, 1500, []string{counter(498, "; fence; fence; store 1 0")}},
		{1500, -1, []string{counter(499, "; store 1 0")}},
		{-1, -1, []string{counter(499, "; fence; store 1 0")}},
		{-1, -1, []string{counter(1000, "; fence")}},
		{-1, -1, []string{grows}},
		{-1, -1, []string{"jz 0 0", "store 0 0; jz 0 0", grows}},
	}
	for _, c := range cases {
		p := progOf(t, 1, c.texts...)
		plain, buffered := impl.CountStates(p, true), impl.CountStates(p, false)
		if plain != c.plain || buffered != c.buffered {
			t.Error("states", c.texts, plain, buffered, "want", c.plain, c.buffered)
		}
		checkExplored(t, p)
	}
}

func TestOutcomesCases(t *testing.T) {
	cases := []struct {
		texts           []string
		plain, buffered []string
	}{
		{[]string{""}, []string{"0 0 0 0 | 0 0"}, []string{"0 0 0 0 | 0 0"}},
		{[]string{"", "set 3 -7", ""}, []string{"0 0 0 0 | 0 0 0 -7 | 0 0 0 0 | 0 0"}, []string{"0 0 0 0 | 0 0 0 -7 | 0 0 0 0 | 0 0"}},
		{[]string{"jz 0 0"}, nil, nil},
		{[]string{"set 0 1", "jz 0 0"}, nil, nil}, // one thread at its end is not enough
		{
			[]string{sb0, sb1},
			[]string{"0 1 0 0 | 1 1 0 0 | 1 1", "1 1 0 0 | 0 1 0 0 | 1 1", "1 1 0 0 | 1 1 0 0 | 1 1"},
			[]string{"0 1 0 0 | 0 1 0 0 | 1 1", "0 1 0 0 | 1 1 0 0 | 1 1", "1 1 0 0 | 0 1 0 0 | 1 1", "1 1 0 0 | 1 1 0 0 | 1 1"},
		},
		{ // only the loop that has seen the store ends
			[]string{"load 0 1; jz 0 0", "set 1 5; store 1 1"},
			[]string{"5 0 0 0 | 0 5 0 0 | 0 5"},
			[]string{"5 0 0 0 | 0 5 0 0 | 0 5"},
		},
	}
	for _, c := range cases {
		p := progOf(t, 2, c.texts...)
		plain, okPlain := impl.Outcomes(p, true)
		buffered, okBuffered := impl.Outcomes(p, false)
		if !okPlain || !okBuffered || !slices.Equal(plain, c.plain) || !slices.Equal(buffered, c.buffered) {
			t.Errorf("outcomes of %q: %q %q", c.texts, plain, buffered)
		}
		if impl.EndsOf(p, true) != len(c.plain) || impl.EndsOf(p, false) != len(c.buffered) {
			t.Error("ends", c.texts, impl.EndsOf(p, true), impl.EndsOf(p, false))
		}
	}
}

// Outcomes are strings: 10 stands before 9, - before the digits, and a proper prefix before the longer one.
func TestOrderOfOutcomes(t *testing.T) {
	p := progOf(t, 1, "set 0 9; store 0 0; set 0 10; store 0 0; set 0 -5; store 0 0", "load 0 0")
	want := []string{"-5 0 0 0 | -5 0 0 0 | -5", "-5 0 0 0 | 0 0 0 0 | -5", "-5 0 0 0 | 10 0 0 0 | -5", "-5 0 0 0 | 9 0 0 0 | -5"}
	prefix := progOf(t, 1, "set 0 10; store 0 0; set 0 0", "set 0 1; store 0 0; set 0 0", "set 0 2; store 0 0; set 0 0")
	wantPrefix := []string{"0 0 0 0 | 0 0 0 0 | 0 0 0 0 | 1", "0 0 0 0 | 0 0 0 0 | 0 0 0 0 | 10", "0 0 0 0 | 0 0 0 0 | 0 0 0 0 | 2"}
	for _, plain := range []bool{true, false} {
		if got, ok := impl.Outcomes(p, plain); !ok || !slices.Equal(got, want) {
			t.Errorf("order: %q %v", got, ok)
		}
		if got, ok := impl.Outcomes(prefix, plain); !ok || !slices.Equal(got, wantPrefix) {
			t.Errorf("order of a prefix: %q %v", got, ok)
		}
	}
}

func TestOutcomeOf(t *testing.T) {
	cases := []struct {
		m    impl.Machine
		want string
	}{
		{machine(mem(0), idle(0)), "0 0 0 0 | 0"},
		{machine(mem(5, -6), thread(2, vals(1, -2, 30, impl.MaxValue)), idle(7)), "1 -2 30 1000000 | 0 0 0 0 | 5 -6"},
		// What waits does not show, nor does Pc.
		{machine(mem(4), thread(1, vals(1, 2, 3, 4), slot(0, 9)), thread(-1, vals(5, 6, 7, 8), slot(15, 1), slot(0, 2), slot(0, 3))), "1 2 3 4 | 5 6 7 8 | 4"},
		// It is that of any machine that has a text.
		{machine(mem(4)), "4"},
		{machine(mem(4), thread(0, nil), thread(0, vals(7)), thread(0, vals(5000000, -1))), " | 7 | 5000000 -1 | 4"},
	}
	for _, c := range cases {
		before := copied(c.m)
		if got := impl.OutcomeOf(c.m); got != c.want {
			t.Errorf("outcome of %v: %q", c.m, got)
		}
		if !sameMachine(c.m, before) {
			t.Error("machine changed", before, c.m)
		}
	}
	for _, m := range machinesWithoutText() {
		if got := impl.OutcomeOf(m); got != "" {
			t.Errorf("outcome of an invalid machine %v: %q", m, got)
		}
	}
}

func TestWitnessCases(t *testing.T) {
	e0, d0, e1, d1 := execute(0), drain(0), execute(1), drain(1)
	cases := []struct {
		texts   []string
		outcome string
		want    []impl.Move
	}{
		{[]string{""}, "0 0 0 0 | 0 0", nil},
		{[]string{"set 2 3", ""}, "0 0 3 0 | 0 0 0 0 | 0 0", []impl.Move{e0}},
		{[]string{"", "set 2 3"}, "0 0 0 0 | 0 0 3 0 | 0 0", []impl.Move{e1}},
		// Both stores wait while both threads load; then thread 0 is the first to drain.
		{[]string{sb0, sb1}, "0 1 0 0 | 0 1 0 0 | 1 1", []impl.Move{e0, e0, e0, e1, e1, e1, d0, d1}},
		// All moves of thread 0 come first that the outcome allows.
		{[]string{sb0, sb1}, "0 1 0 0 | 1 1 0 0 | 1 1", []impl.Move{e0, e0, e0, d0, e1, e1, e1, d1}},
		{[]string{sb0, sb1}, "1 1 0 0 | 0 1 0 0 | 1 1", []impl.Move{e0, e0, e1, e1, e1, d0, d1, e0}},
		{[]string{sb0, sb1}, "1 1 0 0 | 1 1 0 0 | 1 1", []impl.Move{e0, e0, d0, e1, e1, e1, d1, e0}},
		// Execution precedes a drain where the order does not matter, and a full buffer forces one.
		{[]string{"store 0 0; set 1 1"}, "0 1 0 0 | 0 0", []impl.Move{e0, e0, d0}},
		{[]string{"store 0 0; store 0 0; store 0 0; store 0 0"}, "0 0 0 0 | 0 0", []impl.Move{e0, e0, e0, d0, e0, d0, d0, d0}},
		// No round of the loop is longer than needed.
		{[]string{"load 0 0; jz 0 0", "set 1 5; store 1 0"}, "5 0 0 0 | 0 5 0 0 | 5 0", []impl.Move{e1, e1, d1, e0, e0}},
	}
	for _, c := range cases {
		got, ok := impl.Witness(progOf(t, 2, c.texts...), c.outcome)
		if !ok || !slices.Equal(got, c.want) {
			t.Errorf("witness of %q in %q: %v %v", c.outcome, c.texts, got, ok)
		}
	}
}

func TestWitnessOfWhatIsNotReached(t *testing.T) {
	sb := progOf(t, 2, sb0, sb1)
	outcomes := []string{
		"", " ", "x", "0 1 0 0 | 0 1 0 0 | 1 1 ", " 0 1 0 0 | 0 1 0 0 | 1 1", "0 1 0 0 | 0 1 0 0 | 1", "0 1 0 0 | 0 1 0 0 | 1 1\n",
		"0 1 0 0 | 0 1 0 0 | 0 0", // of a state that is not final
		"0 0 0 0 | 0 0 0 0 | 0 0", // of the start
		"2 1 0 0 | 0 1 0 0 | 1 1",
		"t3 0 1 0 0 - | t3 0 1 0 0 - | 1 1", // a MachineText
		"0 1 0 0 | 0 1 0 0 | 01 1",
	}
	for _, outcome := range outcomes {
		checkNoWitness(t, sb, outcome)
	}
	// This outcome is one of the buffered machine only, and fences exclude it.
	checkNoWitness(t, progOf(t, 2, "set 1 1; store 1 0; fence; load 0 1", "set 1 1; store 1 1; fence; load 0 0"), "0 1 0 0 | 0 1 0 0 | 1 1")
	checkNoWitness(t, progOf(t, 1, "jz 0 0"), "0 0 0 0 | 0")
	// Without a look at the other states, this end would soon be found; but there are too many of them.
	checkNoWitness(t, progOf(t, 1, "load 0 0; jz 0 5; set 1 1; add 2 1; jz 3 3", "set 1 1; store 1 0"), "0 0 0 0 | 0 1 0 0 | 1")
	checkNoWitness(t, progOf(t, 1, counter(499, "; store 1 0")), "0 1 0 0 | 1")
}

// A witness may be longer than what RunMoves takes.
func TestLongWitness(t *testing.T) {
	p := progOf(t, 1, counter(498, "; fence; fence; store 1 0"))
	moves, ok := impl.Witness(p, "0 1 0 0 | 1")
	if !ok || len(moves) != 1499 || !slices.Equal(moves[:1498], slices.Repeat([]impl.Move{execute(0)}, 1498)) || moves[1498] != drain(0) {
		t.Error("witness", len(moves), ok)
	}
}

func TestExploringInvalidPrograms(t *testing.T) {
	for _, p := range badPrograms() {
		first := fmt.Sprint(p)
		for _, plain := range []bool{true, false} {
			checkTooMany(t, p, plain)
		}
		for _, outcome := range []string{"", "0", "0 0 0 0 | 0", "0 0 0 0 | 0 0 0 0 | 0"} {
			checkNoWitness(t, p, outcome)
		}
		if fmt.Sprint(p) != first {
			t.Error("program changed", first, p)
		}
	}
}

// Nothing is kept between calls: what is done to a result does not show in the next one.
func TestExploringSharesNoMemory(t *testing.T) {
	p := progOf(t, 2, sb0, sb1)
	outcomes, _ := impl.Outcomes(p, false)
	moves, _ := impl.Witness(p, outcomes[1])
	wantOutcomes, wantMoves := slices.Clone(outcomes), slices.Clone(moves)
	clear(outcomes)
	clear(moves)
	impl.Outcomes(progOf(t, 1, counter(499, "; store 1 0")), false)
	again, _ := impl.Outcomes(p, false)
	movesAgain, _ := impl.Witness(p, wantOutcomes[1])
	if !slices.Equal(again, wantOutcomes) || !slices.Equal(movesAgain, wantMoves) {
		t.Error("another result", again, movesAgain)
	}
}
