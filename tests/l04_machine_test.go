package tests

import (
	"math"
	"slices"
	"strings"
	"testing"

	"loop.example/g00712/impl"
)

func vals(list ...int) []int { return list }

func thread(pc int, values []int, slots ...impl.Slot) impl.Thread {
	return impl.Thread{Pc: pc, Vals: values, Buf: slots}
}

func idle(pc int) impl.Thread { return thread(pc, vals(0, 0, 0, 0)) }

func machine(m impl.Mem, threads ...impl.Thread) impl.Machine {
	return impl.Machine{Mem: m, Threads: threads}
}

func execute(t int) impl.Move { return impl.Move{T: t} }

func drain(t int) impl.Move { return impl.Move{T: t, Drain: true} }

func progOf(t *testing.T, cells int, texts ...string) impl.Prog {
	t.Helper()
	p := impl.Prog{Cells: cells}
	for _, text := range texts {
		p.Codes = append(p.Codes, parsed(t, text))
	}
	if !impl.ProgOk(p) {
		t.Fatalf("program %q refused", texts)
	}
	return p
}

func started(t *testing.T, p impl.Prog) impl.Machine {
	t.Helper()
	m, ok := impl.Start(p)
	if !ok {
		t.Fatal("no start of", p)
	}
	return m
}

func sameThread(a impl.Thread, b impl.Thread) bool {
	return a.Pc == b.Pc && slices.Equal(a.Vals, b.Vals) && slices.Equal(a.Buf, b.Buf)
}

func sameMachine(a impl.Machine, b impl.Machine) bool {
	return sameCells(a.Mem, b.Mem) && slices.EqualFunc(a.Threads, b.Threads, sameThread)
}

func copied(m impl.Machine) impl.Machine {
	threads := slices.Clone(m.Threads)
	for i, th := range threads {
		threads[i] = thread(th.Pc, slices.Clone(th.Vals), slices.Clone(th.Buf)...)
	}
	return machine(mem(slices.Clone(m.Mem.Cells)...), threads...)
}

// spoil changes everything that a machine refers to, so that shared memory shows.
func spoil(m impl.Machine) {
	for i := range m.Mem.Cells {
		m.Mem.Cells[i] += 7
	}
	_ = append(m.Mem.Cells, 77)
	for _, th := range m.Threads {
		for i := range th.Vals {
			th.Vals[i] += 7
		}
		for i := range th.Buf {
			th.Buf[i].V += 7
		}
		_ = append(th.Vals, 77)
		_ = append(th.Buf, slot(7, 77))
	}
	for i := range m.Threads {
		m.Threads[i] = impl.Thread{Pc: 77}
	}
}

var badThreads = []int{-1, -2, math.MinInt, impl.MaxThreads, impl.MaxThreads + 1, math.MaxInt}

// wantCan says from the table of chapter 2 and the conditions of chapter 4 whether a move of a valid machine is possible.
func wantCan(p impl.Prog, m impl.Machine, mv impl.Move) bool {
	if mv.T < 0 || mv.T >= len(m.Threads) {
		return false
	}
	th := m.Threads[mv.T]
	if mv.Drain {
		return len(th.Buf) != 0
	}
	if th.Pc == len(p.Codes[mv.T]) {
		return false
	}
	switch p.Codes[mv.T][th.Pc].Op {
	case 3:
		return len(th.Buf) != 3
	case 4, 5, 7:
		return len(th.Buf) == 0
	}
	return true
}

func limited(x int) int { return max(-1000000, min(1000000, x)) }

func wantRead(th impl.Thread, m impl.Mem, a int) int {
	for i := len(th.Buf) - 1; i >= 0; i-- {
		if th.Buf[i].A == a {
			return th.Buf[i].V
		}
	}
	return m.Cells[a]
}

// wantExecuted changes the thread and the memory as the table of chapter 2 says.
func wantExecuted(in impl.Instr, th *impl.Thread, m impl.Mem) {
	r, s := th.Vals[in.R], th.Vals[in.S]
	th.Pc++
	switch in.Op {
	case 0:
		th.Vals[in.R] = in.N
	case 1:
		th.Vals[in.R] = limited(r + s)
	case 2:
		th.Vals[in.R] = wantRead(*th, m, in.N)
	case 3:
		th.Buf = append(th.Buf, slot(in.N, r))
	case 5:
		th.Vals[in.R] = 0
		if m.Cells[in.N] == r {
			m.Cells[in.N], th.Vals[in.R] = s, 1
		}
	case 6:
		if r == 0 {
			th.Pc = in.N
		}
	case 7:
		m.Cells[in.N], th.Vals[in.R] = s, m.Cells[in.N]
	case 8:
		th.Vals[in.R] = limited(r - s)
	}
}

// wantMoved is the machine after a possible move.
func wantMoved(p impl.Prog, m impl.Machine, mv impl.Move) impl.Machine {
	next := copied(m)
	th := &next.Threads[mv.T]
	if mv.Drain {
		next.Mem.Cells[th.Buf[0].A] = th.Buf[0].V
		th.Buf = th.Buf[1:]
		return next
	}
	wantExecuted(p.Codes[mv.T][th.Pc], th, next.Mem)
	return next
}

// wantPlain is the machine after a plain step of a thread that is not at its end.
func wantPlain(p impl.Prog, m impl.Machine, t int) impl.Machine {
	next := m
	for len(next.Threads[t].Buf) > 0 {
		next = wantMoved(p, next, drain(t))
	}
	next = wantMoved(p, next, execute(t))
	for len(next.Threads[t].Buf) > 0 {
		next = wantMoved(p, next, drain(t))
	}
	return next
}

// reachable returns the machines that DoMove reaches from the start, at most limit of them, each once.
func reachable(t *testing.T, p impl.Prog, limit int) []impl.Machine {
	t.Helper()
	list := []impl.Machine{started(t, p)}
	seen := map[string]bool{impl.MachineText(list[0]): true}
	for at := 0; at < len(list) && len(list) < limit; at++ {
		for _, mv := range impl.Moves(p, list[at]) {
			next, ok := impl.DoMove(p, list[at], mv)
			text := impl.MachineText(next)
			if !ok || text == "" {
				t.Fatal("possible move refused", p, list[at], mv)
			}
			if !seen[text] {
				seen[text] = true
				list = append(list, next)
			}
		}
	}
	return list
}

func samplePrograms(t *testing.T) []impl.Prog {
	return []impl.Prog{
		progOf(t, 1, ""),
		progOf(t, 1, "", "", ""),
		progOf(t, 2, "set 1 1; store 1 0; load 0 1", "set 1 1; store 1 1; load 0 0"),
		progOf(t, 2, "set 1 1; store 1 0; fence; load 0 1", "set 1 1; store 1 1; fence; load 0 0"),
		progOf(t, 2, "set 1 1; swap 0 1 0; load 2 1", "set 1 1; swap 0 1 1; load 2 0"),
		progOf(t, 2, "set 1 1; store 1 0", "load 0 0; store 0 1", "load 0 1; load 2 0"),
		progOf(t, 16, "store 0 15; store 1 0; store 2 15; store 3 7; store 0 1", "load 0 15"),
		progOf(t, 1, "set 1 5; store 1 0; store 1 0; store 1 0; store 1 0; cas 0 1 0"),
		progOf(t, 1, "set 1 1; cas 0 1 0; jz 0 1; store 2 0", "set 1 1; cas 0 1 0; jz 0 1; store 2 0"),
		progOf(t, 2, "set 3 2; store 3 0; load 0 0; add 0 3; sub 3 0; jz 2 7; fence", "jz 0 0", "store 0 1; jz 0 0"),
		progOf(t, 1, "set 1 1000; add 1 1; add 1 1; add 1 1; add 1 1; add 1 1; add 1 1; add 1 1; add 1 1; add 1 1; add 1 1; store 1 0; sub 0 1; sub 0 1; store 0 0; add 2 0"),
	}
}

func badPrograms() []impl.Prog {
	return []impl.Prog{
		{},
		prog(1),
		prog(0, nil),
		prog(17, nil),
		prog(-1, nil),
		prog(1, nil, nil, nil, nil),
		prog(1, code(store(0, 1))),
		prog(1, nil, code(jump(2))),
		prog(1, code(ins(9, 0, 0, 0))),
		prog(1, code(ins(-1, 0, 0, 0))),
		prog(1, code(ins(0, 4, 0, 0))),
		prog(1, slices.Repeat(code(fence), impl.MaxInstr+1)),
	}
}

func TestMachineLimits(t *testing.T) {
	if impl.MaxList != 300 {
		t.Error("limit", impl.MaxList)
	}
}

func TestStart(t *testing.T) {
	for _, p := range samplePrograms(t) {
		want := machine(filled(p.Cells, 0))
		for range p.Codes {
			want.Threads = append(want.Threads, idle(0))
		}
		m, ok := impl.Start(p)
		if !ok || !sameMachine(m, want) || !impl.MachineOk(p, m) {
			t.Error("start", p, m, ok)
		}
		m.Threads[0].Vals[0] = 9
		m.Mem.Cells[0] = 9
		if again, _ := impl.Start(p); !sameMachine(again, want) {
			t.Error("start again", p, again)
		}
		if len(m.Threads) > 1 && m.Threads[1].Vals[0] != 0 {
			t.Error("threads share their values", p, m)
		}
	}
	for _, p := range badPrograms() {
		if m, ok := impl.Start(p); ok || m.Threads != nil || m.Mem.Cells != nil {
			t.Error("start of an invalid program", p, m, ok)
		}
	}
}

func validPair(t *testing.T) (impl.Prog, impl.Machine) {
	p := progOf(t, 3, "store 1 0; load 0 2; jz 0 0", "")
	return p, machine(mem(4, 5, 6), thread(1, vals(1, 2, 3, 4), slot(0, 7), slot(2, 8)), idle(0))
}

func TestMachineOkAccepts(t *testing.T) {
	p, m := validPair(t)
	limits := copied(m)
	limits.Threads[0] = thread(3, vals(impl.MaxValue, -impl.MaxValue, 0, 0), slot(2, impl.MaxValue), slot(0, -impl.MaxValue), slot(2, 0))
	limits.Mem = mem(impl.MaxValue, -impl.MaxValue, 0)
	for pc := range 4 {
		limits.Threads[0].Pc = pc
		if !impl.MachineOk(p, limits) {
			t.Error("valid machine refused", limits)
		}
	}
	if !impl.MachineOk(p, m) {
		t.Error("valid machine refused", m)
	}
}

// every way in which a machine can fail to be valid for its program
func badMachines(t *testing.T) []impl.Machine {
	var list []impl.Machine
	add := func(change func(m *impl.Machine)) {
		_, m := validPair(t)
		change(&m)
		list = append(list, m)
	}
	for _, bad := range append(badMems(), mem(4, 5), mem(4, 5, 6, 7)) {
		add(func(m *impl.Machine) { m.Mem = bad })
	}
	for _, pc := range []int{-1, 4, 17, math.MinInt, math.MaxInt} {
		add(func(m *impl.Machine) { m.Threads[0].Pc = pc })
	}
	for _, pc := range []int{-1, 1} { // the second code is empty
		add(func(m *impl.Machine) { m.Threads[1].Pc = pc })
	}
	for _, v := range [][]int{nil, vals(), vals(1, 2, 3), vals(1, 2, 3, 4, 5)} {
		add(func(m *impl.Machine) { m.Threads[0].Vals = v })
		add(func(m *impl.Machine) { m.Threads[1].Vals = v })
	}
	for _, v := range badValues {
		for at := range impl.Regs {
			add(func(m *impl.Machine) { m.Threads[0].Vals[at] = v })
		}
	}
	for _, b := range append(badBufs(), buf(slot(3, 0)), buf(slot(0, 0), slot(1, 0), slot(3, 0)), buf(slot(15, 0), slot(0, 0))) {
		add(func(m *impl.Machine) { m.Threads[0].Buf = b })
		add(func(m *impl.Machine) { m.Threads[1].Buf = b })
	}
	add(func(m *impl.Machine) { m.Threads = nil })
	add(func(m *impl.Machine) { m.Threads = m.Threads[:1] })
	add(func(m *impl.Machine) { m.Threads = append(m.Threads, idle(0)) })
	return append(list, impl.Machine{})
}

func checkNothingMoves(t *testing.T, p impl.Prog, m impl.Machine) {
	t.Helper()
	if impl.MachineOk(p, m) || impl.AtEnd(p, m) || impl.Moves(p, m) != nil {
		t.Error("invalid machine accepted", p, m)
	}
	for _, at := range append(slices.Clone(badThreads), 0, 1, 2) {
		checkMoveRefused(t, p, m, execute(at))
		checkMoveRefused(t, p, m, drain(at))
		checkStepRefused(t, p, m, at)
	}
}

func checkMoveRefused(t *testing.T, p impl.Prog, m impl.Machine, mv impl.Move) {
	t.Helper()
	before := copied(m)
	got, ok := impl.DoMove(p, m, mv)
	if ok || impl.CanMove(p, m, mv) || !sameMachine(got, before) {
		t.Error("move not refused", p, m, mv, got, ok)
	}
	spoil(got)
	if !sameMachine(m, before) {
		t.Fatal("refused move shares the memory of its argument", p, before, mv)
	}
}

func checkStepRefused(t *testing.T, p impl.Prog, m impl.Machine, at int) {
	t.Helper()
	before := copied(m)
	got, ok := impl.StepPlain(p, m, at)
	if ok || !sameMachine(got, before) {
		t.Error("plain step not refused", p, m, at, got, ok)
	}
	spoil(got)
	if !sameMachine(m, before) {
		t.Fatal("refused plain step shares the memory of its argument", p, before, at)
	}
}

func TestInvalidMachines(t *testing.T) {
	p, good := validPair(t)
	for _, m := range badMachines(t) {
		checkNothingMoves(t, p, m)
	}
	for _, bad := range badPrograms() {
		checkNothingMoves(t, bad, good)
		checkNothingMoves(t, bad, machine(mem(0), idle(0)))
		checkNothingMoves(t, bad, impl.Machine{})
	}
	// valid, but for another program
	checkNothingMoves(t, progOf(t, 3, "store 1 0; load 0 2; jz 0 0"), good)
	checkNothingMoves(t, progOf(t, 4, "store 1 0; load 0 2; jz 0 0", ""), good)
	checkNothingMoves(t, progOf(t, 3, "", "store 1 0; load 0 2; jz 0 0"), good)
	checkNothingMoves(t, progOf(t, 2, "store 1 0; load 0 1; jz 0 0", ""), good)
}

func TestMovesOfThreadsThatDoNotExist(t *testing.T) {
	for _, p := range samplePrograms(t) {
		m := started(t, p)
		for _, at := range append(slices.Clone(badThreads), len(p.Codes)) {
			checkMoveRefused(t, p, m, execute(at))
			checkMoveRefused(t, p, m, drain(at))
			checkStepRefused(t, p, m, at)
		}
	}
}

// One instruction at the end of a code of three, before and after it is executed.
type effectCase struct {
	text      string
	before    impl.Thread
	mem       impl.Mem
	after     impl.Thread
	wantCells impl.Mem
}

func effectCases() []effectCase {
	const most = impl.MaxValue
	at := func(values ...int) impl.Thread { return thread(2, values) }
	done := func(values ...int) impl.Thread { return thread(3, values) }
	return []effectCase{
		{"set 2 -1000", at(1, 2, 3, 4), mem(5, 6), done(1, 2, -1000, 4), mem(5, 6)},
		{"set 0 0", at(1, 2, 3, 4), mem(5, 6), done(0, 2, 3, 4), mem(5, 6)},
		{"add 1 3", at(1, 2, 3, 4), mem(5, 6), done(1, 6, 3, 4), mem(5, 6)},
		{"add 0 0", at(-7, 0, 0, 0), mem(5, 6), done(-14, 0, 0, 0), mem(5, 6)},
		{"add 0 1", at(most-1, 1, 0, 0), mem(5, 6), done(most, 1, 0, 0), mem(5, 6)},
		{"add 0 1", at(most, 1, 0, 0), mem(5, 6), done(most, 1, 0, 0), mem(5, 6)},
		{"add 0 1", at(-most, -1, 0, 0), mem(5, 6), done(-most, -1, 0, 0), mem(5, 6)},
		{"add 2 2", at(0, 0, most, 0), mem(5, 6), done(0, 0, most, 0), mem(5, 6)},
		{"add 2 2", at(0, 0, -most, 0), mem(5, 6), done(0, 0, -most, 0), mem(5, 6)},
		{"sub 1 3", at(1, 2, 3, 4), mem(5, 6), done(1, -2, 3, 4), mem(5, 6)},
		{"sub 3 3", at(0, 0, 0, 9), mem(5, 6), done(0, 0, 0, 0), mem(5, 6)},
		{"sub 0 1", at(-most+1, 1, 0, 0), mem(5, 6), done(-most, 1, 0, 0), mem(5, 6)},
		{"sub 0 1", at(-most, 1, 0, 0), mem(5, 6), done(-most, 1, 0, 0), mem(5, 6)},
		{"sub 0 1", at(most, -most, 0, 0), mem(5, 6), done(most, -most, 0, 0), mem(5, 6)},
		{"load 3 1", at(1, 2, 3, 4), mem(5, 6), done(1, 2, 3, 6), mem(5, 6)},
		{"fence", at(1, 2, 3, 4), mem(5, 6), done(1, 2, 3, 4), mem(5, 6)},
		{"cas 0 1 1", at(6, 2, 3, 4), mem(5, 6), done(1, 2, 3, 4), mem(5, 2)},
		{"cas 0 1 0", at(6, 2, 3, 4), mem(5, 6), done(0, 2, 3, 4), mem(5, 6)},
		{"cas 0 1 0", at(0, 2, 3, 4), mem(0, 6), done(1, 2, 3, 4), mem(2, 6)},
		{"cas 0 0 0", at(5, 2, 3, 4), mem(5, 6), done(1, 2, 3, 4), mem(5, 6)}, // S is R as it was before
		{"cas 0 0 0", at(4, 2, 3, 4), mem(5, 6), done(0, 2, 3, 4), mem(5, 6)},
		{"cas 2 3 0", at(1, 2, 5, 5), mem(5, 6), done(1, 2, 1, 5), mem(5, 6)},
		{"swap 0 1 1", at(1, 2, 3, 4), mem(5, 6), done(6, 2, 3, 4), mem(5, 2)},
		{"swap 3 3 0", at(1, 2, 3, 4), mem(5, 6), done(1, 2, 3, 5), mem(4, 6)},
		{"jz 0 0", at(0, 1, 1, 1), mem(5, 6), thread(0, vals(0, 1, 1, 1)), mem(5, 6)},
		{"jz 3 2", at(1, 1, 1, 0), mem(5, 6), thread(2, vals(1, 1, 1, 0)), mem(5, 6)},
		{"jz 3 3", at(1, 1, 1, 0), mem(5, 6), done(1, 1, 1, 0), mem(5, 6)},
		{"jz 0 0", at(1, 0, 0, 0), mem(5, 6), done(1, 0, 0, 0), mem(5, 6)},
		{"jz 0 0", at(-1, 0, 0, 0), mem(5, 6), done(-1, 0, 0, 0), mem(5, 6)},
	}
}

// Without stores, an instruction has the same effect on both machines.
func TestEffects(t *testing.T) {
	for _, c := range effectCases() {
		p := progOf(t, 2, "fence; fence; "+c.text)
		before, want := machine(c.mem, c.before), machine(c.wantCells, c.after)
		got, ok := impl.DoMove(p, before, execute(0))
		if !ok || !sameMachine(got, want) {
			t.Errorf("%s: %v gives %v %v", c.text, before, got, ok)
		}
		got, ok = impl.StepPlain(p, before, 0)
		if !ok || !sameMachine(got, want) {
			t.Errorf("plain %s: %v gives %v %v", c.text, before, got, ok)
		}
	}
}

func TestStoreWaitsInTheBuffer(t *testing.T) {
	p := progOf(t, 2, "store 1 0", "load 0 0")
	m := machine(mem(5, 6), thread(0, vals(1, -2, 3, 4)), idle(0))
	for n, slots := range [][]impl.Slot{{slot(0, -2)}, {slot(0, 8), slot(0, -2)}, {slot(0, 8), slot(1, 9), slot(0, -2)}} {
		m.Threads[0].Buf = slots[:n]
		got, ok := impl.DoMove(p, m, execute(0))
		if !ok || !sameMachine(got, machine(mem(5, 6), thread(1, vals(1, -2, 3, 4), slots...), idle(0))) {
			t.Error("store", m, got, ok)
		}
		// The other thread does not see what waits.
		seen, ok := impl.DoMove(p, got, execute(1))
		if !ok || seen.Threads[1].Vals[0] != 5 {
			t.Error("load of another thread", seen, ok)
		}
	}
	got, ok := impl.StepPlain(p, machine(mem(5, 6), thread(0, vals(1, -2, 3, 4)), idle(0)), 0)
	if !ok || !sameMachine(got, machine(mem(-2, 6), thread(1, vals(1, -2, 3, 4)), idle(0))) {
		t.Error("plain store", got, ok)
	}
}

func TestLoadReadsThroughTheBuffer(t *testing.T) {
	cases := []struct {
		slots []impl.Slot
		want  int
	}{
		{nil, 6},
		{buf(slot(0, 7)), 6},
		{buf(slot(1, 7)), 7},
		{buf(slot(1, 7), slot(1, 8)), 8},
		{buf(slot(1, 7), slot(1, 0), slot(0, 9)), 0},
		{buf(slot(1, 7), slot(0, 8), slot(1, 9)), 9},
	}
	p := progOf(t, 2, "load 2 1", "load 2 1")
	for _, c := range cases {
		m := machine(mem(5, 6), thread(0, vals(1, 2, 3, 4), c.slots...), idle(0))
		own, ok := impl.DoMove(p, m, execute(0))
		if !ok || !sameMachine(own, machine(mem(5, 6), thread(1, vals(1, 2, c.want, 4), c.slots...), idle(0))) {
			t.Error("load", m, own, ok)
		}
		other, ok := impl.DoMove(p, m, execute(1))
		if !ok || other.Threads[1].Vals[2] != 6 || !slices.Equal(other.Threads[0].Buf, c.slots) {
			t.Error("load of another thread", m, other, ok)
		}
	}
}

func TestDrainWritesTheOldestSlot(t *testing.T) {
	p := progOf(t, 2, "fence", "load 0 0")
	m := machine(mem(5, 6), thread(0, vals(1, 2, 3, 4), slot(0, 7), slot(1, 8), slot(0, 9)), thread(1, vals(0, 0, 0, 0), slot(0, 1)))
	steps := []impl.Machine{
		machine(mem(7, 6), thread(0, vals(1, 2, 3, 4), slot(1, 8), slot(0, 9)), m.Threads[1]),
		machine(mem(7, 8), thread(0, vals(1, 2, 3, 4), slot(0, 9)), m.Threads[1]),
		machine(mem(9, 8), thread(0, vals(1, 2, 3, 4)), m.Threads[1]),
	}
	for _, want := range steps {
		next, ok := impl.DoMove(p, m, drain(0))
		if !ok || !sameMachine(next, want) {
			t.Error("drain", m, next, ok)
		}
		m = want
	}
	checkMoveRefused(t, p, m, drain(0))
	last, ok := impl.DoMove(p, m, drain(1))
	if !ok || !sameMachine(last, machine(mem(1, 8), thread(0, vals(1, 2, 3, 4)), idle(1))) {
		t.Error("drain of the other thread", last, ok)
	}
}

func TestFullBuffers(t *testing.T) {
	p := progOf(t, 2, "store 1 0", "store 2 1")
	full := thread(0, vals(1, 2, 3, 4), slot(0, 7), slot(1, 8), slot(0, 9))
	m := machine(mem(5, 6), full, full)
	checkMoveRefused(t, p, m, execute(0))
	checkMoveRefused(t, p, m, execute(1))
	if got := impl.Moves(p, m); !slices.Equal(got, []impl.Move{drain(0), drain(1)}) {
		t.Error("moves with full buffers", got)
	}
	m, _ = impl.DoMove(p, m, drain(0))
	if got := impl.Moves(p, m); !slices.Equal(got, []impl.Move{execute(0), drain(0), drain(1)}) {
		t.Error("moves with one full buffer", got)
	}
	m, ok := impl.DoMove(p, m, execute(0))
	if !ok || !slices.Equal(m.Threads[0].Buf, buf(slot(1, 8), slot(0, 9), slot(0, 2))) {
		t.Error("store after a drain", m, ok)
	}
	// Only a store has to wait for room, and a plain step makes it.
	for _, text := range []string{"set 0 1", "add 0 1", "sub 0 1", "load 0 0", "jz 0 0"} {
		if !impl.CanMove(progOf(t, 2, text), machine(mem(5, 6), full), execute(0)) {
			t.Error("a full buffer stops", text)
		}
	}
	plain, ok := impl.StepPlain(progOf(t, 2, "store 1 1"), machine(mem(5, 6), full), 0)
	if !ok || !sameMachine(plain, machine(mem(9, 2), thread(1, vals(1, 2, 3, 4)))) {
		t.Error("plain store with a full buffer", plain, ok)
	}
}

func TestFencesWait(t *testing.T) {
	slots := buf(slot(0, 7), slot(1, 8), slot(0, 9))
	for _, text := range []string{"fence", "cas 0 1 0", "swap 0 1 0"} {
		p := progOf(t, 2, text, "store 0 0; "+text)
		for n := 1; n <= impl.MaxBuf; n++ {
			m := machine(mem(5, 6), thread(0, vals(1, 2, 3, 4), slots[:n]...), idle(1))
			checkMoveRefused(t, p, m, execute(0))
			// The buffer of another thread is nothing to wait for.
			if got := impl.Moves(p, m); !slices.Equal(got, []impl.Move{drain(0), execute(1)}) {
				t.Error("moves", text, m, got)
			}
			if _, ok := impl.DoMove(p, m, execute(1)); !ok {
				t.Error("waits for another thread", text, m)
			}
			for range n {
				m, _ = impl.DoMove(p, m, drain(0))
			}
			if got := impl.Moves(p, m); !slices.Equal(got, []impl.Move{execute(0), execute(1)}) {
				t.Error("moves after draining", text, m, got)
			}
		}
	}
	// Any other instruction goes on while a slot waits.
	for _, text := range []string{"set 0 1", "add 0 1", "sub 0 1", "load 0 0", "store 0 0", "jz 0 0"} {
		if !impl.CanMove(progOf(t, 2, text), machine(mem(5, 6), thread(0, vals(1, 2, 3, 4), slots[:2]...)), execute(0)) {
			t.Error("waits for the buffer", text)
		}
	}
}

func TestPlainStepDrainsBeforeAFence(t *testing.T) {
	cases := []struct {
		text string
		want impl.Machine
	}{
		{"fence", machine(mem(9, 8), thread(1, vals(9, 2, 3, 4)))},
		{"cas 0 1 0", machine(mem(2, 8), thread(1, vals(1, 2, 3, 4)))},
		{"cas 0 1 1", machine(mem(9, 8), thread(1, vals(0, 2, 3, 4)))},
		{"swap 2 1 0", machine(mem(2, 8), thread(1, vals(9, 2, 9, 4)))},
		{"load 3 0", machine(mem(9, 8), thread(1, vals(9, 2, 3, 9)))},
		{"jz 0 0", machine(mem(9, 8), thread(1, vals(9, 2, 3, 4)))},
	}
	for _, c := range cases {
		m := machine(mem(5, 6), thread(0, vals(9, 2, 3, 4), slot(0, 7), slot(1, 8), slot(0, 9)))
		got, ok := impl.StepPlain(progOf(t, 2, c.text), m, 0)
		if !ok || !sameMachine(got, c.want) {
			t.Error("plain step", c.text, got, ok)
		}
	}
}

func TestPlainStepLeavesOtherThreads(t *testing.T) {
	p := progOf(t, 2, "store 1 0", "load 0 0")
	other := thread(0, vals(5, 6, 7, 8), slot(0, 1), slot(1, 2))
	got, ok := impl.StepPlain(p, machine(mem(5, 6), thread(0, vals(1, 2, 3, 4), slot(1, 9)), other), 0)
	if !ok || !sameMachine(got, machine(mem(2, 9), thread(1, vals(1, 2, 3, 4)), other)) {
		t.Error("plain step", got, ok)
	}
}

func TestEndOfCode(t *testing.T) {
	p := progOf(t, 2, "fence", "")
	done := machine(mem(5, 6), idle(1), idle(0))
	waiting := machine(mem(5, 6), thread(1, vals(0, 0, 0, 0), slot(1, 7)), thread(0, vals(0, 0, 0, 0), slot(0, 8)))
	for _, m := range []impl.Machine{done, waiting} {
		for at := range 2 {
			checkMoveRefused(t, p, m, execute(at))
			// Also what waits stays where it is.
			checkStepRefused(t, p, m, at)
		}
	}
	if got := impl.Moves(p, done); len(got) != 0 {
		t.Error("moves at the end", got)
	}
	if got := impl.Moves(p, waiting); !slices.Equal(got, []impl.Move{drain(0), drain(1)}) {
		t.Error("moves at the end of the code", got)
	}
	// A jump may lead to the end, and a thread may jump back from the last instruction.
	for _, c := range []struct {
		text string
		end  bool
	}{{"jz 0 1", true}, {"jz 0 3; fence; fence", true}, {"jz 0 0", false}} {
		p := progOf(t, 2, c.text)
		m, ok := impl.DoMove(p, machine(mem(5, 6), idle(0)), execute(0))
		if !ok || impl.AtEnd(p, m) != c.end || impl.CanMove(p, m, execute(0)) == c.end {
			t.Error("jump", c.text, m, ok)
		}
	}
}

func TestAtEnd(t *testing.T) {
	p := progOf(t, 2, "fence; fence", "load 0 1", "")
	end := machine(mem(5, 6), thread(2, vals(1, 2, 3, 4)), idle(1), idle(0))
	if !impl.AtEnd(p, end) {
		t.Error("at the end", end)
	}
	for at := range 3 {
		waiting := copied(end)
		waiting.Threads[at].Buf = buf(slot(0, 0))
		if impl.AtEnd(p, waiting) {
			t.Error("a slot waits", waiting)
		}
	}
	for at := range 2 {
		early := copied(end)
		early.Threads[at].Pc--
		if impl.AtEnd(p, early) {
			t.Error("before the end", early)
		}
	}
	behind := copied(end)
	behind.Threads[2].Pc++
	if impl.AtEnd(p, behind) {
		t.Error("behind the end", behind)
	}
}

func TestMachineText(t *testing.T) {
	full := slices.Repeat(vals(-1), impl.Regs)
	cases := []struct {
		m    impl.Machine
		want string
	}{
		{machine(mem(0, 0), idle(0), idle(0)), "t0 0 0 0 0 - | t0 0 0 0 0 - | 0 0"},
		{machine(mem(-5), thread(16, vals(1, -2, 30, impl.MaxValue), slot(0, 7), slot(15, -8))), "t16 1 -2 30 1000000 0=7 15=-8 | -5"},
		{machine(mem(1, 2, 3), idle(1), thread(2, full, slot(1, 1)), idle(3)), "t1 0 0 0 0 - | t2 -1 -1 -1 -1 1=1 | t3 0 0 0 0 - | 1 2 3"},
		// Nothing else about a thread is looked at.
		{machine(mem(4)), "4"},
		{machine(mem(4), thread(-7, nil)), "t-7 - | 4"},
		{machine(mem(4), thread(99, vals(1, 5000000))), "t99 1 5000000 - | 4"},
		{machine(mem(4), thread(math.MinInt, vals(math.MaxInt), slot(9, 9))), "t-9223372036854775808 9223372036854775807 9=9 | 4"},
	}
	for _, c := range cases {
		if got := impl.MachineText(c.m); got != c.want {
			t.Errorf("text of %v: %q", c.m, got)
		}
	}
}

func machinesWithoutText() []impl.Machine {
	list := []impl.Machine{
		{},
		machine(mem(1), idle(0), idle(0), idle(0), idle(0)),
		machine(mem(1), slices.Repeat([]impl.Thread{idle(0)}, 1000)...),
		machine(mem(1), thread(0, vals(0, 0, 0, 0, 0))),
		machine(mem(1), idle(0), idle(0), thread(0, make([]int, 1000))),
	}
	for _, m := range badMems() {
		list = append(list, machine(m), machine(m, idle(0)))
	}
	for _, b := range badBufs() {
		list = append(list, machine(mem(1), thread(0, vals(0, 0, 0, 0), b...)), machine(mem(1), idle(0), thread(0, nil, b...)))
	}
	return list
}

func TestMachineTextInvalid(t *testing.T) {
	for _, m := range machinesWithoutText() {
		if got := impl.MachineText(m); got != "" {
			t.Errorf("text of an invalid machine %v: %q", m, got)
		}
	}
}

// The first part of promise 4: in every machine that is reached, Moves gives exactly the possible moves, in order, and each leads to the valid machine that the tables describe.
func TestMovesAreExactlyThePossibleOnes(t *testing.T) {
	for _, p := range samplePrograms(t) {
		for _, m := range reachable(t, p, 3000) {
			before := copied(m)
			var want []impl.Move
			for at := -1; at <= impl.MaxThreads; at++ {
				for _, mv := range []impl.Move{execute(at), drain(at)} {
					if !wantCan(p, m, mv) {
						checkMoveRefused(t, p, m, mv)
						continue
					}
					want = append(want, mv)
					got, ok := impl.DoMove(p, m, mv)
					if !ok || !impl.CanMove(p, m, mv) || !impl.MachineOk(p, got) || !sameMachine(got, wantMoved(p, m, mv)) {
						t.Fatal("move", p, m, mv, got, ok)
					}
					spoil(got)
				}
			}
			if got := impl.Moves(p, m); !slices.Equal(got, want) {
				t.Fatal("moves", p, m, got, "want", want)
			}
			if impl.AtEnd(p, m) != (len(want) == 0) {
				t.Fatal("end", p, m)
			}
			if !sameMachine(m, before) {
				t.Fatal("argument changed or shared", p, before)
			}
		}
	}
}

// A plain step from any machine: the buffer of its thread is empty afterwards, and nothing of the other threads has changed.
func TestPlainStepEverywhere(t *testing.T) {
	for _, p := range samplePrograms(t) {
		for _, m := range reachable(t, p, 3000) {
			before := copied(m)
			for at, th := range m.Threads {
				if th.Pc == len(p.Codes[at]) {
					checkStepRefused(t, p, m, at)
					continue
				}
				got, ok := impl.StepPlain(p, m, at)
				if !ok || len(got.Threads[at].Buf) != 0 || !impl.MachineOk(p, got) || !sameMachine(got, wantPlain(p, m, at)) {
					t.Fatal("plain step", p, m, at, got, ok)
				}
				spoil(got)
			}
			if !sameMachine(m, before) {
				t.Fatal("argument changed or shared", p, before)
			}
		}
	}
}

// The last part of promise 4. After as many instructions as the plain machine has executed, whatever has been drained meanwhile, the only thread of the buffered machine has the same Pc and values, and its memory is the same once the rest is drained.
func checkSameOnBothMachines(t *testing.T, p impl.Prog) {
	t.Helper()
	type pair struct{ buffered, plain impl.Machine }
	list := []pair{{started(t, p), started(t, p)}}
	seen := map[string]bool{}
	for at := 0; at < len(list); at++ {
		if at == 3000 {
			t.Fatal("no end of machines", p)
		}
		b, plain := list[at].buffered, list[at].plain
		own, other := b.Threads[0], plain.Threads[0]
		drained, ok := impl.DrainAll(own.Buf, b.Mem)
		if !ok || own.Pc != other.Pc || !slices.Equal(own.Vals, other.Vals) || !sameCells(drained, plain.Mem) || len(other.Buf) != 0 {
			t.Fatal("differs", p, b, plain)
		}
		if impl.AtEnd(p, b) && !sameMachine(b, plain) {
			t.Fatal("ends differ", p, b, plain)
		}
		for _, mv := range impl.Moves(p, b) {
			next := list[at]
			next.buffered, _ = impl.DoMove(p, b, mv)
			if !mv.Drain {
				next.plain, _ = impl.StepPlain(p, plain, 0)
			}
			if key := impl.MachineText(next.buffered) + impl.MachineText(next.plain); !seen[key] {
				seen[key] = true
				list = append(list, next)
			}
		}
	}
}

func TestOneThreadBehavesTheSameOnBothMachines(t *testing.T) {
	first := code(ins(0, 1, 0, 7), store(1, 0))
	for size := 0; size <= 4; size++ {
		choice := code(store(0, 0), ins(0, 0, 0, 5), ins(2, 0, 0, 0), fence, ins(5, 1, 0, 0), ins(7, 0, 1, 1), ins(2, 1, 0, 1))
		for n := 0; n <= size; n += 2 {
			choice = append(choice, jump(n+len(first)))
		}
		for _, rest := range codesOf(choice, size) {
			checkSameOnBothMachines(t, prog(2, slices.Concat(first, rest)))
		}
	}
	texts := []string{
		"set 1 5; store 1 0; store 1 0; store 1 0; store 1 0; load 2 0; store 2 1; fence; load 3 1",
		"set 1 1000; add 1 1; add 1 1; store 1 0; load 2 0; add 2 1; store 2 0; load 3 0; sub 3 1; store 3 1",
		"set 0 3; set 1 1; store 0 0; load 0 0; sub 0 1; store 0 0; jz 0 8; jz 3 3; load 2 0",
	}
	for _, text := range texts {
		checkSameOnBothMachines(t, progOf(t, 2, text))
	}
}

// The guarantee: a thread that runs alone reads what it wrote, at whatever moments its slots are drained and whoever else is there.
func TestAloneReadsWhatItWrote(t *testing.T) {
	text := "set 0 1; set 1 2; store 0 0; load 2 0; store 1 0; load 3 0; store 0 1; store 1 1; load 2 1; load 3 0"
	wanted := map[int][2]int{4: {1, 0}, 6: {1, 2}, 9: {2, 2}, 10: {2, 2}} // registers 2 and 3 by Pc
	p := progOf(t, 2, text, "set 0 9; store 0 0; store 0 1")
	list := []impl.Machine{started(t, p)}
	reached := 0
	for at := 0; at < len(list); at++ {
		if at == 3000 {
			t.Fatal("no end of machines")
		}
		th := list[at].Threads[0]
		if want, ok := wanted[th.Pc]; ok {
			reached++
			if th.Vals[2] != want[0] || th.Vals[3] != want[1] {
				t.Error("reads", th)
			}
		}
		for _, mv := range impl.Moves(p, list[at]) {
			if mv.T == 0 {
				next, _ := impl.DoMove(p, list[at], mv)
				list = append(list, next)
			}
		}
	}
	if reached < 10 {
		t.Error("the thread got nowhere", len(list), reached)
	}
}

func TestRunMoves(t *testing.T) {
	p := progOf(t, 2, "set 1 1; store 1 0; load 0 1", "set 1 2; store 1 1; fence; load 0 0")
	cases := []struct {
		moves []impl.Move
		want  string
		n     int
	}{
		{nil, "t0 0 0 0 0 - | t0 0 0 0 0 - | 0 0", 0},
		{[]impl.Move{execute(0), execute(0), execute(1), execute(1), execute(0)}, "t3 0 1 0 0 0=1 | t2 0 2 0 0 1=2 | 0 0", 5},
		// skipped: a drain of nothing, a fence that waits, a thread at its end, threads that do not exist
		{[]impl.Move{drain(0), execute(0), drain(1), execute(1), execute(1), execute(1), drain(1), execute(1)}, "t1 0 1 0 0 - | t3 0 2 0 0 - | 0 2", 5},
		{[]impl.Move{execute(0), execute(0), execute(0), execute(0), execute(0), drain(0), drain(0)}, "t3 0 1 0 0 - | t0 0 0 0 0 - | 1 0", 4},
		{[]impl.Move{execute(-1), execute(2), drain(3), drain(math.MinInt), execute(math.MaxInt), execute(1)}, "t0 0 0 0 0 - | t1 0 2 0 0 - | 0 0", 1},
	}
	for _, c := range cases {
		before := slices.Clone(c.moves)
		m, n := impl.RunMoves(p, c.moves)
		if n != c.n || impl.MachineText(m) != c.want || !slices.Equal(before, c.moves) {
			t.Errorf("moves %v: %d %q", before, n, impl.MachineText(m))
		}
	}
}

func TestRunMovesSkipsWhatAFullBufferStops(t *testing.T) {
	p := progOf(t, 1, "store 0 0; set 0 1; store 0 0; set 0 2; store 0 0; set 0 3; store 0 0")
	moves := append(slices.Repeat([]impl.Move{execute(0)}, 9), drain(0), execute(0))
	m, n := impl.RunMoves(p, moves)
	if n != 8 || impl.MachineText(m) != "t7 3 0 0 0 0=1 0=2 0=3 | 0" {
		t.Error("full buffer", m, n)
	}
}

func TestRunMovesLimit(t *testing.T) {
	p := progOf(t, 1, "jz 0 0")
	for _, c := range []struct{ size, want int }{{1, 1}, {impl.MaxList - 1, impl.MaxList - 1}, {impl.MaxList, impl.MaxList}} {
		m, n := impl.RunMoves(p, slices.Repeat([]impl.Move{execute(0)}, c.size))
		if n != c.want || !sameMachine(m, started(t, p)) {
			t.Error("moves", c.size, m, n)
		}
	}
	// The length counts, also of moves that would be skipped.
	for _, mv := range []impl.Move{execute(0), drain(0), execute(7)} {
		for _, size := range []int{impl.MaxList + 1, 10 * impl.MaxList} {
			m, n := impl.RunMoves(p, slices.Repeat([]impl.Move{mv}, size))
			if n != 0 || m.Threads != nil || m.Mem.Cells != nil {
				t.Error("too many moves", size, m, n)
			}
		}
	}
	for _, bad := range badPrograms() {
		m, n := impl.RunMoves(bad, []impl.Move{execute(0)})
		if n != 0 || m.Threads != nil || m.Mem.Cells != nil {
			t.Error("invalid program", bad, m, n)
		}
	}
}

func TestClampedOnBothMachines(t *testing.T) {
	doubling := strings.Repeat("; add 1 1", 11)
	p := progOf(t, 1, "set 1 1000"+doubling+"; store 1 0; sub 0 1; sub 0 1; add 2 0")
	m, n := impl.RunMoves(p, slices.Repeat([]impl.Move{execute(0)}, impl.MaxInstr))
	plain := started(t, p)
	for range impl.MaxInstr {
		plain, _ = impl.StepPlain(p, plain, 0)
	}
	if n != impl.MaxInstr || impl.MachineText(m) != "t16 -1000000 1000000 -1000000 0 0=1000000 | 0" {
		t.Error("clamped", m, n)
	}
	if impl.MachineText(plain) != "t16 -1000000 1000000 -1000000 0 - | 1000000" {
		t.Error("clamped on the plain machine", plain)
	}
}

// Programs and moves are not changed, and a result shares no memory with the machine it came from.
func TestMachineFunctionsKeepArguments(t *testing.T) {
	p := progOf(t, 3, "store 1 0; load 0 2; jz 0 0", "swap 1 2 0")
	before := [][]impl.Instr{slices.Clone(p.Codes[0]), slices.Clone(p.Codes[1])}
	// The buffer and the values have room behind their end, where an append in place would write.
	values, slots := vals(1, 2, 3, 4, 55), buf(slot(0, 7), slot(2, 8), slot(1, 9))
	m := machine(mem(4, 5, 6), thread(0, values[:4], slots[:1]...), idle(0))
	m.Threads[0].Buf = slots[:1]
	first := copied(m)
	for _, mv := range []impl.Move{execute(0), drain(0), execute(1), drain(1), execute(9)} {
		got, _ := impl.DoMove(p, m, mv)
		spoil(got)
		got, _ = impl.StepPlain(p, m, mv.T)
		spoil(got)
	}
	impl.Moves(p, m)
	impl.MachineOk(p, m)
	impl.AtEnd(p, m)
	impl.MachineText(m)
	if !sameMachine(m, first) || !slices.Equal(values, vals(1, 2, 3, 4, 55)) || !slices.Equal(slots, buf(slot(0, 7), slot(2, 8), slot(1, 9))) {
		t.Error("argument changed", m, values, slots)
	}
	if !slices.Equal(p.Codes[0], before[0]) || !slices.Equal(p.Codes[1], before[1]) {
		t.Error("program changed", p)
	}
}
