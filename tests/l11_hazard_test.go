package tests

import (
	"math"
	"math/rand/v2"
	"runtime"
	"slices"
	"sync"
	"testing"

	"loop.example/g00712/impl"
)

func opCutBy(t int, x int) impl.Op { return opOf(3, t, x) }

func opScan(t int) impl.Op { return opOf(6, t, 0) }

// hazard has the bench of the text and the lists, those of the last workers being empty.
func hazard(text string, lists ...[]int) impl.Hazard {
	h := impl.Hazard{Bench: bench(text), Lists: make([][]int, 5)}
	copy(h.Lists, lists)
	return h
}

func sameHazard(a impl.Hazard, b impl.Hazard) bool {
	return sameBench(a.Bench, b.Bench) && slices.EqualFunc(a.Lists, b.Lists, slices.Equal[[]int])
}

func copiedHazard(h impl.Hazard) impl.Hazard {
	lists := make([][]int, len(h.Lists))
	for i, list := range h.Lists {
		lists[i] = slices.Clone(list)
	}
	return impl.Hazard{Bench: copiedBench(h.Bench), Lists: lists}
}

// A hazardDiary is a diary with the workers that cut, each cut as a hold: every list is what its worker cut and what was not freed since.
type hazardDiary struct {
	diary
	cutBy []impl.Hold
}

// hazardDiaryOf takes the order of the cuts from the lists, which may differ from that of Waiting.
func hazardDiaryOf(h impl.Hazard) hazardDiary {
	d := hazardDiary{diary: diaryOf(h.Bench)}
	for worker, list := range h.Lists {
		for _, x := range list {
			d.cutBy = append(d.cutBy, hold(worker, x))
		}
	}
	return d
}

func (d hazardDiary) list(worker int) []int {
	var list []int
	for _, c := range d.cutBy {
		if c.T == worker && !d.freed(c.X) {
			list = append(list, c.X)
		}
	}
	return list
}

func (d hazardDiary) hazard() impl.Hazard {
	h := impl.Hazard{Bench: d.bench()}
	for worker := range 5 {
		h.Lists = append(h.Lists, d.list(worker))
	}
	return h
}

func (d hazardDiary) slotsUsed(worker int) int {
	return d.countHolds(func(h impl.Hold) bool { return h.T == worker })
}

// do writes an action, and reports whether it was possible.
func (d *hazardDiary) do(a action) bool {
	possible := a.possible(d.diary)
	d.diary, _ = a.writtenIn(d.diary)
	return possible
}

func (d *hazardDiary) scan(worker int) int {
	var idle []int
	for _, x := range d.list(worker) {
		if d.holders(x) == 0 {
			idle = append(idle, x)
		}
	}
	d.do(doFreeSome(idle...))
	return len(idle)
}

func (d *hazardDiary) cutFor(worker int, x int) int {
	if !d.do(doCut(x)) {
		return -1
	}
	d.cutBy = append(slices.Clone(d.cutBy), hold(worker, x))
	if len(d.list(worker)) >= 3 {
		return d.scan(worker)
	}
	return 0
}

// wantHazard is what the diary says of an operation of the scheme.
func wantHazard(d hazardDiary, op impl.Op) (hazardDiary, int) {
	worker := within(op.T, 0, 4)
	switch {
	case op.Kind == 0 && d.do(doMake()):
		return d, d.made
	case op.Kind == 1 && d.slotsUsed(op.T) < 2 && d.do(doTake(op.T, op.X)):
		return d, d.slotsUsed(op.T)
	case op.Kind == 2 && d.do(doDrop(op.T, op.X)):
		return d, 0
	case op.Kind == 3 && worker:
		result := d.cutFor(op.T, op.X)
		return d, result
	case (op.Kind == 4 || op.Kind == 5) && worker:
		return d, 0
	case op.Kind == 6 && worker:
		result := d.scan(op.T)
		return d, result
	}
	return d, -1
}

// hazardWell is what promise 11 says of a state at every moment.
func hazardWell(h impl.Hazard) bool {
	longest := max(impl.Slots*impl.Workers, impl.ScanAt-1)
	long := func(list []int) bool { return len(list) > longest }
	return !slices.ContainsFunc(h.Lists, long) && impl.SafeBench(h.Bench)
}

// allHeld is what promise 11 says of a list that was scanned.
func allHeld(b impl.Bench, list []int) bool {
	idle := func(x int) bool { return len(impl.HoldersOf(b, x)) == 0 }
	return !slices.ContainsFunc(list, idle)
}

func scans(h impl.Hazard, op impl.Op, result int) bool {
	if result < 0 || op.Kind != 3 && op.Kind != 6 {
		return false
	}
	return op.Kind == 6 || len(h.Lists[op.T]) >= impl.ScanAt-1
}

func checkPromise11(t *testing.T, before impl.Hazard, op impl.Op, after impl.Hazard, result int) {
	t.Helper()
	if !impl.HazardOk(after) || hazardWell(before) && !hazardWell(after) {
		t.Error(op, "on", before, "breaks promise 11", after)
	}
	if scans(before, op, result) && !allHeld(after.Bench, after.Lists[op.T]) {
		t.Error(op, "on", before, "leaves what nobody holds", after)
	}
}

func checkStepHazard(t *testing.T, h impl.Hazard, op impl.Op) impl.Hazard {
	t.Helper()
	before := copiedHazard(h)
	d, want := wantHazard(hazardDiaryOf(h), op)
	after, got := impl.StepHazard(h, op)
	if got != want || !sameHazard(after, d.hazard()) {
		t.Error(op, "on", before, "gives", after, got, "not", d.hazard(), want)
	}
	if !sameHazard(h, before) {
		t.Error(op, "changed its state", before, h)
	}
	checkPromise11(t, before, op, after, got)
	return after
}

// spreads gives ways to put what waits into the lists of three workers, in its order and backwards.
func spreads(b impl.Bench) []impl.Hazard {
	backwards := slices.Clone(b.Waiting)
	slices.Reverse(backwards)
	var list []impl.Hazard
	for _, order := range [][]int{b.Waiting, backwards} {
		for last := range len(order) + 1 {
			for first := range last + 1 {
				h := impl.Hazard{Bench: b, Lists: [][]int{order[:first], nil, order[first:last], nil, order[last:]}}
				list = append(list, copiedHazard(h))
			}
		}
	}
	return list
}

// smallHazards have n objects and up to two holds of two workers.
func smallHazards(n int) []impl.Hazard {
	var list []impl.Hazard
	for _, b := range smallBenches(n) {
		list = append(list, spreads(b)...)
	}
	return list
}

// someHazard has objects in all places, also freed ones that are held, and slots and lists filled by chance.
func someHazard(source *rand.Rand, n int) impl.Hazard {
	h := impl.Hazard{Bench: impl.Bench{Next: n + 1}, Lists: make([][]int, 5)}
	for _, i := range source.Perm(n) {
		switch x, worker := i+1, source.IntN(5); source.IntN(4) {
		case 0:
			h.Bench.Linked = append(h.Bench.Linked, x)
		case 1:
			h.Bench.Freed = append(h.Bench.Freed, x)
		default:
			h.Bench.Waiting = append(h.Bench.Waiting, x)
			h.Lists[worker/2*2] = append(h.Lists[worker/2*2], x)
		}
	}
	slices.Sort(h.Bench.Linked)
	for _, list := range h.Lists {
		source.Shuffle(len(list), func(i int, j int) { list[i], list[j] = list[j], list[i] })
	}
	for worker := range 5 {
		for _, i := range source.Perm(n)[:min(n, source.IntN(3))] {
			h.Bench.Held = append(h.Bench.Held, hold(worker, i+1))
		}
	}
	source.Shuffle(len(h.Bench.Held), func(i int, j int) {
		h.Bench.Held[i], h.Bench.Held[j] = h.Bench.Held[j], h.Bench.Held[i]
	})
	return h
}

// largerHazards have up to all objects made, and are the same ones in every run.
func largerHazards() []impl.Hazard {
	source := rand.New(rand.NewPCG(11, 11))
	var list []impl.Hazard
	for range 40 {
		for _, n := range []int{3, 4, 5, 6, 7, 8, 12} {
			list = append(list, someHazard(source, n))
		}
	}
	for _, n := range []int{20, 40, 59, 60} {
		list = append(list, someHazard(source, n))
	}
	return list
}

// goodHazards are all small ones of up to two objects, and larger ones.
func goodHazards() []impl.Hazard {
	return slices.Concat(smallHazards(0), smallHazards(1), smallHazards(2), largerHazards())
}

const hazardText = "linked 1 4 held 0:1 4:3 0:3 2:6 waiting 6 3 freed 5 2"

// badHazards have a bad bench, a worker with too many holds, or lists that are not what waits.
func badHazards() []impl.Hazard {
	var list []impl.Hazard
	for _, b := range badBenches() {
		h := impl.Hazard{Bench: b, Lists: make([][]int, 5)}
		h.Lists[2] = slices.Clone(b.Waiting)
		list = append(list, h)
	}
	list = append(list, impl.Hazard{}, impl.Hazard{Bench: bench("")}, hazard("waiting 1"),
		hazard("linked 1 2 3 held 0:1 0:2 0:3"), hazard("linked 1 held 4:3 4:1 4:2 freed 3 2"), hazard("held 1:2 2:3 1:1 2:1 1:3 waiting 1 2 3", upTo(3)),
		hazard("linked "+sprint(upTo(60))+" held 3:60 3:1 3:59"))
	for _, lists := range [][][]int{
		nil, {}, {{6, 3}}, {{6, 3}, {}, {}, {}}, {{}, {}, {}, {6, 3}}, {{6, 3}, {}, {}, {}, {}, {}}, {{}, {}, {}, {}, {6}, {3}},
		{{}, {}, {}, {}, {}}, {{6}, {}, {}, {}, {}}, {{}, {}, {}, {}, {3}}, // something is missing
		{{6, 3, 6}, {}, {}, {}, {}}, {{6}, {3}, {}, {}, {6}}, {{6, 6}, {}, {}, {}, {}}, {{3, 6}, {3, 6}, {}, {}, {}}, // something is there twice
		{{6, 3, 1}, {}, {}, {}, {}}, {{6, 3}, {5}, {}, {}, {}}, {{6}, {3}, {7}, {}, {}}, {{6}, {3}, {0}, {}, {}}, {{}, {6, -1, 3}, {}, {}, {}},
		{{6, 3}, {}, {61}, {}, {}}, {{math.MinInt, 6, 3}, {}, {}, {}, {}}, {{6}, {3}, {}, {}, {math.MaxInt}}, {{6, 4}, {}, {}, {}, {}}, upToEach(1000),
	} {
		list = append(list, impl.Hazard{Bench: bench(hazardText), Lists: lists})
	}
	return list
}

func upToEach(n int) [][]int {
	return [][]int{upTo(n), upTo(n), upTo(n), upTo(n), upTo(n)}
}

func TestHazardLimits(t *testing.T) {
	if impl.Slots != 2 || impl.ScanAt != 3 {
		t.Error("limits", impl.Slots, impl.ScanAt)
	}
}

func TestHazardOk(t *testing.T) {
	for _, h := range append(goodHazards(), hazard(""), hazard("linked 1 2 held 4:1 4:2 3:1"), hazard(hazardText, nil, []int{3, 6}), hazard(hazardText, []int{6}, nil, nil, nil, []int{3}), hazard("held 1:2 freed 2 1")) {
		before := copiedHazard(h)
		if !impl.HazardOk(h) || !sameHazard(h, before) {
			t.Error("valid state refused", before, h)
		}
	}
	for _, h := range badHazards() {
		before := copiedHazard(h)
		if impl.HazardOk(h) || !sameHazard(h, before) {
			t.Error("invalid state accepted", before, h)
		}
	}
}

// all ways to fill two lists with up to three numbers, among other empty lists or too few or too many
func TestHazardOkLists(t *testing.T) {
	short := listsOf([]int{0, 1, 2, 3, 4}, 3)
	for _, text := range []string{"", "linked 1 2 3", "waiting 1", "linked 1 waiting 3 2", "waiting 1 2 3", "waiting 3 1 freed 2"} {
		b := bench(text)
		want := slices.Clone(b.Waiting)
		slices.Sort(want)
		for _, first := range short {
			for _, last := range short {
				all := slices.Concat(first, last)
				slices.Sort(all)
				for n := 4; n <= 6; n++ {
					lists := make([][]int, n)
					lists[0], lists[n-1] = first, last
					if got := impl.HazardOk(impl.Hazard{Bench: b, Lists: lists}); got != (n == 5 && slices.Equal(all, want)) {
						t.Error("valid?", text, lists, got)
					}
				}
			}
		}
	}
}

// all lists of up to four holds of three objects by two workers
func TestHazardOkSlots(t *testing.T) {
	var holds []impl.Hold
	for _, x := range upTo(3) {
		holds = append(holds, hold(0, x), hold(4, x))
	}
	for _, text := range []string{"linked 1 2 3", "freed 3 1 2"} {
		h := hazard(text)
		for _, h.Bench.Held = range listsOf(holds, 4) {
			d := hazardDiaryOf(h)
			want := !repeats(h.Bench.Held) && d.slotsUsed(0) <= 2 && d.slotsUsed(4) <= 2
			if got := impl.HazardOk(h); got != want {
				t.Error("valid?", h, got)
			}
		}
	}
}

type hazardCase struct {
	before impl.Hazard
	op     impl.Op
	after  impl.Hazard
	result int
}

func checkHazardCases(t *testing.T, cases []hazardCase) {
	t.Helper()
	for _, c := range cases {
		got, result := impl.StepHazard(c.before, c.op)
		if result != c.result || !sameHazard(got, c.after) {
			t.Error(c.op, "on", c.before, "gives", got, result)
		}
		checkStepHazard(t, c.before, c.op)
	}
}

func TestStepHazardHoldsByHand(t *testing.T) {
	mixed := hazard(hazardText, nil, []int{3, 6})
	full := hazard("waiting "+sprint(upTo(60)), upTo(60))
	after := func(text string) impl.Hazard { return hazard(text, nil, []int{3, 6}) }
	checkHazardCases(t, []hazardCase{
		{hazard(""), opMake(), hazard("linked 1"), 1},
		{mixed, opMake(), after("linked 1 4 7 held 0:1 4:3 0:3 2:6 waiting 6 3 freed 5 2"), 7},
		// no T and no X belong to it
		{mixed, opOf(0, -1, 99), after("linked 1 4 7 held 0:1 4:3 0:3 2:6 waiting 6 3 freed 5 2"), 7},
		{mixed, opOf(0, 5, math.MinInt), after("linked 1 4 7 held 0:1 4:3 0:3 2:6 waiting 6 3 freed 5 2"), 7},
		{full, opMake(), full, -1},

		// the number of objects that the worker holds
		{mixed, opTake(4, 4), after("linked 1 4 held 0:1 4:3 0:3 2:6 4:4 waiting 6 3 freed 5 2"), 2},
		{mixed, opTake(1, 1), after("linked 1 4 held 0:1 4:3 0:3 2:6 1:1 waiting 6 3 freed 5 2"), 1},
		{hazard("linked 1 held 0:1 1:1 3:1 4:1"), opTake(2, 1), hazard("linked 1 held 0:1 1:1 3:1 4:1 2:1"), 1},
		// slots that are all used: for what is linked, waits or has been freed
		{mixed, opTake(0, 4), mixed, -1},
		{hazard("linked 1 2 3 held 2:1 2:3"), opTake(2, 2), hazard("linked 1 2 3 held 2:1 2:3"), -1},
		{hazard("linked 1 2 3 held 2:1 2:3"), opTake(3, 2), hazard("linked 1 2 3 held 2:1 2:3 3:2"), 1},
		{hazard("linked 1 2 3 held 2:3"), opTake(2, 2), hazard("linked 1 2 3 held 2:3 2:2"), 2},
		{hazard("linked 3 held 1:1 1:2 freed 1 2"), opTake(1, 3), hazard("linked 3 held 1:1 1:2 freed 1 2"), -1},
		{hazard("linked 3 held 1:2 freed 1 2"), opTake(1, 3), hazard("linked 3 held 1:2 1:3 freed 1 2"), 2},
		{mixed, opTake(0, 1), mixed, -1}, // held already
		{mixed, opTake(1, 6), mixed, -1}, // waiting
		{mixed, opTake(1, 5), mixed, -1}, // freed
		{mixed, opTake(1, 7), mixed, -1}, // not created
		{mixed, opTake(1, 0), mixed, -1},
		{mixed, opTake(5, 1), mixed, -1}, // no worker
		{mixed, opTake(-1, 1), mixed, -1},

		// nothing is freed by a drop
		{mixed, opDrop(2, 6), after("linked 1 4 held 0:1 4:3 0:3 waiting 6 3 freed 5 2"), 0},
		{mixed, opDrop(0, 1), after("linked 1 4 held 4:3 0:3 2:6 waiting 6 3 freed 5 2"), 0},
		{hazard("held 3:1 waiting 1 2 3", upTo(3)), opDrop(3, 1), hazard("waiting 1 2 3", upTo(3)), 0},
		{hazard("held 1:2 0:2 freed 2 1"), opDrop(1, 2), hazard("held 0:2 freed 2 1"), 0},
		{mixed, opDrop(4, 1), mixed, -1}, // another worker's
		{mixed, opDrop(0, 4), mixed, -1}, // nobody's
		{mixed, opDrop(0, 7), mixed, -1}, // not created
		{mixed, opDrop(5, 1), mixed, -1}, // no worker
	})
}

func TestStepHazardCutsByHand(t *testing.T) {
	mixed := hazard(hazardText, nil, []int{3, 6})
	checkHazardCases(t, []hazardCase{
		// too few to scan: they wait, although nobody holds them
		{hazard("linked 1"), opCutBy(4, 1), hazard("waiting 1", nil, nil, nil, nil, []int{1}), 0},
		{hazard("linked 1 waiting 2", []int{2}), opCutBy(0, 1), hazard("waiting 2 1", []int{2, 1}), 0},
		{hazard("linked 1 waiting 2 3", []int{2}, []int{3}), opCutBy(0, 1), hazard("waiting 2 3 1", []int{2, 1}, []int{3}), 0},
		{mixed, opCutBy(0, 4), hazard("linked 1 held 0:1 4:3 0:3 2:6 waiting 6 3 4 freed 5 2", []int{4}, []int{3, 6}), 0},
		// exactly ScanAt: nobody holds any of them, somebody holds some, all are held
		{hazard("linked 1 waiting 2 3", []int{2, 3}), opCutBy(0, 1), hazard("freed 2 3 1"), 3},
		{hazard("linked 1 held 4:3 waiting 2 3", []int{2, 3}), opCutBy(0, 1), hazard("held 4:3 waiting 3 freed 2 1", []int{3}), 2},
		{mixed, opCutBy(1, 4), hazard("linked 1 held 0:1 4:3 0:3 2:6 waiting 6 3 freed 5 2 4", nil, []int{3, 6}), 1},
		{mixed, opCutBy(1, 1), hazard("linked 4 held 0:1 4:3 0:3 2:6 waiting 6 3 1 freed 5 2", nil, []int{3, 6, 1}), 0},
		// a worker's own slots protect as well
		{hazard("linked 1 held 0:1 0:2 waiting 2 3", []int{2, 3}), opCutBy(0, 1), hazard("held 0:1 0:2 waiting 2 1 freed 3", []int{2, 1}), 1},
		// more than ScanAt
		{hazard("linked 5 held 1:4 waiting 1 2 3 4", []int{4, 1, 3, 2}), opCutBy(0, 5), hazard("held 1:4 waiting 4 freed 1 3 2 5", []int{4}), 4},
		{hazard("linked 4 held 1:1 1:2 2:3 waiting 1 2 3", upTo(3)), opCutBy(0, 4), hazard("held 1:1 1:2 2:3 waiting 1 2 3 freed 4", upTo(3)), 1},
		{hazard("linked 4 held 1:1 1:2 2:3 2:4 waiting 1 2 3", upTo(3)), opCutBy(0, 4), hazard("held 1:1 1:2 2:3 2:4 waiting 1 2 3 4", upTo(4)), 0},
		// in the order of the list, not in that of Waiting; the other lists go on waiting
		{hazard("linked 3 waiting 4 5 2 1 freed 6", []int{5}, []int{1, 2}, []int{4}), opCutBy(1, 3), hazard("waiting 4 5 freed 6 1 2 3", []int{5}, nil, []int{4}), 3},
		{hazard("linked 5 waiting 4 3 2 1", []int{1, 2}, []int{3, 4}), opCutBy(2, 5), hazard("waiting 4 3 2 1 5", []int{1, 2}, []int{3, 4}, []int{5}), 0},
		// no worker
		{mixed, opCutBy(5, 4), mixed, -1},
		{mixed, opCutBy(-1, 4), mixed, -1},
		{hazard("linked 1 waiting 2 3", []int{2, 3}), opCutBy(math.MinInt, 1), hazard("linked 1 waiting 2 3", []int{2, 3}), -1},
		{hazard("linked 1 waiting 2 3", []int{2, 3}), opCutBy(math.MaxInt, 1), hazard("linked 1 waiting 2 3", []int{2, 3}), -1},
		// not linked: nothing is scanned either
		{hazard("waiting 2 3 1", upTo(3)), opCutBy(0, 2), hazard("waiting 2 3 1", upTo(3)), -1},
		{mixed, opCutBy(1, 3), mixed, -1}, // waiting
		{mixed, opCutBy(1, 5), mixed, -1}, // freed
		{mixed, opCutBy(1, 7), mixed, -1}, // not created
		{mixed, opCutBy(1, 0), mixed, -1},
		{mixed, opCutBy(1, -1), mixed, -1},
	})
}

func TestStepHazardScansByHand(t *testing.T) {
	mixed := hazard(hazardText, nil, []int{3, 6})
	three := hazard("held 0:2 1:5 waiting 1 2 3 4 5", []int{2, 1}, []int{5, 4, 3})
	checkHazardCases(t, []hazardCase{
		{hazard(""), opScan(0), hazard(""), 0},
		{mixed, opScan(0), mixed, 0}, // nothing in the list
		{mixed, opScan(1), mixed, 0}, // all held
		// also fewer than ScanAt
		{hazard("waiting 1", []int{1}), opScan(0), hazard("freed 1"), 1},
		{three, opScan(0), hazard("held 0:2 1:5 waiting 2 3 4 5 freed 1", []int{2}, []int{5, 4, 3}), 1},
		{three, opScan(1), hazard("held 0:2 1:5 waiting 1 2 5 freed 4 3", []int{2, 1}, []int{5}), 2},
		{three, opOf(6, 1, 99), hazard("held 0:2 1:5 waiting 1 2 5 freed 4 3", []int{2, 1}, []int{5}), 2},
		{three, opScan(2), three, 0},
		{three, opScan(5), three, -1},
		{three, opScan(-1), three, -1},
		// a hold of a freed object protects nothing else
		{hazard("held 2:1 waiting 2 freed 1", nil, nil, nil, []int{2}), opScan(3), hazard("held 2:1 freed 1 2"), 1},
		{hazard("waiting "+sprint(upTo(60)), upTo(60)), opScan(0), hazard("freed " + sprint(upTo(60))), 60},
	})
}

// Kinds 4 and 5 do nothing, and nothing happens for what is no Kind. Three objects wait in each list that nobody holds.
func TestStepHazardOtherKinds(t *testing.T) {
	h := hazard("linked 1 4 held 0:1 4:3 waiting 6 3 7 8 9 10 freed 5 2", []int{7, 6, 8}, nil, nil, []int{9, 10, 3})
	for _, kind := range []int{4, 5, -1, 7, 8, 10, 256, 1 << 32, -4, -6, math.MinInt, math.MinInt + 6, math.MaxInt} {
		for _, worker := range workersAround() {
			want := -1
			if within(kind, 4, 5) && within(worker, 0, 4) {
				want = 0
			}
			for _, x := range objectsAround(h.Bench) {
				got, result := impl.StepHazard(h, opOf(kind, worker, x))
				if result != want || !sameHazard(got, h) {
					t.Error("kind", kind, worker, x, got, result)
				}
			}
		}
	}
	for _, kind := range []int{0, 1, 2, 3, 6} {
		for _, worker := range workersAround() {
			for _, x := range objectsAround(h.Bench) {
				checkStepHazard(t, h, opOf(kind, worker, x))
			}
		}
	}
}

func TestStepHazard(t *testing.T) {
	for _, h := range goodHazards() {
		for _, op := range opsOn(h.Bench) {
			checkStepHazard(t, h, op)
		}
	}
}

// three objects, so that every list can reach ScanAt
func TestStepHazardThreeObjects(t *testing.T) {
	ops := []impl.Op{opMake(), opTake(4, 2), opTake(1, 1), opDrop(0, 3), opScan(4), opCutBy(3, 3)}
	for _, x := range upTo(3) {
		ops = append(ops, opCutBy(0, x), opCutBy(2, x))
	}
	for _, h := range smallHazards(3) {
		for _, op := range ops {
			checkStepHazard(t, h, op)
		}
	}
}

func TestHazardInvalidStates(t *testing.T) {
	for _, h := range badHazards() {
		before := copiedHazard(h)
		ops := []impl.Op{opMake(), opTake(1, 1), opTake(2, 4), opDrop(0, 1), opDrop(4, 3), opCutBy(0, 1), opCutBy(1, 4), opCutBy(2, 3), opOf(4, 0, 0), opOf(5, 1, 0), opScan(0), opScan(1), opScan(4), opScan(5), opOf(7, 0, 0), opOf(math.MinInt, 0, 1)}
		for _, op := range ops {
			after, result := impl.StepHazard(h, op)
			if result != -1 || !sameHazard(after, before) {
				t.Error(op, "on", before, "gives", after, result)
			}
		}
		for _, worker := range workersAround() {
			if got := impl.SlotsFree(h, worker); got != -1 {
				t.Error("slots free", worker, before, got)
			}
		}
		if !sameHazard(h, before) {
			t.Error("argument changed", before, h)
		}
		checkStepHazardMemory(t, h)
	}
}

// roomyHazard gives every list room behind its end, where an append would write.
func roomyHazard(h impl.Hazard) impl.Hazard {
	h = impl.Hazard{Bench: roomy(h.Bench), Lists: slices.Grow(copiedHazard(h).Lists, 3)}
	for i, list := range h.Lists {
		h.Lists[i] = slices.Grow(list, 3)
	}
	return h
}

func hazardWithItsRoom(h impl.Hazard) impl.Hazard {
	h = impl.Hazard{Bench: withItsRoom(h.Bench), Lists: slices.Clone(h.Lists[:cap(h.Lists)])}
	for i, list := range h.Lists {
		h.Lists[i] = list[:cap(list)]
	}
	return h
}

func numberLists(h impl.Hazard) [][]int {
	return append([][]int{h.Bench.Linked, h.Bench.Waiting, h.Bench.Freed}, h.Lists...)
}

// checkOwnHazardMemory reports a result that has memory in common with the state, or a list of it with another one.
func checkOwnHazardMemory(t *testing.T, h impl.Hazard, what any, on func(impl.Hazard) impl.Hazard) {
	t.Helper()
	h = roomyHazard(h)
	before := copiedHazard(hazardWithItsRoom(h))
	wanted := numberLists(on(h))
	for i := range wanted {
		after := on(h)
		lists := numberLists(after)
		spoilNumbers(lists[i])
		for j := range lists {
			if j != i && !slices.Equal(lists[j], wanted[j]) {
				t.Error(what, "gives lists that share memory", h, i, j)
			}
		}
		spoilBench(after.Bench)
		clear(after.Lists[:cap(after.Lists)])
	}
	if !sameHazard(hazardWithItsRoom(h), before) {
		t.Error(what, "shares the memory of its state", before, h)
	}
}

func checkStepHazardMemory(t *testing.T, h impl.Hazard) {
	t.Helper()
	for _, op := range []impl.Op{opMake(), opTake(2, 1), opTake(5, 1), opDrop(0, 1), opDrop(4, 2), opCutBy(0, 1), opCutBy(2, 2), opCutBy(4, 3), opCutBy(5, 1), opScan(0), opScan(2), opScan(4), opOf(4, 0, 0), opOf(7, 0, 0)} {
		checkOwnHazardMemory(t, h, op, func(h impl.Hazard) impl.Hazard {
			after, _ := impl.StepHazard(h, op)
			return after
		})
	}
}

func TestStepHazardSharesNoMemory(t *testing.T) {
	for _, h := range goodHazards() {
		checkStepHazardMemory(t, h)
	}
}

func TestScanListByHand(t *testing.T) {
	const text = "linked 1 4 held 0:1 4:3 0:3 2:6 1:2 waiting 6 3 7 freed 5 2"
	down := upTo(60)
	slices.Reverse(down)
	cases := []struct {
		text       string
		list       []int
		idle, held []int
	}{
		{text, nil, nil, nil},
		{"", nil, nil, nil},
		{text, []int{7}, []int{7}, nil},
		{text, []int{6}, nil, []int{6}},
		{text, []int{3, 7, 6}, []int{7}, []int{3, 6}},
		{text, []int{6, 7, 3}, []int{7}, []int{6, 3}},
		// whatever the list says: linked, freed, not created, repeated
		{text, []int{4, 1, 5, 2}, []int{4, 5}, []int{1, 2}},
		{text, []int{8, 0, -1, 6, 61, math.MinInt, math.MaxInt}, []int{8, 0, -1, 61, math.MinInt, math.MaxInt}, []int{6}},
		{text, []int{7, 3, 7, 3, 7, 7, 3}, []int{7, 7, 7, 7}, []int{3, 3, 3}},
		{"", []int{1, 2, 0}, []int{1, 2, 0}, nil},
		// one worker may hold more than it has slots
		{"linked 1 2 3 4 held 3:4 3:1 3:3", []int{1, 2, 3, 4}, []int{2}, []int{1, 3, 4}},
		// as long as can be
		{"held 0:60 4:1 waiting " + sprint(upTo(60)), down, down[1:59], []int{60, 1}},
		{"linked 1", slices.Repeat([]int{1}, 60), slices.Repeat([]int{1}, 60), nil},
		{"linked 1 held 2:1", slices.Repeat([]int{1}, 60), nil, slices.Repeat([]int{1}, 60)},
		{"held 0:60 4:1 waiting " + sprint(upTo(60)), upTo(61), nil, nil},
		{"linked 1", slices.Repeat([]int{1}, 61), nil, nil},
		{"linked 1 held 2:1", slices.Repeat([]int{1}, 61), nil, nil},
		{"", upTo(1000), nil, nil},
	}
	for _, c := range cases {
		idle, held := impl.ScanList(bench(c.text), c.list)
		if !slices.Equal(idle, c.idle) || !slices.Equal(held, c.held) {
			t.Error("scan", c.text, c.list, idle, held)
		}
	}
}

func checkScanList(t *testing.T, b impl.Bench, list []int) {
	t.Helper()
	benchBefore, listBefore := copiedBench(b), slices.Clone(list)
	var want [2][]int
	for _, x := range list {
		group := min(diaryOf(b).holders(x), 1)
		want[group] = append(want[group], x)
	}
	idle, held := impl.ScanList(b, list)
	if !slices.Equal(idle, want[0]) || !slices.Equal(held, want[1]) {
		t.Error("scan", b, list, idle, held)
	}
	spoilNumbers(idle)
	if !slices.Equal(held, want[1]) {
		t.Error("the results share memory", b, list)
	}
	spoilNumbers(held)
	if !sameBench(b, benchBefore) || !slices.Equal(list, listBefore) {
		t.Error("argument changed", benchBefore, b, listBefore, list)
	}
}

func TestScanList(t *testing.T) {
	short := listsOf([]int{0, 1, 2, 3}, 3)
	for _, b := range goodBenches() {
		lists := [][]int{b.Waiting, b.Linked, b.Freed, slices.Concat(b.Freed, b.Linked, b.Waiting), slices.Repeat([]int{2}, 60)}
		if b.Next == 3 {
			lists = append(lists, short...)
		}
		for _, list := range lists {
			checkScanList(t, b, list)
		}
		if idle, held := impl.ScanList(b, upTo(61)); idle != nil || held != nil {
			t.Error("a list that is too long", b, idle, held)
		}
	}
	for _, b := range badBenches() {
		for _, list := range [][]int{nil, {1}, b.Waiting, upTo(60), upTo(61)} {
			before := copiedBench(b)
			if idle, held := impl.ScanList(b, list); idle != nil || held != nil || !sameBench(b, before) {
				t.Error("an invalid bench", before, b, list, idle, held)
			}
		}
	}
}

func TestSlotsFree(t *testing.T) {
	h := hazard("linked 1 4 held 0:1 4:3 0:3 2:5 2:6 3:2 waiting 6 3 freed 5 2", nil, []int{3, 6})
	for worker, want := range map[int]int{0: 0, 1: 2, 2: 0, 3: 1, 4: 1, 5: -1, -1: -1, 6: -1, math.MinInt: -1, math.MaxInt: -1} {
		if got := impl.SlotsFree(h, worker); got != want {
			t.Error("slots free", worker, got)
		}
	}
	for _, h := range goodHazards() {
		before := copiedHazard(h)
		for _, worker := range workersAround() {
			want := -1
			if within(worker, 0, 4) {
				want = 2 - hazardDiaryOf(h).slotsUsed(worker)
			}
			if got := impl.SlotsFree(h, worker); got != want || !sameHazard(h, before) {
				t.Error("slots free", worker, h, got)
			}
		}
	}
}

func checkPlayHazard(t *testing.T, ops []impl.Op) {
	t.Helper()
	before := slices.Clone(ops)
	d := hazardDiary{}
	want := make([]int, len(ops))
	for i, op := range ops {
		d, want[i] = wantHazard(d, op)
	}
	h, results := impl.PlayHazard(ops)
	if !sameHazard(h, d.hazard()) || !slices.Equal(results, want) {
		t.Error("play", ops, h, results)
	}
	if !impl.HazardOk(h) || !hazardWell(h) {
		t.Error("promise 11 is broken after", ops, h)
	}
	if !slices.Equal(ops, before) {
		t.Error("play changed its operations", before, ops)
	}
}

// checkHazardSteps compares the steps with the play, and checks promise 11 at every moment.
func checkHazardSteps(t *testing.T, ops []impl.Op) {
	t.Helper()
	h := hazard("")
	for _, op := range ops {
		if h = checkStepHazard(t, h, op); !hazardWell(h) {
			t.Error("promise 11 is broken after", op, h)
		}
	}
	if last, _ := impl.PlayHazard(ops); !sameHazard(last, h) {
		t.Error("play", ops, last, h)
	}
}

func TestPlayHazardByHand(t *testing.T) {
	cases := []struct {
		ops  []impl.Op
		want impl.Hazard
		told []int
	}{
		{nil, hazard(""), nil},
		{[]impl.Op{}, hazard(""), nil},
		{[]impl.Op{opMake()}, hazard("linked 1"), []int{1}},
		{[]impl.Op{opMake(), opCutBy(2, 1)}, hazard("waiting 1", nil, nil, []int{1}), []int{1, 0}},
		{[]impl.Op{opMake(), opCutBy(2, 1), opScan(1), opScan(2), opScan(2)}, hazard("freed 1"), []int{1, 0, 0, 1, 0}},
		// the third object of a list
		{[]impl.Op{opMake(), opMake(), opMake(), opCutBy(2, 2), opCutBy(2, 1), opCutBy(2, 3)}, hazard("freed 2 1 3"), []int{1, 2, 3, 0, 0, 3}},
		{[]impl.Op{opMake(), opMake(), opMake(), opCutBy(2, 2), opCutBy(1, 1), opCutBy(2, 3)}, hazard("waiting 2 1 3", nil, []int{1}, []int{2, 3}), []int{1, 2, 3, 0, 0, 0}},
		{[]impl.Op{opMake(), opMake(), opMake(), opTake(0, 2), opCutBy(2, 2), opCutBy(2, 1), opCutBy(2, 3)}, hazard("held 0:2 waiting 2 freed 1 3", nil, nil, []int{2}), []int{1, 2, 3, 1, 0, 0, 2}},
		// a list stays as long as it is held, and is freed by a later scan only
		{
			[]impl.Op{opMake(), opMake(), opMake(), opTake(0, 1), opTake(1, 2), opTake(1, 3), opCutBy(4, 3), opCutBy(4, 1), opCutBy(4, 2), opDrop(1, 3), opDrop(0, 1), opScan(0), opScan(4)},
			hazard("held 1:2 waiting 2 freed 3 1", nil, nil, nil, nil, []int{2}), []int{1, 2, 3, 1, 1, 2, 0, 0, 0, 0, 0, 0, 2},
		},
		// what is refused changes nothing: no object, all slots used, held already, not held, no worker
		{
			[]impl.Op{opTake(0, 1), opCutBy(0, 1), opMake(), opMake(), opMake(), opTake(0, 1), opTake(0, 1), opTake(0, 2), opTake(0, 3), opTake(5, 3), opDrop(1, 1), opCutBy(5, 1), opCutBy(-1, 1), opScan(5), opCutBy(0, 1), opCutBy(0, 1), opDrop(0, 2), opTake(0, 3)},
			hazard("linked 2 3 held 0:1 0:3 waiting 1", []int{1}), []int{-1, -1, 1, 2, 3, 1, -1, 2, -1, -1, -1, -1, -1, -1, 0, -1, 0, 2},
		},
		// no Kind, and Kinds that do nothing, for workers and others
		{
			[]impl.Op{opMake(), {Kind: 7, X: 1}, {Kind: -1, X: 1}, {Kind: 4}, {Kind: 5, X: 1}, {Kind: 4, T: 5}, {Kind: 5, T: -1}, {Kind: 6, T: 5}, {Kind: math.MinInt}, {Kind: math.MaxInt}, opCutBy(3, 1)},
			hazard("waiting 1", nil, nil, nil, []int{1}), []int{1, -1, -1, 0, 0, -1, -1, -1, -1, -1, 0},
		},
	}
	for _, c := range cases {
		h, told := impl.PlayHazard(c.ops)
		if !sameHazard(h, c.want) || !slices.Equal(told, c.told) {
			t.Error("play", c.ops, h, told)
		}
		checkPlayHazard(t, c.ops)
		checkHazardSteps(t, c.ops)
	}
}

// fullSlots has objects 1 to 10 in the slots, two for each worker, and all of them in the list of worker 3.
func fullSlots() []impl.Op {
	ops := slices.Repeat([]impl.Op{opMake()}, 10)
	for _, x := range upTo(10) {
		ops = append(ops, opTake(x%5, x))
	}
	for _, x := range upTo(10) {
		ops = append(ops, opCutBy(3, x))
	}
	return ops
}

// The longest list has Slots·Workers objects. Another object that is cut is freed at once, and what is dropped is freed by the next cut.
func TestHazardLongestList(t *testing.T) {
	ops := fullSlots()
	h, _ := impl.PlayHazard(ops)
	if !slices.Equal(h.Lists[3], upTo(10)) || len(h.Bench.Freed) != 0 {
		t.Error("the longest list", h)
	}
	ops = append(ops, opMake(), opCutBy(3, 11))
	h, told := impl.PlayHazard(ops)
	if !slices.Equal(h.Lists[3], upTo(10)) || !slices.Equal(h.Bench.Freed, []int{11}) || told[31] != 1 {
		t.Error("one more", h, told)
	}
	ops = append(ops, opDrop(0, 5), opDrop(4, 9), opMake(), opTake(4, 12), opCutBy(3, 12))
	h, told = impl.PlayHazard(ops)
	if !slices.Equal(h.Lists[3], []int{1, 2, 3, 4, 6, 7, 8, 10, 12}) || !slices.Equal(h.Bench.Freed, []int{11, 5, 9}) || told[36] != 2 {
		t.Error("two less", h, told)
	}
	ops = append(ops, opMake(), opMake(), opCutBy(0, 13), opCutBy(0, 14))
	checkPlayHazard(t, ops)
	checkHazardSteps(t, ops)
}

// All objects are made, cut by different workers while others hold some, and dropped, until there are MaxOps operations.
func TestPlayHazardUntilTheLimits(t *testing.T) {
	ops := append(fullSlots(), slices.Repeat([]impl.Op{opMake()}, 52)...)
	for x := range 63 {
		ops = append(ops, opCutBy(x*x%7-1, x), opCutBy(x%5, x))
	}
	for _, x := range upTo(10) {
		ops = append(ops, opDrop(x%5, x), opOf(4+x%2, x%6, x))
	}
	for len(ops) < impl.MaxOps {
		checkPlayHazard(t, ops)
		ops = append(ops, opScan(len(ops)%6))
	}
	checkHazardSteps(t, ops)
	h, told := impl.PlayHazard(ops)
	if len(told) != 300 || len(h.Bench.Freed) != 60 || slices.Max(told) != 60 {
		t.Error("play", h, told)
	}
}

func TestPlayHazardRefused(t *testing.T) {
	for _, op := range []impl.Op{opMake(), opScan(0), opOf(4, 0, 0), opOf(7, 0, 0)} {
		for _, size := range []int{301, 302, 1000} {
			h, told := impl.PlayHazard(slices.Repeat([]impl.Op{op}, size))
			if !sameHazard(h, impl.Hazard{}) || told != nil {
				t.Error("too many operations", size, op, h, told)
			}
		}
		for _, size := range []int{299, 300} {
			ops := slices.Repeat([]impl.Op{op}, size)
			if h, told := impl.PlayHazard(ops); len(told) != size || len(h.Lists) != 5 {
				t.Error("refused", size, op)
			}
			checkPlayHazard(t, ops)
		}
	}
}

func TestPlayHazardSharesNoMemory(t *testing.T) {
	ops := append(fullSlots(), opMake(), opMake(), opCutBy(0, 11), opCutBy(1, 12), opDrop(0, 5), opScan(3))
	before := slices.Clone(ops)
	h, told := impl.PlayHazard(ops)
	for _, list := range numberLists(h) {
		spoilNumbers(list)
	}
	spoilNumbers(told)
	if !slices.Equal(ops, before) {
		t.Error("shared with the operations", ops)
	}
	checkPlayHazard(t, ops)
	checkOwnHazardMemory(t, hazard(""), "play", func(impl.Hazard) impl.Hazard {
		h, _ := impl.PlayHazard(ops)
		return h
	})
}

// Promise 11 along all short sequences.
func TestPlayHazardShort(t *testing.T) {
	choice := []impl.Op{opMake(), opTake(0, 1), opTake(0, 3), opTake(4, 2), opDrop(0, 1), opDrop(4, 2), opCutBy(2, 1), opCutBy(2, 2), opCutBy(2, 3), opCutBy(0, 3), opScan(2)}
	for _, ops := range listsOf(choice, 3) {
		checkPlayHazard(t, ops)
	}
	start := []impl.Op{opMake(), opMake(), opMake(), opTake(0, 1), opTake(4, 2)}
	for _, ops := range listsOf(choice, 4) {
		checkPlayHazard(t, slices.Concat(start, ops))
	}
	for _, ops := range listsOf(choice[1:], 3) {
		checkHazardSteps(t, slices.Concat(start, ops))
	}
}

// long sequences, the same ones in every run, up to the longest that is allowed
func TestPlayHazardLong(t *testing.T) {
	source := rand.New(rand.NewPCG(11, 12))
	cutFreed, scanFreed, noSlot, longest := 0, 0, 0, 0
	for range 60 {
		d := hazardDiary{}
		ops := someOps(source, impl.MaxOps, []int{0, 0, 1, 1, 1, 2, 3, 3, 3, 4, 5, 6}, func(op impl.Op) diary {
			if op.Kind == 1 && d.slotsUsed(op.T) == 2 {
				noSlot++
			}
			next, result := wantHazard(d, op)
			if op.Kind == 3 && result > 0 {
				cutFreed++
			}
			if op.Kind == 6 && result > 0 {
				scanFreed++
			}
			d = next
			for worker := range 5 {
				longest = max(longest, len(d.list(worker)))
			}
			return d.diary
		})
		checkHazardSteps(t, ops)
		for size := 0; size <= impl.MaxOps; size += 50 {
			checkPlayHazard(t, ops[:size])
		}
	}
	if cutFreed < 200 || scanFreed < 200 || noSlot < 200 || longest < 3 {
		t.Error("the sequences do too little", cutFreed, scanFreed, noSlot, longest)
	}
}

// The workers that publish at the same time are not seen: many calls at once give what one call gives, and leave no worker behind.
func TestHazardCallsAtOnce(t *testing.T) {
	ops := append(fullSlots(), opDrop(0, 5), opDrop(4, 9), opDrop(3, 8), opScan(3))
	b := bench("held 0:1 4:3 0:3 2:6 1:2 waiting 6 3 7 1 4 freed 5 2")
	want, told := impl.PlayHazard(ops)
	running := runtime.NumGoroutine()
	var calls sync.WaitGroup
	for range 50 {
		calls.Go(func() {
			for range 20 {
				if h, again := impl.PlayHazard(ops); !sameHazard(h, want) || !slices.Equal(again, told) {
					t.Error("play", h, again)
				}
				if idle, held := impl.ScanList(b, []int{6, 7, 3, 1, 4}); !slices.Equal(idle, []int{7, 4}) || !slices.Equal(held, []int{6, 3, 1}) {
					t.Error("scan", idle, held)
				}
			}
		})
	}
	calls.Wait()
	// A goroutine that has done its work may take a moment to end.
	for wait := 0; runtime.NumGoroutine() > running; wait++ {
		if wait == 1_000_000 {
			t.Fatal("goroutines left", runtime.NumGoroutine(), running)
		}
		runtime.Gosched()
	}
}
