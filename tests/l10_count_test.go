package tests

import (
	"math"
	"math/rand/v2"
	"slices"
	"testing"

	"loop.example/g00712/impl"
)

func opOf(kind int, t int, x int) impl.Op { return impl.Op{Kind: kind, T: t, X: x} }

func opMake() impl.Op { return opOf(0, 0, 0) }

func opTake(t int, x int) impl.Op { return opOf(1, t, x) }

func opDrop(t int, x int) impl.Op { return opOf(2, t, x) }

func opCut(x int) impl.Op { return opOf(3, 0, x) }

func (d diary) countHolds(which func(impl.Hold) bool) int {
	n := 0
	for _, h := range d.takes {
		if which(h) {
			n++
		}
	}
	return n
}

func (d diary) holders(x int) int {
	return d.countHolds(func(h impl.Hold) bool { return h.X == x })
}

// freedIfIdle is the diary after x was given up by somebody.
func (d diary) freedIfIdle(x int) (diary, int) {
	if !d.cut(x) || d.freed(x) || d.holders(x) > 0 {
		return d, 0
	}
	return doFreeSome(x).writtenIn(d)
}

// wantCount is what the diary says of an operation of the scheme.
func wantCount(d diary, op impl.Op) (diary, int) {
	var done int
	switch op.Kind {
	case 0:
		return doMake().writtenIn(d)
	case 1:
		if d, done = doTake(op.T, op.X).writtenIn(d); done == 1 {
			return d, d.holders(op.X)
		}
	case 2:
		if d, done = doDrop(op.T, op.X).writtenIn(d); done == 1 {
			return d.freedIfIdle(op.X)
		}
	case 3:
		if d, done = doCut(op.X).writtenIn(d); done == 1 {
			return d.freedIfIdle(op.X)
		}
	case 4, 5, 6:
		if within(op.T, 0, 4) {
			return d, 0
		}
	}
	return d, -1
}

// wantCountPlay also gives the bench from before the first operation, and from after each.
func wantCountPlay(ops []impl.Op) ([]impl.Bench, []int) {
	d := diary{}
	benches, results := []impl.Bench{d.bench()}, make([]int, len(ops))
	for i, op := range ops {
		d, results[i] = wantCount(d, op)
		benches = append(benches, d.bench())
	}
	return benches, results
}

// countedWell is what promise 10 says of a bench.
func countedWell(b impl.Bench) bool {
	held := func(x int) bool {
		return slices.ContainsFunc(b.Held, func(h impl.Hold) bool { return h.X == x })
	}
	idle := func(x int) bool { return !held(x) }
	return !slices.ContainsFunc(b.Waiting, idle) && !slices.ContainsFunc(b.Freed, held)
}

func checkStepCount(t *testing.T, b impl.Bench, op impl.Op) impl.Bench {
	t.Helper()
	before := copiedBench(b)
	d, want := wantCount(diaryOf(b), op)
	after, got := impl.StepCount(b, op)
	if got != want || !sameBench(after, d.bench()) {
		t.Error(op, "on", before, "gives", after, got)
	}
	if countedWell(before) && (!countedWell(after) || !impl.SafeBench(after) || len(impl.ZeroLeft(after)) > 0) {
		t.Error(op, "on", before, "breaks promise 10", after)
	}
	if !sameBench(b, before) {
		t.Error(op, "changed its bench", before, b)
	}
	return after
}

// opsOn are operations that are possible, and ones with one thing wrong.
func opsOn(b impl.Bench) []impl.Op {
	objects := []int{0, 1, 2, 3, b.Next, 60, 61}
	slices.Sort(objects)
	var list []impl.Op
	for _, kind := range []int{-1, 0, 1, 2, 3, 4, 5, 6, 7} {
		for _, worker := range []int{-1, 0, 2, 4, 5} {
			for _, x := range slices.Compact(objects) {
				list = append(list, opOf(kind, worker, x))
			}
		}
	}
	return list
}

func TestCountLimits(t *testing.T) {
	if impl.MaxOps != 300 {
		t.Error("limit", impl.MaxOps)
	}
}

func TestStepCountByHand(t *testing.T) {
	const mixed = "linked 1 4 held 0:1 4:3 0:3 2:6 waiting 6 3 freed 5 2"
	all := sprint(upTo(60))
	cases := []struct {
		text   string
		op     impl.Op
		want   string
		result int
	}{
		{"", opMake(), "linked 1", 1},
		{mixed, opMake(), "linked 1 4 7 held 0:1 4:3 0:3 2:6 waiting 6 3 freed 5 2", 7},
		// no T and no X belong to it
		{mixed, opOf(0, -1, 99), "linked 1 4 7 held 0:1 4:3 0:3 2:6 waiting 6 3 freed 5 2", 7},
		{mixed, opOf(0, 5, math.MinInt), "linked 1 4 7 held 0:1 4:3 0:3 2:6 waiting 6 3 freed 5 2", 7},
		{"waiting " + all, opMake(), "waiting " + all, -1},

		// the number of workers that hold it
		{mixed, opTake(4, 4), "linked 1 4 held 0:1 4:3 0:3 2:6 4:4 waiting 6 3 freed 5 2", 1},
		{mixed, opTake(4, 1), "linked 1 4 held 0:1 4:3 0:3 2:6 4:1 waiting 6 3 freed 5 2", 2},
		{"linked 1 held 0:1 1:1 3:1 4:1", opTake(2, 1), "linked 1 held 0:1 1:1 3:1 4:1 2:1", 5},
		{"linked 1 2 held 3:1 3:2", opTake(0, 2), "linked 1 2 held 3:1 3:2 0:2", 2},
		{mixed, opTake(0, 1), mixed, -1}, // held already
		{mixed, opTake(1, 6), mixed, -1}, // waiting
		{mixed, opTake(1, 5), mixed, -1}, // freed
		{mixed, opTake(1, 7), mixed, -1}, // not created
		{mixed, opTake(1, 0), mixed, -1},
		{mixed, opTake(5, 1), mixed, -1}, // no worker
		{mixed, opTake(-1, 1), mixed, -1},

		// the last holder that drops an object
		{mixed, opDrop(2, 6), "linked 1 4 held 0:1 4:3 0:3 waiting 3 freed 5 2 6", 1},
		{"held 3:1 waiting 1", opDrop(3, 1), "freed 1", 1},
		{"held 3:1 2:1 waiting 1", opDrop(3, 1), "held 2:1 waiting 1", 0},
		{"held 3:1 2:1 waiting 1", opDrop(2, 1), "held 3:1 waiting 1", 0},
		{mixed, opDrop(4, 3), "linked 1 4 held 0:1 0:3 2:6 waiting 6 3 freed 5 2", 0},
		// what is linked stays, and what has been freed is not freed again
		{mixed, opDrop(0, 1), "linked 1 4 held 4:3 0:3 2:6 waiting 6 3 freed 5 2", 0},
		{"linked 1 held 1:1 2:1", opDrop(1, 1), "linked 1 held 2:1", 0},
		{"held 1:2 freed 2 1", opDrop(1, 2), "freed 2 1", 0},
		{"held 1:2 0:2 freed 2 1", opDrop(1, 2), "held 0:2 freed 2 1", 0},
		// only X is freed, although nobody holds the others either
		{"held 1:2 waiting 3 2 1", opDrop(1, 2), "waiting 3 1 freed 2", 1},
		{"linked 1 held 1:1 waiting 3 2", opDrop(1, 1), "linked 1 waiting 3 2", 0},
		{mixed, opDrop(4, 1), mixed, -1}, // another worker's
		{mixed, opDrop(0, 6), mixed, -1},
		{mixed, opDrop(0, 4), mixed, -1}, // nobody's
		{mixed, opDrop(0, 5), mixed, -1},
		{mixed, opDrop(0, 7), mixed, -1}, // not created
		{mixed, opDrop(5, 1), mixed, -1}, // no worker

		// an object that nobody holds and that is unlinked
		{mixed, opCut(4), "linked 1 held 0:1 4:3 0:3 2:6 waiting 6 3 freed 5 2 4", 1},
		{"linked 1", opCut(1), "freed 1", 1},
		{"linked 1 2 3 held 4:1 4:3", opCut(2), "linked 1 3 held 4:1 4:3 freed 2", 1},
		{"linked 1 waiting 3 2", opCut(1), "waiting 3 2 freed 1", 1},
		{mixed, opCut(1), "linked 4 held 0:1 4:3 0:3 2:6 waiting 6 3 1 freed 5 2", 0},
		// nobody unlinks it in particular
		{"linked 1", opOf(3, -1, 1), "freed 1", 1},
		{"linked 1 held 0:1", opOf(3, 5, 1), "held 0:1 waiting 1", 0},
		{"linked 1", opOf(3, math.MaxInt, 1), "freed 1", 1},
		{mixed, opCut(3), mixed, -1}, // waiting
		{mixed, opCut(5), mixed, -1}, // freed
		{mixed, opCut(7), mixed, -1}, // not created
		{mixed, opCut(0), mixed, -1},
		{mixed, opCut(-1), mixed, -1},
	}
	for _, c := range cases {
		got, result := impl.StepCount(bench(c.text), c.op)
		if result != c.result || !sameBench(got, bench(c.want)) {
			t.Error(c.op, "on", c.text, "gives", got, result)
		}
		checkStepCount(t, bench(c.text), c.op)
	}
}

// Nothing happens for the Kinds that this scheme has no use for, nor for what is no Kind. Something waits that nobody holds.
func TestStepCountOtherKinds(t *testing.T) {
	b := bench("linked 1 4 held 0:1 4:3 waiting 6 3 freed 5 2")
	for _, kind := range []int{4, 5, 6, -1, 7, 8, 10, 256, 1 << 32, -4, math.MinInt, math.MinInt + 4, math.MaxInt} {
		for _, worker := range workersAround() {
			want := -1
			if within(kind, 4, 6) && within(worker, 0, 4) {
				want = 0
			}
			for _, x := range objectsAround(b) {
				got, result := impl.StepCount(b, opOf(kind, worker, x))
				if result != want || !sameBench(got, b) {
					t.Error("kind", kind, worker, x, got, result)
				}
			}
		}
	}
	for _, kind := range []int{1, 2, 3} {
		for _, worker := range workersAround() {
			for _, x := range objectsAround(b) {
				checkStepCount(t, b, opOf(kind, worker, x))
			}
		}
	}
}

func TestStepCount(t *testing.T) {
	for _, b := range goodBenches() {
		for _, op := range opsOn(b) {
			checkStepCount(t, b, op)
		}
	}
}

func TestCountInvalidBenches(t *testing.T) {
	for _, b := range badBenches() {
		before := copiedBench(b)
		for _, op := range append(opsOn(b), opOf(math.MinInt, 0, 1), opOf(math.MaxInt, 0, 1)) {
			after, result := impl.StepCount(b, op)
			if result != -1 || !sameBench(after, before) {
				t.Error(op, "on", before, "gives", after, result)
			}
		}
		for _, x := range objectsAround(b) {
			if got := impl.CountOf(b, x); got != -1 {
				t.Error("count", x, before, got)
			}
		}
		if got := impl.ZeroLeft(b); got != nil || !sameBench(b, before) {
			t.Error("zero left", before, b, got)
		}
		checkStepCountMemory(t, b)
	}
}

func checkStepCountMemory(t *testing.T, b impl.Bench) {
	t.Helper()
	for _, op := range []impl.Op{opMake(), opTake(2, 1), opTake(5, 1), opDrop(0, 1), opDrop(4, 2), opCut(1), opCut(3), opCut(61), opOf(4, 0, 0), opOf(6, 5, 0), opOf(7, 0, 0)} {
		checkOwnMemory(t, b, op, func(b impl.Bench) impl.Bench {
			after, _ := impl.StepCount(b, op)
			return after
		})
	}
}

func TestStepCountSharesNoMemory(t *testing.T) {
	for _, b := range append(smallBenches(3), largeBenches()...) {
		checkStepCountMemory(t, b)
	}
}

func TestCountOfByHand(t *testing.T) {
	const mixed = "linked 1 4 held 0:1 4:3 0:3 2:6 3:1 waiting 6 7 3 freed 5 2"
	for _, text := range []string{mixed, mixed + " held 1:2"} {
		want := map[int]int{1: 3, 2: 0, 3: 2, 4: 1, 5: 0, 6: 1, 7: 0}
		if text != mixed {
			want[2] = 1 // a hold counts, whatever has become of the object
		}
		for _, x := range []int{-1, 0, 1, 2, 3, 4, 5, 6, 7, 8, 9, 60, 61, 62, math.MinInt, math.MaxInt} {
			n, created := want[x]
			if !created {
				n = -1
			}
			if got := impl.CountOf(bench(text), x); got != n {
				t.Error("count", text, x, got)
			}
		}
	}
	if got := impl.CountOf(bench("linked 1 held 0:1 1:1 2:1 3:1 4:1"), 1); got != 6 {
		t.Error("count of what all hold", got)
	}
	for _, x := range []int{-1, 0, 1} {
		if got := impl.CountOf(bench(""), x); got != -1 {
			t.Error("count where nothing was created", x, got)
		}
	}
}

func TestZeroLeftByHand(t *testing.T) {
	cases := []struct {
		text string
		want []int
	}{
		{"", nil},
		{"linked 1 2 freed 3", nil},
		{"waiting 1", []int{1}},
		{"held 0:1 waiting 1", nil},
		{"held 0:3 waiting 5 3 1 4 2", []int{5, 1, 4, 2}},
		{"linked 2 held 0:3 4:3 2:4 2:2 waiting 5 3 1 4", []int{5, 1}},
		{"linked 1 held 0:3 4:2 waiting 2 3 freed 4", nil},
		{"held 0:1 waiting 2 3 freed 1", []int{2, 3}},
	}
	for _, c := range cases {
		if got := impl.ZeroLeft(bench(c.text)); !slices.Equal(got, c.want) {
			t.Error("zero left", c.text, got)
		}
	}
}

func TestCountOfAndZeroLeft(t *testing.T) {
	for _, b := range goodBenches() {
		before := copiedBench(b)
		d := diaryOf(b)
		for _, x := range objectsAround(b) {
			want := -1
			if within(x, 1, d.made) {
				want = d.holders(x)
			}
			if d.linked(x) {
				want++
			}
			if got := impl.CountOf(b, x); got != want {
				t.Error("count", x, b, got)
			}
		}
		var idle []int
		for _, x := range b.Waiting {
			if d.holders(x) == 0 {
				idle = append(idle, x)
			}
		}
		got := impl.ZeroLeft(b)
		if !slices.Equal(got, idle) {
			t.Error("zero left", b, got)
		}
		if spoilNumbers(got); !sameBench(b, before) {
			t.Error("argument changed", before, b)
		}
	}
}

func checkPlayCount(t *testing.T, ops []impl.Op) {
	t.Helper()
	before := slices.Clone(ops)
	benches, want := wantCountPlay(ops)
	b, results := impl.PlayCount(ops)
	if !sameBench(b, benches[len(ops)]) || !slices.Equal(results, want) {
		t.Error("play", ops, b, results)
	}
	if !countedWell(b) || !impl.BenchOk(b) || !impl.SafeBench(b) || len(impl.ZeroLeft(b)) > 0 {
		t.Error("promise 10 is broken after", ops, b)
	}
	if !slices.Equal(ops, before) {
		t.Error("play changed its operations", before, ops)
	}
}

// checkCountSteps compares the steps with the play, and checks promise 10 at every moment.
func checkCountSteps(t *testing.T, ops []impl.Op) {
	t.Helper()
	benches, want := wantCountPlay(ops)
	b := impl.Bench{Next: 1}
	for i, op := range ops {
		var got int
		b, got = impl.StepCount(b, op)
		if got != want[i] || !sameBench(b, benches[i+1]) {
			t.Error(op, "on", benches[i], "gives", b, got)
		}
		if !countedWell(b) || !impl.SafeBench(b) || len(impl.ZeroLeft(b)) > 0 {
			t.Error("promise 10 is broken after", ops[:i+1], b)
		}
	}
	if last, _ := impl.PlayCount(ops); !sameBench(last, b) {
		t.Error("play", ops, last, b)
	}
}

func TestPlayCountByHand(t *testing.T) {
	cases := []struct {
		ops  []impl.Op
		want string
		told []int
	}{
		{nil, "", nil},
		{[]impl.Op{}, "", nil},
		{[]impl.Op{opMake()}, "linked 1", []int{1}},
		// an object that nobody holds, and one that its last holder drops
		{[]impl.Op{opMake(), opCut(1)}, "freed 1", []int{1, 1}},
		{[]impl.Op{opMake(), opTake(3, 1), opCut(1)}, "held 3:1 waiting 1", []int{1, 1, 0}},
		{[]impl.Op{opMake(), opTake(3, 1), opCut(1), opDrop(3, 1)}, "freed 1", []int{1, 1, 0, 1}},
		{[]impl.Op{opMake(), opTake(3, 1), opDrop(3, 1), opCut(1)}, "freed 1", []int{1, 1, 0, 1}},
		{[]impl.Op{opMake(), opTake(3, 1), opTake(0, 1), opCut(1), opDrop(3, 1), opDrop(0, 1)}, "freed 1", []int{1, 1, 2, 0, 0, 1}},
		// taken, dropped and taken again
		{[]impl.Op{opMake(), opTake(1, 1), opDrop(1, 1), opTake(1, 1), opTake(2, 1), opCut(1), opDrop(1, 1)}, "held 2:1 waiting 1", []int{1, 1, 0, 1, 2, 0, 0}},
		// freed in another order than unlinked
		{
			[]impl.Op{opMake(), opMake(), opMake(), opTake(0, 1), opTake(0, 2), opCut(1), opCut(2), opCut(3), opDrop(0, 2), opDrop(0, 1)},
			"freed 3 2 1", []int{1, 2, 3, 1, 1, 0, 0, 1, 1, 1},
		},
		// what is refused changes nothing: no object, not linked, held already or not held
		{
			[]impl.Op{opTake(0, 1), opCut(1), opMake(), opTake(0, 1), opTake(0, 1), opDrop(1, 1), opCut(1), opCut(1), opTake(1, 1), opDrop(0, 1), opDrop(0, 1), opCut(1)},
			"freed 1", []int{-1, -1, 1, 1, -1, -1, 0, -1, -1, 1, -1, -1},
		},
		// no Kind, and Kinds that do nothing, for workers and others
		{
			[]impl.Op{opMake(), opTake(0, 1), {Kind: 7, X: 1}, {Kind: -1, X: 1}, {Kind: 4}, {Kind: 5, X: 1}, {Kind: 6, T: 4}, {Kind: 4, T: 5}, {Kind: 5, T: -1}, {Kind: 6, T: 5}, {Kind: math.MinInt}, {Kind: math.MaxInt}, opCut(1)},
			"held 0:1 waiting 1", []int{1, 1, -1, -1, 0, 0, 0, -1, -1, -1, -1, -1, 0},
		},
	}
	for _, c := range cases {
		b, told := impl.PlayCount(c.ops)
		if !sameBench(b, bench(c.want)) || !slices.Equal(told, c.told) {
			t.Error("play", c.ops, b, told)
		}
		checkPlayCount(t, c.ops)
		checkCountSteps(t, c.ops)
	}
}

// All objects are made, all workers hold all that they can, and everything is unlinked and dropped, until there are MaxOps operations.
func TestPlayCountUntilTheLimits(t *testing.T) {
	var ops []impl.Op
	for range 62 {
		ops = append(ops, opMake())
	}
	for _, x := range []int{60, 59, 1, 2, 30} {
		for worker := range 5 {
			ops = append(ops, opTake(worker, x))
		}
	}
	for x := range 63 {
		ops = append(ops, opCut(x))
	}
	for _, x := range []int{1, 60, 30, 59, 2} {
		for worker := range 6 {
			ops = append(ops, opDrop(4-worker, x))
		}
	}
	b, told := impl.PlayCount(ops)
	made, frees := upTo(60), []int{}
	for _, x := range made {
		if !slices.Contains([]int{60, 59, 1, 2, 30}, x) {
			frees = append(frees, x)
		}
	}
	want := impl.Bench{Freed: append(frees, 1, 60, 30, 59, 2), Next: 61}
	if !sameBench(b, want) || !slices.Equal(told[:62], append(made, -1, -1)) {
		t.Error("play", b, told)
	}
	for len(ops) < impl.MaxOps {
		checkPlayCount(t, ops)
		ops = append(ops, opMake())
	}
	checkCountSteps(t, ops)
}

func TestPlayCountRefused(t *testing.T) {
	for _, size := range []int{301, 302, 1000} {
		for _, op := range []impl.Op{opMake(), opOf(4, 0, 0), opOf(7, 0, 0)} {
			b, told := impl.PlayCount(slices.Repeat([]impl.Op{op}, size))
			if !sameBench(b, impl.Bench{}) || told != nil {
				t.Error("too many operations", size, op, b, told)
			}
		}
	}
	for _, size := range []int{299, 300} {
		for _, op := range []impl.Op{opMake(), opOf(4, 0, 0), opOf(7, 0, 0)} {
			ops := slices.Repeat([]impl.Op{op}, size)
			if _, told := impl.PlayCount(ops); len(told) != size {
				t.Error("refused", size, op)
			}
			checkPlayCount(t, ops)
		}
	}
}

func TestPlayCountSharesNoMemory(t *testing.T) {
	ops := []impl.Op{opMake(), opMake(), opMake(), opTake(0, 1), opTake(1, 2), opCut(1), opCut(3)}
	before := slices.Clone(ops)
	b, told := impl.PlayCount(ops)
	spoilBench(b)
	spoilNumbers(told)
	if !slices.Equal(ops, before) {
		t.Error("shared with the operations", ops)
	}
	checkPlayCount(t, ops)
	checkOwnMemory(t, impl.Bench{}, "play", func(impl.Bench) impl.Bench {
		b, _ := impl.PlayCount(ops)
		return b
	})
}

// Promise 10 along all short sequences.
func TestPlayCountShort(t *testing.T) {
	choice := []impl.Op{opMake(), opTake(0, 1), opTake(4, 1), opTake(0, 2), opDrop(0, 1), opDrop(4, 1), opDrop(0, 2), opCut(1), opCut(2), opOf(6, 0, 1)}
	for _, ops := range listsOf(choice, 4) {
		checkPlayCount(t, ops)
		checkPlayCount(t, slices.Concat([]impl.Op{opMake(), opMake(), opTake(0, 1), opTake(4, 1)}, ops))
	}
	for _, ops := range listsOf(choice, 3) {
		checkCountSteps(t, slices.Concat([]impl.Op{opMake(), opMake(), opTake(4, 1), opTake(0, 2)}, ops))
	}
}

// someOps are operations of the kinds, now and then of another one, on the objects that there may be, above all the newest ones, and drops of holds that there are. The diary is that after an operation.
func someOps(source *rand.Rand, size int, kinds []int, after func(impl.Op) diary) []impl.Op {
	ops := make([]impl.Op, size)
	d := diary{}
	for i := range ops {
		kind := kinds[source.IntN(len(kinds))]
		if source.IntN(20) == 0 {
			kind = source.IntN(13) - 3
		}
		worker := source.IntN(5)
		if source.IntN(20) == 0 {
			worker = source.IntN(9) - 2
		}
		ops[i] = opOf(kind, worker, max(d.made-source.IntN(4)+1, source.IntN(3)-1))
		if kind == 2 && len(d.takes) > 0 && source.IntN(3) > 0 {
			h := d.takes[source.IntN(len(d.takes))]
			ops[i] = opDrop(h.T, h.X)
		}
		d = after(ops[i])
	}
	return ops
}

// long sequences, the same ones in every run, up to the longest that is allowed
func TestPlayCountLong(t *testing.T) {
	source := rand.New(rand.NewPCG(10, 10))
	lastDropped, cutIdle := 0, 0
	for range 60 {
		d := diary{}
		ops := someOps(source, impl.MaxOps, []int{0, 1, 1, 1, 1, 2, 2, 2, 2, 3, 4, 5, 6}, func(op impl.Op) diary {
			d, _ = wantCount(d, op)
			return d
		})
		checkCountSteps(t, ops)
		for size := 0; size <= impl.MaxOps; size += 50 {
			checkPlayCount(t, ops[:size])
		}
		_, told := wantCountPlay(ops)
		for i, op := range ops {
			if op.Kind == 2 && told[i] == 1 {
				lastDropped++
			}
			if op.Kind == 3 && told[i] == 1 {
				cutIdle++
			}
		}
	}
	if lastDropped < 200 || cutIdle < 200 {
		t.Error("the sequences do too little", lastDropped, cutIdle)
	}
}
