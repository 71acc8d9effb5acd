package tests

import (
	"cmp"
	"math"
	"math/rand/v2"
	"slices"
	"testing"

	"loop.example/g00712/impl"
)

func ref(obj int, gen int) impl.Ref { return impl.Ref{Obj: obj, Gen: gen} }

// heap makes a valid heap of one number for each object: the Gen of a live one, minus the Gen of one that is not, and 0 for one that was never allocated.
func heap(marks ...int) impl.Heap {
	h := impl.Heap{Gens: make([]int, len(marks)), Live: make([]bool, len(marks))}
	for i, mark := range marks {
		h.Gens[i], h.Live[i] = max(mark, -mark), mark > 0
	}
	return h
}

func sameHeap(a impl.Heap, b impl.Heap) bool {
	return slices.Equal(a.Gens, b.Gens) && slices.Equal(a.Live, b.Live)
}

func copiedHeap(h impl.Heap) impl.Heap {
	return impl.Heap{Gens: slices.Clone(h.Gens), Live: slices.Clone(h.Live)}
}

// spoilHeap writes wherever the heap has memory, also behind its end.
func spoilHeap(h impl.Heap) {
	for i := range h.Gens[:cap(h.Gens)] {
		h.Gens[:cap(h.Gens)][i] = -77
	}
	for i, live := range h.Live[:cap(h.Live)] {
		h.Live[:cap(h.Live)][i] = !live
	}
}

// all lists of up to three marks, and lists of all sizes
func goodMarks() [][]int {
	list := [][]int{}
	longer := [][]int{{}}
	for range 3 {
		shorter := longer
		longer = nil
		for _, marks := range shorter {
			for _, mark := range []int{0, 1, -1, 2, -2, 999999, -999999, 1000000, -1000000} {
				longer = append(longer, append(slices.Clone(marks), mark))
			}
		}
		list = append(list, longer...)
	}
	for n := 4; n <= impl.MaxObj; n++ {
		lastFree, lastLive, mixed := slices.Repeat([]int{3}, n), make([]int, n), make([]int, n)
		lastFree[n-1], lastLive[n-1] = -2, 1
		for i := range mixed {
			mixed[i] = (i%7 - 2) * (i + 1)
		}
		list = append(list, make([]int, n), slices.Repeat([]int{1}, n), slices.Repeat([]int{-1000000}, n), lastFree, lastLive, mixed)
	}
	return list
}

// heaps with another number of flags, too few or too many objects, a Gen out of range, and a live object that was never allocated
func badHeaps() []impl.Heap {
	list := []impl.Heap{
		{}, heap(),
		{Gens: []int{1}}, {Live: []bool{false}}, {Live: []bool{true}},
		{Gens: []int{1, 2}, Live: []bool{true}}, {Gens: []int{0, 0}, Live: []bool{false}},
		{Gens: []int{1}, Live: []bool{true, false}}, {Gens: []int{0, 1}, Live: []bool{false, true, false}},
		{Gens: make([]int, impl.MaxObj), Live: make([]bool, impl.MaxObj-1)},
		{Gens: make([]int, impl.MaxObj), Live: make([]bool, impl.MaxObj+1)},
		{Gens: make([]int, impl.MaxObj+1), Live: make([]bool, impl.MaxObj)},
		heap(make([]int, impl.MaxObj+1)...), heap(slices.Repeat([]int{1}, impl.MaxObj+1)...), heap(slices.Repeat([]int{-1}, 1000)...),
	}
	for place := range 3 {
		for _, gen := range []int{-1, -2, impl.MaxGen + 1, math.MinInt, math.MaxInt} {
			for _, live := range []bool{false, true} {
				h := heap(1, -1, 2)
				h.Gens[place], h.Live[place] = gen, live
				list = append(list, h)
			}
		}
		neverAllocated := heap(1, -1, 2)
		neverAllocated.Gens[place], neverAllocated.Live[place] = 0, true
		list = append(list, neverAllocated)
	}
	last := heap(make([]int, impl.MaxObj)...)
	last.Live[impl.MaxObj-1] = true
	return append(list, last)
}

// references to each object, and to numbers that are none, with generations near those that it has had
func refsAround(h impl.Heap) []impl.Ref {
	gens := []int{-1, 0, 1, 2, 3, 999999, 1000000, 1000001, math.MinInt, math.MaxInt}
	objs := []int{-1, -2, len(h.Gens), len(h.Gens) + 1, impl.MaxObj, math.MinInt, math.MaxInt}
	for i := range h.Gens {
		objs = append(objs, i)
	}
	var list []impl.Ref
	for _, obj := range objs {
		for _, gen := range gens {
			list = append(list, ref(obj, gen))
		}
		if within(obj, 0, len(h.Gens)-1) {
			list = append(list, ref(obj, h.Gens[obj]), ref(obj, h.Gens[obj]-1), ref(obj, h.Gens[obj]+1), ref(obj, -h.Gens[obj]))
		}
	}
	return list
}

func wantGood(marks []int, r impl.Ref) bool {
	return within(r.Obj, 0, len(marks)-1) && r.Gen > 0 && marks[r.Obj] == r.Gen
}

func wantAlloc(marks []int) ([]int, impl.Ref, bool) {
	for i, mark := range marks {
		if mark > 0 {
			continue
		}
		if mark == -1000000 {
			return marks, ref(0, 0), false
		}
		after := slices.Clone(marks)
		after[i] = 1 - mark
		return after, ref(i, 1-mark), true
	}
	return marks, ref(0, 0), false
}

func wantFree(marks []int, r impl.Ref) ([]int, int) {
	if !within(r.Obj, 0, len(marks)-1) {
		return marks, 1
	}
	if !wantGood(marks, r) {
		return marks, 2
	}
	after := slices.Clone(marks)
	after[r.Obj] = -r.Gen
	return after, 0
}

func wantLive(marks []int) []impl.Ref {
	var list []impl.Ref
	for i, mark := range marks {
		if mark > 0 {
			list = append(list, ref(i, mark))
		}
	}
	return list
}

func wantReuses(marks []int) int {
	n := 0
	for _, mark := range marks {
		n += max(mark, -mark, 1) - 1
	}
	return n
}

func TestHeapLimits(t *testing.T) {
	if impl.MaxObj != 24 || impl.MaxGen != 1000000 {
		t.Error("limits", impl.MaxObj, impl.MaxGen)
	}
	if impl.HeapDone != 0 || impl.HeapBad != 1 || impl.HeapStale != 2 {
		t.Error("codes", impl.HeapDone, impl.HeapBad, impl.HeapStale)
	}
}

func TestHeapOk(t *testing.T) {
	for _, marks := range goodMarks() {
		if !impl.HeapOk(heap(marks...)) {
			t.Error("valid heap refused", marks)
		}
	}
	for _, h := range badHeaps() {
		if impl.HeapOk(h) {
			t.Error("invalid heap accepted", h)
		}
	}
}

func TestNewHeap(t *testing.T) {
	for n := 1; n <= impl.MaxObj; n++ {
		h, ok := impl.NewHeap(n)
		if !ok || !sameHeap(h, heap(make([]int, n)...)) || !impl.HeapOk(h) {
			t.Error("new", n, h, ok)
		}
		spoilHeap(h)
		if again, _ := impl.NewHeap(n); !sameHeap(again, heap(make([]int, n)...)) {
			t.Error("new heaps share memory", n, again)
		}
	}
	for _, n := range []int{0, -1, impl.MaxObj + 1, 1000, math.MinInt, math.MaxInt} {
		h, ok := impl.NewHeap(n)
		if ok || h.Gens != nil || h.Live != nil {
			t.Error("new accepts", n, h, ok)
		}
	}
}

// checkArgument reports a heap that is no longer what it was before the call, or after its result was written to.
func checkArgument(t *testing.T, what string, h impl.Heap, before impl.Heap, result impl.Heap) {
	t.Helper()
	if !sameHeap(h, before) {
		t.Error(what, "changed its argument", before, h)
	}
	spoilHeap(result)
	if !sameHeap(h, before) {
		t.Error(what, "shares the memory of its argument", before)
	}
}

func TestAllocObj(t *testing.T) {
	for _, marks := range goodMarks() {
		h := heap(marks...)
		wantMarks, wantRef, wantOk := wantAlloc(marks)
		got, r, ok := impl.AllocObj(h)
		if ok != wantOk || r != wantRef || !sameHeap(got, heap(wantMarks...)) {
			t.Error("alloc", marks, got, r, ok)
		}
		if ok && !impl.GoodRef(got, r) {
			t.Error("the reference is not good", marks, got, r)
		}
		checkArgument(t, "alloc", h, heap(marks...), got)
	}
}

func TestAllocObjByHand(t *testing.T) {
	cases := []struct {
		marks, want []int
		r           impl.Ref
		ok          bool
	}{
		{[]int{0}, []int{1}, ref(0, 1), true},
		{[]int{0, 0, 0}, []int{1, 0, 0}, ref(0, 1), true},
		{[]int{1, 0, -4}, []int{1, 1, -4}, ref(1, 1), true},
		{[]int{7, 3, -4}, []int{7, 3, 5}, ref(2, 5), true},
		{[]int{-999999}, []int{1000000}, ref(0, 1000000), true},
		// all live
		{[]int{1}, []int{1}, ref(0, 0), false},
		{[]int{2, 1000000, 1}, []int{2, 1000000, 1}, ref(0, 0), false},
		// The smallest one that is not live has had its last generation, and the next one does not take its place.
		{[]int{-1000000}, []int{-1000000}, ref(0, 0), false},
		{[]int{3, -1000000, 0}, []int{3, -1000000, 0}, ref(0, 0), false},
		{[]int{0, -1000000}, []int{1, -1000000}, ref(0, 1), true},
		{[]int{1000000, 0}, []int{1000000, 1}, ref(1, 1), true},
	}
	for _, c := range cases {
		got, r, ok := impl.AllocObj(heap(c.marks...))
		if ok != c.ok || r != c.r || !sameHeap(got, heap(c.want...)) {
			t.Error("alloc", c.marks, got, r, ok)
		}
	}
}

func TestGoodRef(t *testing.T) {
	for _, marks := range goodMarks() {
		h := heap(marks...)
		for _, r := range refsAround(h) {
			if got := impl.GoodRef(h, r); got != wantGood(marks, r) {
				t.Error("good", marks, r, got)
			}
		}
		if !sameHeap(h, heap(marks...)) {
			t.Error("argument changed", marks, h)
		}
	}
}

func TestFreeObj(t *testing.T) {
	for _, marks := range goodMarks() {
		h := heap(marks...)
		for _, r := range refsAround(h) {
			wantMarks, want := wantFree(marks, r)
			got, code := impl.FreeObj(h, r)
			if code != want || !sameHeap(got, heap(wantMarks...)) {
				t.Error("free", marks, r, got, code)
			}
			if impl.GoodRef(got, r) {
				t.Error("still good", marks, r, got)
			}
			checkArgument(t, "free", h, heap(marks...), got)
		}
	}
}

func TestFreeObjByHand(t *testing.T) {
	cases := []struct {
		marks []int
		r     impl.Ref
		want  []int
		code  int
	}{
		{[]int{1}, ref(0, 1), []int{-1}, impl.HeapDone},
		{[]int{5, 1000000, 5}, ref(1, 1000000), []int{5, -1000000, 5}, impl.HeapDone},
		// an object that was never allocated: the generation agrees, but nothing is live
		{[]int{0}, ref(0, 0), []int{0}, impl.HeapStale},
		{[]int{1, 0}, ref(1, 0), []int{1, 0}, impl.HeapStale},
		{[]int{1, 0}, ref(1, 1), []int{1, 0}, impl.HeapStale},
		// generation 0, an earlier, a later and a freed one
		{[]int{1}, ref(0, 0), []int{1}, impl.HeapStale},
		{[]int{3}, ref(0, 2), []int{3}, impl.HeapStale},
		{[]int{3}, ref(0, 4), []int{3}, impl.HeapStale},
		{[]int{3}, ref(0, -3), []int{3}, impl.HeapStale},
		{[]int{-3}, ref(0, 3), []int{-3}, impl.HeapStale},
		{[]int{-3}, ref(0, 0), []int{-3}, impl.HeapStale},
		// no object of the heap
		{[]int{1, 1}, ref(2, 1), []int{1, 1}, impl.HeapBad},
		{[]int{1, 1}, ref(2, 0), []int{1, 1}, impl.HeapBad},
		{[]int{1, 1}, ref(-1, 1), []int{1, 1}, impl.HeapBad},
		{[]int{1, 1}, ref(math.MinInt, 1), []int{1, 1}, impl.HeapBad},
		{[]int{1, 1}, ref(math.MaxInt, 1), []int{1, 1}, impl.HeapBad},
	}
	for _, c := range cases {
		got, code := impl.FreeObj(heap(c.marks...), c.r)
		if code != c.code || !sameHeap(got, heap(c.want...)) {
			t.Error("free", c.marks, c.r, got, code)
		}
	}
}

func TestLiveRefs(t *testing.T) {
	for _, marks := range goodMarks() {
		h := heap(marks...)
		got := impl.LiveRefs(h)
		if !slices.Equal(got, wantLive(marks)) {
			t.Error("live", marks, got)
		}
		clear(got)
		if !sameHeap(h, heap(marks...)) || !slices.Equal(impl.LiveRefs(h), wantLive(marks)) {
			t.Error("argument or a later result changed", marks, h)
		}
	}
}

func TestReuses(t *testing.T) {
	cases := []struct {
		marks []int
		want  int
	}{
		{[]int{0}, 0},
		{make([]int, impl.MaxObj), 0},
		{[]int{1}, 0},
		{[]int{-1}, 0},
		{[]int{1, 0, -1}, 0},
		{[]int{2, 0, -3, 0, 1}, 3},
		{[]int{0, 1000000}, 999999},
		{slices.Repeat([]int{-1000000}, impl.MaxObj), 24 * 999999},
	}
	for _, c := range cases {
		if got := impl.Reuses(heap(c.marks...)); got != c.want {
			t.Error("reuses", c.marks, got)
		}
	}
	for _, marks := range goodMarks() {
		h := heap(marks...)
		if got := impl.Reuses(h); got != wantReuses(marks) || !sameHeap(h, heap(marks...)) {
			t.Error("reuses", marks, h, got)
		}
	}
}

func TestInvalidHeaps(t *testing.T) {
	for _, h := range badHeaps() {
		before := copiedHeap(h)
		got, r, ok := impl.AllocObj(h)
		if ok || r != ref(0, 0) || !sameHeap(got, before) {
			t.Error("alloc", before, got, r, ok)
		}
		checkArgument(t, "alloc", h, before, got)
		for _, r := range refsAround(h) {
			if impl.GoodRef(h, r) {
				t.Error("good", before, r)
			}
			got, code := impl.FreeObj(h, r)
			if code != impl.HeapBad || !sameHeap(got, before) {
				t.Error("free", before, r, got, code)
			}
			checkArgument(t, "free", h, before, got)
		}
		if impl.LiveRefs(h) != nil || impl.Reuses(h) != -1 || !sameHeap(h, before) {
			t.Error("live or reuses", before, h, impl.LiveRefs(h), impl.Reuses(h))
		}
	}
}

// A ledger is a heap with all references that were allocated on it, and which of them were freed. It knows no generations.
type ledger struct {
	h     impl.Heap
	refs  []impl.Ref
	freed []bool
}

func (l ledger) alloc() (ledger, bool) {
	h, r, ok := impl.AllocObj(l.h)
	if !ok {
		return ledger{h: h, refs: l.refs, freed: l.freed}, false
	}
	return ledger{h: h, refs: append(slices.Clone(l.refs), r), freed: append(slices.Clone(l.freed), false)}, true
}

func (l ledger) free(i int) (ledger, int) {
	h, code := impl.FreeObj(l.h, l.refs[i])
	freed := slices.Clone(l.freed)
	freed[i] = true
	return ledger{h: h, refs: l.refs, freed: freed}, code
}

func (l ledger) unfreed() []impl.Ref {
	var list []impl.Ref
	for i, r := range l.refs {
		if !l.freed[i] {
			list = append(list, r)
		}
	}
	slices.SortFunc(list, func(a impl.Ref, b impl.Ref) int { return cmp.Compare(a.Obj, b.Obj) })
	return list
}

// check asks for every reference there could be so far whether it is good, and not only for those that were allocated.
func (l ledger) check(t *testing.T) {
	t.Helper()
	valid := l.unfreed()
	if !impl.HeapOk(l.h) || !slices.Equal(impl.LiveRefs(l.h), valid) {
		t.Error("live", l, impl.LiveRefs(l.h))
	}
	for obj := -1; obj <= len(l.h.Gens); obj++ {
		for gen := -1; gen <= len(l.refs)+1; gen++ {
			if got := impl.GoodRef(l.h, ref(obj, gen)); got != slices.Contains(valid, ref(obj, gen)) {
				t.Error("good", l, ref(obj, gen), got)
			}
		}
	}
	for i, r := range l.refs {
		if slices.Contains(l.refs[:i], r) {
			t.Error("the same reference twice", l, r)
		}
	}
}

func newLedger(t *testing.T, n int) ledger {
	t.Helper()
	h, ok := impl.NewHeap(n)
	if !ok {
		t.Fatal("no heap", n)
	}
	return ledger{h: h}
}

// Promise 8 after every sequence of allocations and of frees of each reference that there was, also of those that were freed before.
func TestFreedRefsStayInvalid(t *testing.T) {
	for n := 1; n <= 3; n++ {
		list := []ledger{newLedger(t, n)}
		for range 6 {
			var next []ledger
			for _, l := range list {
				l.check(t)
				after, ok := l.alloc()
				if ok != (len(l.unfreed()) < n) {
					t.Error("alloc", l, after, ok)
				}
				next = append(next, after)
				for i, freed := range l.freed {
					after, code := l.free(i)
					if freed != (code == impl.HeapStale) || freed == (code == impl.HeapDone) {
						t.Error("free", l, i, code)
					}
					next = append(next, after)
				}
			}
			list = next
		}
		for _, l := range list {
			l.check(t)
		}
	}
}

func TestFreedRefsStayInvalidHoweverOftenReused(t *testing.T) {
	l := newLedger(t, 1)
	for round := range 300 {
		if got := impl.Reuses(l.h); got != max(round-1, 0) {
			t.Error("reuses", round, got)
		}
		l, _ = l.alloc()
		after, code := l.free(round)
		if !slices.Equal(impl.LiveRefs(l.h), []impl.Ref{ref(0, round+1)}) || code != impl.HeapDone {
			t.Fatal("alloc or free", round, l.h, code)
		}
		for i, r := range after.refs {
			if impl.GoodRef(after.h, r) || i < round && impl.GoodRef(l.h, r) {
				t.Fatal("good again", round, r)
			}
		}
		l = after
	}
}

// At MaxGen an object is used up, so that no generation comes back.
func TestLastGeneration(t *testing.T) {
	h := heap(5, -impl.MaxGen+2, 0)
	for _, gen := range []int{impl.MaxGen - 1, impl.MaxGen} {
		next, r, ok := impl.AllocObj(h)
		if !ok || r != ref(1, gen) || !impl.GoodRef(next, r) {
			t.Error("alloc", h, next, r, ok)
		}
		next, code := impl.FreeObj(next, r)
		if code != impl.HeapDone || impl.GoodRef(next, r) {
			t.Error("free", next, r, code)
		}
		h = next
	}
	last, r, ok := impl.AllocObj(h)
	if ok || r != ref(0, 0) || !sameHeap(last, heap(5, -impl.MaxGen, 0)) || impl.Reuses(last) != 4+impl.MaxGen-1 {
		t.Error("alloc", h, last, r, ok)
	}
}

func doAlloc() impl.HeapOp { return impl.HeapOp{Kind: 0} }

func doFree(pick int) impl.HeapOp { return impl.HeapOp{Kind: 1, Pick: pick} }

func doCheck(pick int) impl.HeapOp { return impl.HeapOp{Kind: 2, Pick: pick} }

// wantHeapPlay keeps the objects of the references and which of those were freed, and counts how often an object was given out.
func wantHeapPlay(n int, ops []impl.HeapOp) (impl.Heap, []int) {
	marks := make([]int, n)
	var objs, results []int
	var freed []bool
	for _, op := range ops {
		result := 1
		named := within(op.Pick, 0, len(objs)-1)
		switch {
		case op.Kind == 0:
			result = slices.IndexFunc(marks, func(mark int) bool { return mark <= 0 })
			if result >= 0 {
				marks[result] = 1 - marks[result]
				objs, freed = append(objs, result), append(freed, false)
			}
		case op.Kind == 1 && named && freed[op.Pick], op.Kind == 2 && named && freed[op.Pick]:
			result = 2
		case op.Kind == 1 && named:
			result = 0
			freed[op.Pick] = true
			marks[objs[op.Pick]] *= -1
		case op.Kind == 2 && named:
			result = 0
		}
		results = append(results, result)
	}
	return heap(marks...), results
}

func checkPlay(t *testing.T, n int, ops []impl.HeapOp) {
	t.Helper()
	before := slices.Clone(ops)
	wantHeap, wantResults := wantHeapPlay(n, ops)
	h, results := impl.PlayHeap(n, ops)
	if !sameHeap(h, wantHeap) || !slices.Equal(results, wantResults) {
		t.Error("play", n, ops, h, results)
	}
	if !slices.Equal(ops, before) {
		t.Error("play changed its operations", before, ops)
	}
}

func TestPlayHeapByHand(t *testing.T) {
	cases := []struct {
		n    int
		ops  []impl.HeapOp
		want impl.Heap
		told []int
	}{
		{3, nil, heap(0, 0, 0), nil},
		{1, []impl.HeapOp{doAlloc()}, heap(1), []int{0}},
		{3, []impl.HeapOp{doAlloc(), doAlloc(), doFree(0), doAlloc(), doAlloc()}, heap(2, 1, 1), []int{0, 1, 0, 0, 2}},
		// A failing allocation gives no reference, so the next one has the next index.
		{1, []impl.HeapOp{doAlloc(), doAlloc(), doCheck(1), doFree(0), doAlloc(), doCheck(0), doCheck(1), doCheck(2)}, heap(2), []int{0, -1, 1, 0, 0, 2, 0, 1}},
		// The first reference is stale, whatever its object is used for.
		{1, []impl.HeapOp{doAlloc(), doFree(0), doFree(0), doCheck(0), doAlloc(), doFree(0), doCheck(0), doCheck(1)}, heap(2), []int{0, 0, 2, 2, 0, 2, 2, 0}},
		// no reference with that index, whether or not its object exists
		{2, []impl.HeapOp{doFree(0), doCheck(0), doAlloc(), doFree(1), doCheck(1), doFree(-1), doCheck(-1)}, heap(1, 0), []int{1, 1, 0, 1, 1, 1, 1}},
		{2, []impl.HeapOp{doAlloc(), doFree(math.MinInt), doCheck(math.MaxInt), doFree(math.MaxInt), doCheck(math.MinInt)}, heap(1, 0), []int{0, 1, 1, 1, 1}},
		// no Kind, with and without a reference
		{2, []impl.HeapOp{{Kind: 3}, {Kind: -1}, doAlloc(), {Kind: 3}, {Kind: -1}, {Kind: 3, Pick: 5}, {Kind: math.MinInt}, {Kind: math.MaxInt}, doCheck(0)}, heap(1, 0), []int{1, 1, 0, 1, 1, 1, 1, 1, 0}},
		// An allocation has no use for Pick.
		{2, []impl.HeapOp{{Pick: 7}, {Pick: -1}, {Pick: math.MaxInt}}, heap(1, 1), []int{0, 1, -1}},
	}
	for _, c := range cases {
		h, told := impl.PlayHeap(c.n, c.ops)
		if !sameHeap(h, c.want) || !slices.Equal(told, c.told) {
			t.Error("play", c.n, c.ops, h, told)
		}
		checkPlay(t, c.n, c.ops)
	}
}

// all short sequences
func TestPlayHeapShort(t *testing.T) {
	choice := []impl.HeapOp{doAlloc(), doFree(0), doFree(1), doFree(2), doCheck(0), doCheck(1), {Kind: 3}, doCheck(-1)}
	list := [][]impl.HeapOp{nil}
	for range 4 {
		var longer [][]impl.HeapOp
		for _, ops := range list {
			for _, op := range choice {
				longer = append(longer, append(slices.Clone(ops), op))
			}
		}
		for _, ops := range longer {
			checkPlay(t, 1, ops)
			checkPlay(t, 2, append([]impl.HeapOp{doAlloc(), doAlloc(), doFree(0)}, ops...))
		}
		list = longer
	}
}

func longOps(source *rand.Rand, size int) []impl.HeapOp {
	ops := make([]impl.HeapOp, size)
	for i := range ops {
		ops[i] = impl.HeapOp{Kind: []int{0, 0, 1, 1, 1, 2, 3}[source.IntN(7)], Pick: source.IntN(i/2+2) - 1}
	}
	return ops
}

// long sequences, the same ones in every run, up to the longest that is allowed
func TestPlayHeapLong(t *testing.T) {
	source := rand.New(rand.NewPCG(8, 8))
	for n := 1; n <= impl.MaxObj; n++ {
		for range 10 {
			ops := longOps(source, impl.MaxList)
			checkPlay(t, n, ops)
			checkPlay(t, n, ops[:impl.MaxList-1])
		}
	}
}

// PlayHeap is AllocObj, FreeObj and GoodRef in a row, and the references of the long sequences keep promise 8.
func TestPlayHeapAgainstItsParts(t *testing.T) {
	source := rand.New(rand.NewPCG(8, 9))
	for n := 1; n <= impl.MaxObj; n += 4 {
		l := newLedger(t, n)
		ops := longOps(source, 100)
		for i, op := range ops {
			if op.Kind == 0 {
				l, _ = l.alloc()
			} else if op.Kind == 1 && within(op.Pick, 0, len(l.refs)-1) {
				l, _ = l.free(op.Pick)
			}
			l.check(t)
			if h, _ := impl.PlayHeap(n, ops[:i+1]); !sameHeap(h, l.h) {
				t.Error("play", n, ops[:i+1], h, l.h)
			}
		}
	}
}

func TestPlayHeapRefused(t *testing.T) {
	ops := []impl.HeapOp{doAlloc(), doCheck(0)}
	checkRefused := func(n int, ops []impl.HeapOp) {
		t.Helper()
		h, results := impl.PlayHeap(n, ops)
		if h.Gens != nil || h.Live != nil || results != nil {
			t.Error("play accepts", n, len(ops), h, results)
		}
	}
	for _, n := range []int{0, -1, impl.MaxObj + 1, math.MinInt, math.MaxInt} {
		checkRefused(n, ops)
		checkRefused(n, nil)
	}
	for _, size := range []int{impl.MaxList + 1, impl.MaxList + 2, 1000} {
		checkRefused(2, make([]impl.HeapOp, size))
		checkRefused(0, make([]impl.HeapOp, size))
	}
	checkPlay(t, 2, make([]impl.HeapOp, impl.MaxList))
}

func TestPlayHeapSharesNoMemory(t *testing.T) {
	ops := []impl.HeapOp{doAlloc(), doAlloc(), doFree(0), doAlloc(), doCheck(0)}
	h, results := impl.PlayHeap(3, ops)
	spoilHeap(h)
	clear(results)
	checkPlay(t, 3, ops)
	if want := []impl.HeapOp{doAlloc(), doAlloc(), doFree(0), doAlloc(), doCheck(0)}; !slices.Equal(ops, want) {
		t.Error("shared with the operations", ops)
	}
}

// The argument has room behind its end, where a change in place or an append would write.
func TestHeapResultsLeaveRoomAlone(t *testing.T) {
	room := heap(1, -2, 3, 4)
	h := impl.Heap{Gens: room.Gens[:2], Live: room.Live[:2]}
	first, r, _ := impl.AllocObj(h)
	second, _ := impl.FreeObj(first, r)
	third, _ := impl.FreeObj(first, ref(9, 9))
	full, _, _ := impl.AllocObj(first)
	spoilHeap(second)
	spoilHeap(third)
	spoilHeap(full)
	if !sameHeap(first, heap(1, 3)) || r != ref(1, 3) {
		t.Error("results share memory", first, r)
	}
	spoilHeap(first)
	if !sameHeap(room, heap(1, -2, 3, 4)) {
		t.Error("shared with the argument", room)
	}
}
