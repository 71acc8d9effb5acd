package tests

import (
	"fmt"
	"math"
	"math/rand/v2"
	"slices"
	"strconv"
	"strings"
	"testing"

	"loop.example/g00712/impl"
)

func hold(t int, x int) impl.Hold { return impl.Hold{T: t, X: x} }

// bench reads a text like that of BenchText, in which the objects may stand in any order and repeatedly. Next is one more than their number.
func bench(text string) impl.Bench {
	b := impl.Bench{Next: 1}
	var list *[]int
	for _, word := range strings.Fields(text) {
		switch word {
		case "linked":
			list = &b.Linked
			continue
		case "waiting":
			list = &b.Waiting
			continue
		case "freed":
			list = &b.Freed
			continue
		case "held":
			continue
		}
		worker, object, isHold := strings.Cut(word, ":")
		if isHold {
			b.Held = append(b.Held, hold(number(worker), number(object)))
			continue
		}
		*list = append(*list, number(word))
		b.Next++
	}
	return b
}

func number(word string) int {
	n, err := strconv.Atoi(word)
	if err != nil {
		panic("the test has a word that is no number: " + word)
	}
	return n
}

func sameBench(a impl.Bench, b impl.Bench) bool {
	return slices.Equal(a.Linked, b.Linked) && slices.Equal(a.Held, b.Held) &&
		slices.Equal(a.Waiting, b.Waiting) && slices.Equal(a.Freed, b.Freed) && a.Next == b.Next
}

func copiedBench(b impl.Bench) impl.Bench {
	return impl.Bench{
		Linked: slices.Clone(b.Linked), Held: slices.Clone(b.Held),
		Waiting: slices.Clone(b.Waiting), Freed: slices.Clone(b.Freed), Next: b.Next,
	}
}

// spoilBench writes wherever the bench has memory, also behind its end.
func spoilBench(b impl.Bench) {
	for _, list := range [][]int{b.Linked, b.Waiting, b.Freed} {
		spoilNumbers(list)
	}
	for i := range b.Held[:cap(b.Held)] {
		b.Held[:cap(b.Held)][i] = hold(-77, -77)
	}
}

func spoilNumbers(list []int) {
	for i := range list[:cap(list)] {
		list[:cap(list)][i] = -77
	}
}

// listsOf gives all lists of up to size elements of choice, with repetition.
func listsOf[T any](choice []T, size int) [][]T {
	all := [][]T{nil}
	longest := all
	for range size {
		var longer [][]T
		for _, list := range longest {
			for _, v := range choice {
				longer = append(longer, append(slices.Clone(list), v))
			}
		}
		all = append(all, longer...)
		longest = longer
	}
	return all
}

func repeats[T comparable](list []T) bool {
	for i, v := range list {
		if slices.Contains(list[:i], v) {
			return true
		}
	}
	return false
}

func upTo(n int) []int {
	list := make([]int, n)
	for i := range list {
		list[i] = i + 1
	}
	return list
}

// wantBenchOk sorts the objects, which must then be those that have been created.
func wantBenchOk(b impl.Bench) bool {
	all := slices.Concat(b.Linked, b.Waiting, b.Freed)
	slices.Sort(all)
	if !within(b.Next, 1, 61) || !slices.Equal(all, upTo(b.Next-1)) || !slices.IsSorted(b.Linked) || repeats(b.Held) {
		return false
	}
	for _, h := range b.Held {
		if !within(h.T, 0, 4) || !within(h.X, 1, b.Next-1) {
			return false
		}
	}
	return true
}

// placements gives all ways to distribute objects, in the order of the list, over Waiting, Freed and Linked.
func placements(order []int) []impl.Bench {
	var list []impl.Bench
	for last := range len(order) + 1 {
		for first := range last + 1 {
			b := impl.Bench{Waiting: order[:first], Freed: order[first:last], Linked: order[last:], Next: len(order) + 1}
			if slices.IsSorted(b.Linked) {
				list = append(list, b)
			}
		}
	}
	return list
}

func smallBenches(n int) []impl.Bench {
	var holds []impl.Hold
	for _, x := range upTo(n) {
		holds = append(holds, hold(0, x), hold(4, x))
	}
	var list []impl.Bench
	for _, order := range listsOf(upTo(n), n) {
		if len(order) < n || repeats(order) {
			continue
		}
		for _, b := range placements(order) {
			for _, b.Held = range listsOf(holds, 2) {
				if !repeats(b.Held) {
					list = append(list, copiedBench(b))
				}
			}
		}
	}
	return list
}

// largeBenches have all objects made, or all but one: linked, waiting or freed, or all mixed, with no holds and with all that there can be.
func largeBenches() []impl.Bench {
	var list []impl.Bench
	for n := 59; n <= 60; n++ {
		down := upTo(n)
		slices.Reverse(down)
		var all []impl.Hold
		mixed := impl.Bench{Next: n + 1}
		for _, x := range down {
			for t := range 5 {
				all = append(all, hold((t+x)%5, x))
			}
			switch x % 3 {
			case 0:
				mixed.Linked = append([]int{x}, mixed.Linked...)
			case 1:
				mixed.Waiting = append(mixed.Waiting, x)
			case 2:
				mixed.Freed = append(mixed.Freed, x)
			}
		}
		for _, b := range []impl.Bench{{Linked: upTo(n)}, {Waiting: down}, {Freed: down}, mixed} {
			b.Next = n + 1
			list = append(list, copiedBench(b))
			b.Held = all
			list = append(list, copiedBench(b))
		}
	}
	return list
}

// all ways to place up to three objects, with up to two holds of two workers, and the large benches
func goodBenches() []impl.Bench {
	list := largeBenches()
	for n := range 4 {
		list = append(list, smallBenches(n)...)
	}
	return list
}

const goodText = "linked 1 4 held 0:1 4:3 0:2 waiting 6 3 freed 5 2"

// badBenches have something wrong: Next, a lost or a repeated object, one that was not created, the order of Linked, or a hold.
func badBenches() []impl.Bench {
	list := []impl.Bench{{}, {Next: -1}, {Next: 2}, {Next: 61}, {Next: 62}, {Linked: upTo(61), Next: 62}, {Freed: upTo(1000), Next: 1001}}
	for _, next := range []int{-1, 0, 1, 5, 6, 8, 61, 62, math.MinInt, math.MinInt + 1, math.MaxInt} {
		b := bench(goodText)
		b.Next = next
		list = append(list, b)
	}
	for _, text := range []string{
		"linked 4 1 waiting 6 3 freed 5 2", "linked 2 1", "linked 1 3 2", "linked 2 3 1",
		"linked 1 1", "waiting 1 1", "freed 1 1", "linked 1 waiting 1", "linked 1 freed 1", "waiting 1 freed 1",
		"linked 1 2 2", "linked 1 1 2", "waiting 2 1 2", "freed 1 2 1", "linked 1 2 waiting 2", "linked 1 2 freed 1", "waiting 2 1 freed 2",
		"linked 1 waiting 1 freed 1", "linked 1 2 3 waiting 1 2 3 freed 1 2 3",
		"linked 0", "waiting 0", "freed 0", "linked 0 1", "waiting 1 0", "freed 0 1", "linked -1 1", "waiting -1", "freed 1 -1",
		"linked 2", "waiting 2", "freed 2", "linked 1 3", "waiting 3 1", "freed 61", "linked 1 2 4", "freed 9223372036854775807", "waiting -9223372036854775808",
	} {
		// As many have been created as are listed, or all up to the largest of these.
		b := bench(text)
		list = append(list, b)
		largest := slices.Max(slices.Concat(b.Linked, b.Waiting, b.Freed))
		b.Next = min(max(largest, 0), 60) + 1
		list = append(list, b)
	}
	for _, text := range []string{
		"held 0:1", "held 0:0", "linked 1 held 0:0", "linked 1 held 0:2", "linked 1 held 0:-1", "linked 1 held 0:61", "linked 1 held 0:9223372036854775807", "linked 1 held 0:-9223372036854775808",
		"linked 1 held -1:1", "linked 1 held 5:1", "linked 1 held 6:1", "linked 1 held 9223372036854775807:1", "linked 1 held -9223372036854775808:1",
		"linked 1 held 0:1 0:1", "linked 1 held 4:1 4:1", "waiting 1 held 0:1 0:1", "freed 1 held 0:1 0:1", "linked 1 2 held 3:2 3:1 3:2", "linked 1 held 0:1 1:1 2:1 3:1 4:1 0:1",
		goodText + " held 5:1", goodText + " held 0:7", goodText + " held 0:1",
	} {
		list = append(list, bench(text))
	}
	return list
}

// A diary is what was done to a bench: how many objects were made, the holds that were taken and not dropped since, and the objects in the order in which they were cut and freed. The bench follows from it.
type diary struct {
	made  int
	takes []impl.Hold
	cuts  []int
	frees []int
}

func diaryOf(b impl.Bench) diary {
	return diary{made: b.Next - 1, takes: b.Held, cuts: slices.Concat(b.Freed, b.Waiting), frees: b.Freed}
}

func (d diary) cut(x int) bool { return slices.Contains(d.cuts, x) }

func (d diary) freed(x int) bool { return slices.Contains(d.frees, x) }

func (d diary) linked(x int) bool { return within(x, 1, d.made) && !d.cut(x) }

func (d diary) bench() impl.Bench {
	b := impl.Bench{Held: d.takes, Freed: d.frees, Next: d.made + 1}
	for _, x := range upTo(d.made) {
		if !d.cut(x) {
			b.Linked = append(b.Linked, x)
		}
	}
	for _, x := range d.cuts {
		if !d.freed(x) {
			b.Waiting = append(b.Waiting, x)
		}
	}
	return b
}

func (d diary) safe() bool {
	for _, h := range d.takes {
		if d.freed(h.X) {
			return false
		}
	}
	return true
}

// An action is a call of a function that changes a bench. The result of MakeObj is a number, that of the others 1 or 0.
type action struct {
	name string
	t, x int
	list []int
}

func doMake() action { return action{name: "make"} }

func doTake(t int, x int) action { return action{name: "take", t: t, x: x} }

func doDrop(t int, x int) action { return action{name: "drop", t: t, x: x} }

func doCut(x int) action { return action{name: "cut", x: x} }

func doFreeSome(list ...int) action { return action{name: "free", list: list} }

func (a action) on(b impl.Bench) (impl.Bench, int) {
	var ok bool
	switch a.name {
	case "make":
		return impl.MakeObj(b)
	case "take":
		b, ok = impl.TakeHold(b, a.t, a.x)
	case "drop":
		b, ok = impl.DropHold(b, a.t, a.x)
	case "cut":
		b, ok = impl.CutObj(b, a.x)
	case "free":
		b, ok = impl.FreeSome(b, a.list)
	}
	if ok {
		return b, 1
	}
	return b, 0
}

// refused is the result of the action where it fails.
func (a action) refused() int {
	if a.name == "make" {
		return -1
	}
	return 0
}

func (a action) possible(d diary) bool {
	held := slices.Contains(d.takes, hold(a.t, a.x))
	switch a.name {
	case "make":
		return d.made < 60
	case "take":
		return within(a.t, 0, 4) && d.linked(a.x) && !held
	case "drop":
		return held
	case "cut":
		return d.linked(a.x)
	}
	for _, x := range a.list {
		if !d.cut(x) || d.freed(x) {
			return false
		}
	}
	return !repeats(a.list)
}

func (a action) writtenIn(d diary) (diary, int) {
	if !a.possible(d) {
		return d, a.refused()
	}
	switch a.name {
	case "make":
		d.made++
		return d, d.made
	case "take":
		d.takes = append(slices.Clone(d.takes), hold(a.t, a.x))
	case "drop":
		var left []impl.Hold
		for _, h := range d.takes {
			if h != hold(a.t, a.x) {
				left = append(left, h)
			}
		}
		d.takes = left
	case "cut":
		d.cuts = append(slices.Clone(d.cuts), a.x)
	case "free":
		d.frees = slices.Concat(d.frees, a.list)
	}
	return d, 1
}

// checkAction compares an action with what the diary says of it, and returns both afterwards.
func checkAction(t *testing.T, d diary, b impl.Bench, a action) (diary, impl.Bench) {
	t.Helper()
	d, want := a.writtenIn(d)
	before := copiedBench(b)
	list := slices.Clone(a.list)
	after, got := a.on(b)
	if got != want || !sameBench(after, d.bench()) {
		t.Error(a, "on", before, "gives", after, got)
	}
	if !sameBench(b, before) || !slices.Equal(a.list, list) {
		t.Error(a, "changed its arguments", before, b, a.list)
	}
	return d, after
}

// roomy gives every list room behind its end, where an append would write.
func roomy(b impl.Bench) impl.Bench {
	b = copiedBench(b)
	b.Linked, b.Waiting, b.Freed = slices.Grow(b.Linked, 3), slices.Grow(b.Waiting, 3), slices.Grow(b.Freed, 3)
	b.Held = slices.Grow(b.Held, 3)
	return b
}

func withItsRoom(b impl.Bench) impl.Bench {
	b.Linked, b.Waiting, b.Freed = b.Linked[:cap(b.Linked)], b.Waiting[:cap(b.Waiting)], b.Freed[:cap(b.Freed)]
	b.Held = b.Held[:cap(b.Held)]
	return b
}

// checkOwnMemory reports a result that has memory in common with the bench, or a list of it with another one.
func checkOwnMemory(t *testing.T, b impl.Bench, what any, on func(impl.Bench) impl.Bench) {
	t.Helper()
	b = roomy(b)
	before := copiedBench(withItsRoom(b))
	want := on(b)
	for i := range 3 {
		after := on(b)
		lists := [][]int{after.Linked, after.Waiting, after.Freed}
		wanted := [][]int{want.Linked, want.Waiting, want.Freed}
		spoilNumbers(lists[i])
		for j := range lists {
			if j != i && !slices.Equal(lists[j], wanted[j]) {
				t.Error(what, "gives lists that share memory", b, i, j)
			}
		}
		spoilBench(after)
	}
	if !sameBench(withItsRoom(b), before) {
		t.Error(what, "shares the memory of its bench", before, b)
	}
}

func checkSpoiled(t *testing.T, b impl.Bench, a action) {
	t.Helper()
	list := slices.Clone(a.list)
	checkOwnMemory(t, b, a, func(b impl.Bench) impl.Bench {
		after, _ := a.on(b)
		return after
	})
	if !slices.Equal(a.list, list) {
		t.Error(a, "shares the memory of its list", list)
	}
}

// workersAround are the workers, and numbers that are none.
func workersAround() []int { return []int{-1, 0, 1, 2, 3, 4, 5, 6, math.MinInt, math.MaxInt} }

// objectsAround are objects that have been created, and numbers next to them and far away.
func objectsAround(b impl.Bench) []int {
	list := []int{-1, 0, 1, 2, 3, 30, b.Next - 1, b.Next, b.Next + 1, 60, 61, 62, math.MinInt, math.MaxInt}
	slices.Sort(list)
	return slices.Compact(list)
}

// freeLists are lists that can be freed, and lists with one thing wrong.
func freeLists(b impl.Bench) [][]int {
	backwards := slices.Clone(b.Waiting)
	slices.Reverse(backwards)
	list := [][]int{nil, {}, backwards, slices.Clone(b.Waiting), slices.Clone(b.Linked), slices.Clone(b.Freed), upTo(61)}
	for _, x := range slices.Concat(objectsAround(b), b.Waiting[:min(3, len(b.Waiting))]) {
		list = append(list, []int{x}, []int{x, x}, append(slices.Clone(b.Waiting), x), append([]int{x}, b.Waiting...))
	}
	for i := range b.Waiting {
		list = append(list, slices.Clone(b.Waiting[i:]), slices.Clone(backwards[:i]), slices.Concat(b.Waiting[i:], b.Waiting[:i]))
	}
	if within(b.Next, 0, 4) {
		list = append(list, listsOf(append(upTo(b.Next), 0), 3)...)
	}
	return list
}

func allActions(b impl.Bench) []action {
	list := []action{doMake()}
	for _, x := range objectsAround(b) {
		list = append(list, doCut(x))
		for _, worker := range workersAround() {
			list = append(list, doTake(worker, x), doDrop(worker, x))
		}
	}
	for _, free := range freeLists(b) {
		list = append(list, doFreeSome(free...))
	}
	return list
}

func TestBenchLimits(t *testing.T) {
	if impl.Workers != 5 || impl.MaxMade != 60 {
		t.Error("limits", impl.Workers, impl.MaxMade)
	}
}

func TestBenchOk(t *testing.T) {
	for _, b := range goodBenches() {
		before := copiedBench(b)
		if !wantBenchOk(b) || !impl.BenchOk(b) || !sameBench(b, before) {
			t.Error("valid bench refused", b)
		}
	}
	if !impl.BenchOk(bench(goodText)) || !impl.BenchOk(impl.Bench{Next: 1}) {
		t.Error("valid bench refused")
	}
	for _, b := range badBenches() {
		before := copiedBench(b)
		if wantBenchOk(b) || impl.BenchOk(b) || !sameBench(b, before) {
			t.Error("invalid bench accepted", b)
		}
	}
}

// all ways to fill the lists with up to three numbers
func TestBenchOkShort(t *testing.T) {
	valid := 0
	for _, order := range listsOf([]int{0, 1, 2, 3, 4}, 3) {
		for last := range len(order) + 1 {
			for first := range last + 1 {
				for next := range 6 {
					b := impl.Bench{Waiting: order[:first], Freed: order[first:last], Linked: order[last:], Next: next}
					if impl.BenchOk(b) != wantBenchOk(b) {
						t.Error("valid?", b, impl.BenchOk(b))
					}
					if wantBenchOk(b) {
						valid++
					}
				}
			}
		}
	}
	// With n objects of which k are linked, the others have an order, which is cut into Waiting and Freed.
	none, one, two, three := 1, 1+2, 1+2*2+2*3, 1+3*2+3*2*3+6*4
	if want := none + one + two + three; valid != want {
		t.Error("valid", valid, want)
	}
}

// all lists of up to two holds, and longer ones of one object
func TestBenchOkHolds(t *testing.T) {
	var holds []impl.Hold
	for _, worker := range workersAround() {
		for _, x := range []int{-1, 0, 1, 2, 3, 4, 61, math.MinInt, math.MaxInt} {
			holds = append(holds, hold(worker, x))
		}
	}
	for _, text := range []string{"linked 1 2 3", "waiting 2 3 1", "freed 3 1 2", "linked 2 waiting 1 freed 3", ""} {
		b := bench(text)
		for _, b.Held = range listsOf(holds, 2) {
			if impl.BenchOk(b) != wantBenchOk(b) {
				t.Error("valid?", b, impl.BenchOk(b))
			}
		}
	}
	b := bench("freed 1")
	for _, b.Held = range listsOf([]impl.Hold{hold(0, 1), hold(1, 1), hold(3, 1), hold(4, 1)}, 5) {
		if impl.BenchOk(b) == repeats(b.Held) {
			t.Error("valid?", b, impl.BenchOk(b))
		}
	}
}

func TestSafeBench(t *testing.T) {
	for _, b := range goodBenches() {
		before := copiedBench(b)
		if got := impl.SafeBench(b); got != diaryOf(b).safe() || !sameBench(b, before) {
			t.Error("safe", b, got)
		}
	}
	cases := []struct {
		text string
		want bool
	}{
		{"", true},
		{"linked 1 held 0:1 4:1", true},
		{"waiting 1 held 0:1", true},
		{"freed 1", true},
		{"freed 1 held 0:1", false},
		{"freed 2 1 held 4:1", false},
		{"linked 1 2 held 0:1 3:2 waiting 4 freed 5 3", true},
		{"linked 1 2 held 0:1 3:2 0:5 waiting 4 freed 5 3", false},
		{"linked 1 2 held 0:1 3:2 0:4 waiting 4 freed 5 3", true},
		{"linked 1 2 held 0:3 3:2 0:4 waiting 4 freed 5 3", false},
		// not valid
		{"linked 1 held 0:1 0:1", false},
		{"linked 1 held 5:1", false},
		{"linked 2", false},
	}
	for _, c := range cases {
		if got := impl.SafeBench(bench(c.text)); got != c.want {
			t.Error("safe", c.text, got)
		}
	}
}

func TestHeldByAndHoldersOf(t *testing.T) {
	const text = "linked 1 2 held 3:2 0:4 0:1 3:5 4:1 0:2 3:1 waiting 4 freed 3 5"
	byHand := map[int][]int{0: {4, 1, 2}, 3: {2, 5, 1}, 4: {1}}
	ofHand := map[int][]int{1: {0, 4, 3}, 2: {3, 0}, 4: {0}, 5: {3}}
	b := bench(text)
	for _, n := range append(workersAround(), objectsAround(b)...) {
		if got := impl.HeldBy(b, n); !slices.Equal(got, byHand[n]) {
			t.Error("held by", n, got)
		}
		if got := impl.HoldersOf(b, n); !slices.Equal(got, ofHand[n]) {
			t.Error("holders of", n, got)
		}
	}
	for _, b := range goodBenches() {
		checkHolds(t, b)
	}
}

// checkHolds counts on from each hold to the place that it has among those of its worker, and of its object.
func checkHolds(t *testing.T, b impl.Bench) {
	t.Helper()
	before := copiedBench(b)
	seen := map[string]int{}
	for _, h := range b.Held {
		by, of := "by"+strconv.Itoa(h.T), "of"+strconv.Itoa(h.X)
		if held := impl.HeldBy(b, h.T); len(held) <= seen[by] || held[seen[by]] != h.X {
			t.Error("held by", h.T, b, held)
		}
		if holders := impl.HoldersOf(b, h.X); len(holders) <= seen[of] || holders[seen[of]] != h.T {
			t.Error("holders of", h.X, b, holders)
		}
		seen[by]++
		seen[of]++
	}
	for _, n := range append(workersAround(), objectsAround(b)...) {
		held, holders := impl.HeldBy(b, n), impl.HoldersOf(b, n)
		if len(held) != seen["by"+strconv.Itoa(n)] || len(holders) != seen["of"+strconv.Itoa(n)] {
			t.Error("held by or holders of", n, b, held, holders)
		}
		spoilNumbers(held)
		spoilNumbers(holders)
	}
	if !sameBench(b, before) {
		t.Error("argument changed", before, b)
	}
}

func TestBenchActions(t *testing.T) {
	for _, b := range goodBenches() {
		for _, a := range allActions(b) {
			checkAction(t, diaryOf(b), b, a)
		}
	}
}

func TestBenchActionsByHand(t *testing.T) {
	const mixed = goodText
	all := sprint(upTo(60))
	cases := []struct {
		text   string
		a      action
		want   string
		result int
	}{
		{"linked held waiting freed", doMake(), "linked 1 held waiting freed", 1},
		{mixed, doMake(), "linked 1 4 7 held 0:1 4:3 0:2 waiting 6 3 freed 5 2", 7},
		{"linked " + strings.TrimSuffix(all, " 60"), doMake(), "linked " + all, 60},
		// all objects made
		{"linked " + all, doMake(), "linked " + all, -1},
		{"held 2:30 waiting " + all, doMake(), "held 2:30 waiting " + all, -1},
		{"freed " + all, doMake(), "freed " + all, -1},
		{"linked " + all, doTake(4, 60), "held 4:60 linked " + all, 1},
		{"linked " + all, doCut(60), "linked " + strings.TrimSuffix(all, " 60") + " waiting 60", 1},

		{mixed, doTake(4, 1), "linked 1 4 held 0:1 4:3 0:2 4:1 waiting 6 3 freed 5 2", 1},
		{mixed, doTake(0, 4), "linked 1 4 held 0:1 4:3 0:2 0:4 waiting 6 3 freed 5 2", 1},
		{mixed, doTake(0, 1), mixed, 0}, // held already
		{mixed, doTake(4, 6), mixed, 0}, // waiting
		{mixed, doTake(4, 3), mixed, 0}, // held already and waiting
		{mixed, doTake(4, 2), mixed, 0}, // freed
		{mixed, doTake(4, 7), mixed, 0}, // not created
		{mixed, doTake(4, 0), mixed, 0},
		{mixed, doTake(4, -1), mixed, 0},
		{mixed, doTake(5, 1), mixed, 0}, // no worker
		{mixed, doTake(-1, 1), mixed, 0},

		{mixed, doDrop(0, 1), "linked 1 4 held 4:3 0:2 waiting 6 3 freed 5 2", 1},
		{mixed, doDrop(4, 3), "linked 1 4 held 0:1 0:2 waiting 6 3 freed 5 2", 1},
		{mixed, doDrop(0, 2), "linked 1 4 held 0:1 4:3 waiting 6 3 freed 5 2", 1}, // a freed one
		{mixed, doDrop(4, 1), mixed, 0},                                           // another worker's
		{mixed, doDrop(0, 3), mixed, 0},
		{mixed, doDrop(0, 7), mixed, 0},
		{mixed, doDrop(5, 1), mixed, 0},

		{mixed, doCut(1), "linked 4 held 0:1 4:3 0:2 waiting 6 3 1 freed 5 2", 1},
		{mixed, doCut(4), "linked 1 held 0:1 4:3 0:2 waiting 6 3 4 freed 5 2", 1},
		{mixed, doCut(3), mixed, 0}, // waiting
		{mixed, doCut(5), mixed, 0}, // freed
		{mixed, doCut(7), mixed, 0}, // not created
		{mixed, doCut(0), mixed, 0},

		{mixed, doFreeSome(), mixed, 1},
		{mixed, doFreeSome(3), "linked 1 4 held 0:1 4:3 0:2 waiting 6 freed 5 2 3", 1},
		{mixed, doFreeSome(6), "linked 1 4 held 0:1 4:3 0:2 waiting 3 freed 5 2 6", 1},
		{mixed, doFreeSome(6, 3), "linked 1 4 held 0:1 4:3 0:2 freed 5 2 6 3", 1},
		{mixed, doFreeSome(3, 6), "linked 1 4 held 0:1 4:3 0:2 freed 5 2 3 6", 1},
		{"waiting 5 3 1 4 2", doFreeSome(4, 5), "waiting 3 1 2 freed 4 5", 1},
		{mixed, doFreeSome(3, 3), mixed, 0},    // an object twice
		{mixed, doFreeSome(6, 3, 6), mixed, 0}, // an object twice, with another in between
		{mixed, doFreeSome(3, 1), mixed, 0},    // linked
		{mixed, doFreeSome(1, 3), mixed, 0},
		{mixed, doFreeSome(5), mixed, 0},    // freed
		{mixed, doFreeSome(3, 7), mixed, 0}, // not created
		{mixed, doFreeSome(0), mixed, 0},
		{mixed, doFreeSome(6, -1, 3), mixed, 0},
	}
	for _, c := range cases {
		got, result := c.a.on(bench(c.text))
		if result != c.result || !sameBench(got, bench(c.want)) {
			t.Error(c.a, "on", c.text, "gives", got, result)
		}
		checkAction(t, diaryOf(bench(c.text)), bench(c.text), c.a)
	}
}

func TestInvalidBenches(t *testing.T) {
	for _, b := range badBenches() {
		before := copiedBench(b)
		for _, a := range allActions(b) {
			got, result := a.on(b)
			if result != a.refused() || !sameBench(got, before) {
				t.Error(a, "on", before, "gives", got, result)
			}
		}
		for _, n := range append(workersAround(), objectsAround(b)...) {
			if impl.HeldBy(b, n) != nil || impl.HoldersOf(b, n) != nil {
				t.Error("holds", n, before, impl.HeldBy(b, n), impl.HoldersOf(b, n))
			}
		}
		if impl.SafeBench(b) || impl.BenchText(b) != "" || !sameBench(b, before) {
			t.Error("safe or text", before, impl.SafeBench(b), impl.BenchText(b))
		}
		for _, a := range []action{doMake(), doTake(2, 1), doDrop(0, 1), doCut(1), doFreeSome(1), doFreeSome(3)} {
			checkSpoiled(t, b, a)
		}
	}
}

func TestBenchSharesNoMemory(t *testing.T) {
	for _, b := range append(smallBenches(3), largeBenches()...) {
		for _, a := range []action{doMake(), doTake(0, 1), doTake(4, 2), doTake(5, 1), doDrop(0, 1), doDrop(4, 3), doCut(1), doCut(2), doCut(61), doFreeSome(), doFreeSome(2), doFreeSome(1, 2), doFreeSome(2, 2), doFreeSome(b.Waiting...)} {
			checkSpoiled(t, b, a)
		}
	}
	// the list is the bench's own
	for _, b := range smallBenches(3) {
		before := copiedBench(b)
		after, ok := impl.FreeSome(b, b.Waiting)
		if want := slices.Concat(b.Freed, b.Waiting); !ok || len(after.Waiting) > 0 || !slices.Equal(after.Freed, want) {
			t.Error("free all", b, after, ok)
		}
		if spoilBench(after); !sameBench(b, before) {
			t.Error("shared with the list", before, b)
		}
	}
}

// wantBenchText goes by the words of the document and what Go prints of a list.
func wantBenchText(b impl.Bench) string {
	var holds []string
	for _, h := range b.Held {
		holds = append(holds, strings.Join([]string{strconv.Itoa(h.T), strconv.Itoa(h.X)}, ":"))
	}
	text := "linked " + sprint(b.Linked) + " held " + sprint(holds) + " waiting " + sprint(b.Waiting) + " freed " + sprint(b.Freed)
	return strings.Join(strings.Fields(text), " ")
}

func sprint(list any) string { return strings.Trim(fmt.Sprint(list), "[]") }

func TestBenchText(t *testing.T) {
	for _, text := range []string{
		"linked held waiting freed",
		"linked 1 held waiting freed",
		"linked held waiting 1 freed",
		"linked held waiting freed 1",
		"linked held 0:1 waiting freed 1",
		"linked 2 held 3:1 waiting freed 1",
		goodText,
		"linked 1 2 3 4 5 6 7 8 9 10 12 held 4:12 4:2 0:12 waiting 13 11 freed 14",
	} {
		if got := impl.BenchText(bench(text)); got != text {
			t.Error("text", text, got)
		}
	}
	for _, b := range goodBenches() {
		before := copiedBench(b)
		if got := impl.BenchText(b); got != wantBenchText(b) || !sameBench(bench(got), b) {
			t.Error("text", b, got)
		}
		if !sameBench(b, before) {
			t.Error("argument changed", before, b)
		}
	}
}

// Promise 9: taking and dropping a hold restores the bench, also with other holds taken in between.
func TestTakeAndDropRestores(t *testing.T) {
	taken := 0
	for _, b := range goodBenches() {
		for _, x := range objectsAround(b) {
			for _, worker := range workersAround() {
				held, ok := impl.TakeHold(b, worker, x)
				if !ok {
					continue
				}
				taken++
				back, ok := impl.DropHold(held, worker, x)
				if !ok || !sameBench(back, b) {
					t.Error("not restored", b, worker, x, back, ok)
				}
				other := (worker + 1) % 5
				more, took := impl.TakeHold(held, other, x)
				want, _ := impl.TakeHold(b, other, x)
				if back, ok := impl.DropHold(more, worker, x); took && (!ok || !sameBench(back, want)) {
					t.Error("not restored", b, worker, other, x, back, ok)
				}
			}
		}
	}
	if taken < 5000 {
		t.Error("too few holds were taken", taken)
	}
}

// checkOnTheWay compares everything that can be asked of a bench with the diary.
func checkOnTheWay(t *testing.T, d diary, b impl.Bench) {
	t.Helper()
	if !impl.BenchOk(b) || !wantBenchOk(b) {
		t.Error("not valid", d, b)
	}
	if got := impl.SafeBench(b); got != d.safe() {
		t.Error("safe", d, b, got)
	}
	if got := impl.BenchText(b); got != wantBenchText(d.bench()) {
		t.Error("text", d, got)
	}
}

// Promise 9 along all short sequences: what is in the lists follows from what was done.
func TestNothingLostOrDuplicated(t *testing.T) {
	steps := []action{
		doMake(), doTake(0, 1), doTake(4, 1), doTake(0, 2), doDrop(0, 1), doDrop(0, 2),
		doCut(1), doCut(2), doFreeSome(1), doFreeSome(2), doFreeSome(2, 1), doFreeSome(1, 1),
	}
	var walk func(d diary, b impl.Bench, depth int)
	walk = func(d diary, b impl.Bench, depth int) {
		checkOnTheWay(t, d, b)
		if depth == 0 {
			return
		}
		for _, a := range steps {
			nextDiary, next := checkAction(t, d, b, a)
			walk(nextDiary, next, depth-1)
		}
	}
	walk(diary{}, impl.Bench{Next: 1}, 4)
	d, b := diary{}, impl.Bench{Next: 1}
	for _, a := range []action{doMake(), doMake(), doTake(0, 2), doTake(0, 1)} {
		d, b = checkAction(t, d, b, a)
	}
	walk(d, b, 4)
}

func someAction(source *rand.Rand, b impl.Bench) action {
	worker, x := source.IntN(7)-1, source.IntN(b.Next+2)-1
	switch source.IntN(10) {
	case 0:
		return doMake()
	case 1, 2, 3, 4:
		return doTake(worker, x)
	case 5:
		return doDrop(worker, x)
	case 6:
		if len(b.Held) > 0 {
			h := b.Held[source.IntN(len(b.Held))]
			return doDrop(h.T, h.X)
		}
	case 7:
		return doCut(x)
	case 8:
		list := slices.Clone(b.Waiting)
		source.Shuffle(len(list), func(i int, j int) { list[i], list[j] = list[j], list[i] })
		return doFreeSome(list[:source.IntN(len(list)+1)]...)
	}
	return doFreeSome(x, source.IntN(b.Next+1))
}

// long sequences, the same ones in every run, until all objects are made, cut and for the most part freed
func TestNothingLostOrDuplicatedLong(t *testing.T) {
	source := rand.New(rand.NewPCG(9, 9))
	for range 30 {
		d, b := diary{}, impl.Bench{Next: 1}
		most := 0
		for range 800 {
			d, b = checkAction(t, d, b, someAction(source, b))
			checkOnTheWay(t, d, b)
			most = max(most, len(b.Held))
		}
		if d.made != 60 || len(d.frees) < 20 || most < 5 {
			t.Error("the sequence does too little", b, most)
		}
		checkHolds(t, b)
	}
}
