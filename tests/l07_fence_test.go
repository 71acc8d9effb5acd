package tests

import (
	"fmt"
	"math"
	"slices"
	"strings"
	"testing"

	"loop.example/g00712/impl"
)

func at(t int, i int) impl.Spot { return impl.Spot{T: t, I: i} }

func spots(list ...impl.Spot) []impl.Spot { return list }

func sameProg(p impl.Prog, q impl.Prog) bool {
	return p.Cells == q.Cells && slices.EqualFunc(p.Codes, q.Codes, slices.Equal[[]impl.Instr])
}

func progText(p impl.Prog) string {
	var texts []string
	for _, list := range p.Codes {
		text, _ := impl.CodeText(list)
		texts = append(texts, text)
	}
	return strings.Join(texts, " | ")
}

func everySpot(p impl.Prog) []impl.Spot {
	var list []impl.Spot
	for t, one := range p.Codes {
		for i := range len(one) + 1 {
			list = append(list, at(t, i))
		}
	}
	return list
}

// choices returns the ascending lists of size spots, the lexicographically smallest first.
func choices(list []impl.Spot, size int) [][]impl.Spot {
	if size == 0 {
		return [][]impl.Spot{nil}
	}
	var all [][]impl.Spot
	for i, s := range list {
		for _, rest := range choices(list[i+1:], size-1) {
			all = append(all, append(spots(s), rest...))
		}
	}
	return all
}

func without(list []impl.Spot, i int) []impl.Spot {
	return slices.Delete(slices.Clone(list), i, i+1)
}

// wantMovedCodes works out each code from the positions alone: to says where an instruction and where a jump target of a thread goes.
func wantMovedCodes(p impl.Prog, to func(t int, i int) (int, int), kept func(in impl.Instr) bool) impl.Prog {
	want := impl.Prog{Cells: p.Cells}
	for t, list := range p.Codes {
		_, size := to(t, len(list)+1)
		moved := slices.Repeat(code(fence), size)
		for i, in := range list {
			if in.Op == 6 {
				_, in.N = to(t, in.N)
			}
			if kept(in) {
				place, _ := to(t, i)
				moved[place] = in
			}
		}
		want.Codes = append(want.Codes, moved)
	}
	return want
}

// wantPut moves an instruction by the number of spots up to it, and a target only by those before it.
func wantPut(p impl.Prog, list []impl.Spot) impl.Prog {
	count := func(t int, low int, high int) int {
		n := 0
		for _, s := range list {
			if s.T == t && within(s.I, low, high) {
				n++
			}
		}
		return n
	}
	to := func(t int, i int) (int, int) {
		size := len(p.Codes[t])
		return i + count(t, 0, i), min(i, size) + count(t, 0, i-1)
	}
	return wantMovedCodes(p, to, func(impl.Instr) bool { return true })
}

// wantStripped moves instructions and targets back by the number of fences before them.
func wantStripped(p impl.Prog) impl.Prog {
	isFence := func(in impl.Instr) bool { return in.Op == 4 }
	to := func(t int, i int) (int, int) {
		n := 0
		for _, in := range p.Codes[t][:min(i, len(p.Codes[t]))] {
			if !isFence(in) {
				n++
			}
		}
		return n, n
	}
	return wantMovedCodes(p, to, func(in impl.Instr) bool { return !isFence(in) })
}

// wantSpots follows the definition: a store before the load with nothing between that ends the search.
func wantSpots(p impl.Prog) []impl.Spot {
	var list []impl.Spot
	for _, s := range everySpot(p) {
		one := p.Codes[s.T]
		if s.I == len(one) || one[s.I].Op != 2 {
			continue
		}
		found := false
		for from := range s.I {
			blocked := slices.ContainsFunc(one[from+1:s.I], func(in impl.Instr) bool { return slices.Contains([]int{4, 5, 6, 7}, in.Op) })
			found = found || one[from].Op == 3 && !blocked
		}
		if found {
			list = append(list, s)
		}
	}
	return list
}

func tooLong(p impl.Prog) bool {
	return slices.ContainsFunc(p.Codes, func(list []impl.Instr) bool { return len(list) > 16 })
}

// wantRobustness says whether p is robust, and whether the state limit allows to decide.
func wantRobustness(p impl.Prog) (bool, bool) {
	plain, buffered := graphOf(p, true), graphOf(p, false)
	if plain.tooMany || buffered.tooMany {
		return false, false
	}
	a, b := plain.outcomes(), buffered.outcomes()
	slices.Sort(a)
	slices.Sort(b)
	return slices.Equal(slices.Compact(a), slices.Compact(b)), true
}

func wantLeast(p impl.Prog) ([]impl.Spot, bool) {
	if _, decided := wantRobustness(p); !decided {
		return nil, false
	}
	for size := range 4 {
		for _, list := range choices(wantSpots(p), size) {
			fenced := wantPut(p, list)
			if tooLong(fenced) {
				continue
			}
			if robust, _ := wantRobustness(fenced); robust {
				return list, true
			}
		}
	}
	return nil, false
}

func TestFenceLimits(t *testing.T) {
	if impl.MaxFences != 3 {
		t.Error("limit", impl.MaxFences)
	}
}

func TestSpotOk(t *testing.T) {
	numbers := []int{math.MinInt, -2, -1, 0, 1, 2, 3, 4, 15, 16, 17, 256, math.MaxInt}
	full := slices.Repeat(code(fence), 16)
	for _, p := range []impl.Prog{prog(1, nil), prog(2, code(fence), nil), prog(1, full, code(jump(2), fence), nil), prog(16, nil, nil, full)} {
		for _, th := range numbers {
			for _, i := range numbers {
				want := slices.Contains(everySpot(p), at(th, i))
				if got := impl.SpotOk(at(th, i), p); got != want {
					t.Error("spot", th, i, p, got)
				}
			}
		}
	}
	for _, p := range badPrograms() {
		if impl.SpotOk(at(0, 0), p) || impl.SpotOk(at(0, 1), p) {
			t.Error("spot of an invalid program", p)
		}
	}
}

func TestPutFencesCases(t *testing.T) {
	cases := []struct {
		text  string
		spots []impl.Spot
		want  string
	}{
		{"", nil, ""},
		{"", spots(at(0, 0)), "fence"},
		{"store 1 0", spots(), "store 1 0"},
		{"store 1 0", spots(at(0, 0)), "fence; store 1 0"},
		{"store 1 0", spots(at(0, 1)), "store 1 0; fence"},
		{"store 1 0", spots(at(0, 0), at(0, 1)), "fence; store 1 0; fence"},
		{"set 1 1; store 1 0; load 0 1", spots(at(0, 2)), "set 1 1; store 1 0; fence; load 0 1"},
		{"set 1 1; store 1 0; load 0 1", spots(at(0, 0), at(0, 1), at(0, 2), at(0, 3)), "fence; set 1 1; fence; store 1 0; fence; load 0 1; fence"},
		// beside a fence
		{"fence", spots(at(0, 0)), "fence; fence"},
		{"fence", spots(at(0, 0), at(0, 1)), "fence; fence; fence"},
		// A jump to an instruction before which a fence is put leads to the fence.
		{"jz 0 1; load 0 1", spots(at(0, 1)), "jz 0 1; fence; load 0 1"},
		{"load 0 1; jz 0 0", spots(at(0, 0)), "fence; load 0 1; jz 0 0"},
		{"jz 0 0", spots(at(0, 0)), "fence; jz 0 0"},
		{"load 0 1; jz 0 0", spots(at(0, 1)), "load 0 1; fence; jz 0 0"},
		{"jz 0 2; load 0 1; set 0 1", spots(at(0, 1)), "jz 0 3; fence; load 0 1; set 0 1"},
		{"jz 0 2; load 0 1; set 0 1", spots(at(0, 0), at(0, 1), at(0, 2)), "fence; jz 0 4; fence; load 0 1; fence; set 0 1"},
		// A jump to a fence leads to the same fence, or to the one put before it.
		{"jz 0 1; fence", spots(at(0, 0)), "fence; jz 0 2; fence"},
		{"jz 0 1; fence", spots(at(0, 1)), "jz 0 1; fence; fence"},
		{"jz 0 2; fence; fence", spots(at(0, 1)), "jz 0 3; fence; fence; fence"},
		// A jump to the end, and the fence there
		{"jz 0 2; load 0 1", spots(at(0, 1)), "jz 0 3; fence; load 0 1"},
		{"jz 0 2; load 0 1", spots(at(0, 2)), "jz 0 2; load 0 1; fence"},
		{"jz 0 1", spots(at(0, 1)), "jz 0 1; fence"},
		{"jz 0 1", spots(at(0, 0), at(0, 1)), "fence; jz 0 2; fence"},
	}
	for _, c := range cases {
		p := progOf(t, 2, c.text)
		got, ok := impl.PutFences(p, c.spots)
		if !ok || got.Cells != 2 || progText(got) != c.want {
			t.Errorf("fences of %q at %v: %q %v", c.text, c.spots, progText(got), ok)
		}
	}
}

// Each thread has its own positions and jump targets.
func TestPutFencesIntoThreads(t *testing.T) {
	p := progOf(t, 7, "jz 0 1; fence", "", "store 0 6; jz 1 0; jz 2 3")
	cases := []struct {
		spots []impl.Spot
		want  string
	}{
		{nil, "jz 0 1; fence |  | store 0 6; jz 1 0; jz 2 3"},
		{spots(at(0, 1)), "jz 0 1; fence; fence |  | store 0 6; jz 1 0; jz 2 3"},
		{spots(at(1, 0)), "jz 0 1; fence | fence | store 0 6; jz 1 0; jz 2 3"},
		{spots(at(2, 1)), "jz 0 1; fence |  | store 0 6; fence; jz 1 0; jz 2 4"},
		{spots(at(0, 0), at(1, 0), at(2, 3)), "fence; jz 0 2; fence | fence | store 0 6; jz 1 0; jz 2 3; fence"},
		{spots(at(0, 2), at(2, 0), at(2, 1)), "jz 0 1; fence; fence |  | fence; store 0 6; fence; jz 1 0; jz 2 5"},
	}
	for _, c := range cases {
		got, ok := impl.PutFences(p, c.spots)
		if !ok || got.Cells != 7 || progText(got) != c.want {
			t.Errorf("fences at %v: %q %v", c.spots, progText(got), ok)
		}
	}
}

func checkPutRefusedInto(t *testing.T, p impl.Prog, list []impl.Spot) {
	t.Helper()
	if got, ok := impl.PutFences(p, list); ok || got.Cells != 0 || got.Codes != nil {
		t.Error("fences accepted", p, list, got)
	}
}

func TestPutFencesRefused(t *testing.T) {
	p := progOf(t, 2, sb0, sb1)
	wrong := []int{math.MinInt, -1, 4, 16, math.MaxInt}
	for _, x := range wrong {
		for _, s := range spots(at(0, x), at(1, x), at(x, 0), at(x, x), at(2, 0)) {
			checkPutRefusedInto(t, p, spots(s))
			checkPutRefusedInto(t, p, spots(at(0, 0), s))
			checkPutRefusedInto(t, p, spots(s, at(1, 3)))
		}
	}
	lists := [][]impl.Spot{
		spots(at(0, 0), at(0, 0)),
		spots(at(0, 3), at(0, 3)),
		spots(at(0, 1), at(0, 0)),
		spots(at(1, 0), at(0, 0)),
		spots(at(1, 0), at(0, 3)), // T comes first
		spots(at(0, 0), at(0, 2), at(0, 1)),
		spots(at(0, 0), at(1, 1), at(1, 1)),
		spots(at(0, 1), at(1, 1), at(0, 2)),
		slices.Repeat(spots(at(0, 1)), 100000),
	}
	for _, list := range lists {
		checkPutRefusedInto(t, p, list)
	}
	if _, ok := impl.PutFences(p, spots(at(0, 3), at(1, 0))); !ok {
		t.Error("ascending spots refused")
	}
	for _, bad := range badPrograms() {
		checkPutRefusedInto(t, bad, nil)
		checkPutRefusedInto(t, bad, spots(at(0, 0)))
	}
}

// Every pair of spots of a program is accepted if it is ascending, and otherwise refused.
func TestPutFencesTakesAscendingPairs(t *testing.T) {
	p := progOf(t, 1, "fence", "", "jz 0 1; fence")
	all := everySpot(p)
	for i, first := range all {
		for j, second := range all {
			if i >= j {
				checkPutRefusedInto(t, p, spots(first, second))
			} else if got, ok := impl.PutFences(p, spots(first, second)); !ok || !sameProg(got, wantPut(p, spots(first, second))) {
				t.Error("pair", first, second, got, ok)
			}
		}
	}
}

func TestPutFencesAtTheLengthLimit(t *testing.T) {
	for size := range 17 {
		p := prog(1, nil, append(slices.Repeat(code(ins(2, 0, 0, 0)), size), code(jump(0), jump(size))[:min(2, 16-size)]...))
		n := len(p.Codes[1])
		all := everySpot(p)[1:]
		for m := range len(all) + 1 {
			list := all[len(all)-m:]
			if n+m > 16 {
				checkPutRefusedInto(t, p, list)
				checkPutRefusedInto(t, p, append(spots(at(0, 0)), list...))
			} else if got, ok := impl.PutFences(p, list); !ok || len(got.Codes[1]) != n+m || !sameProg(got, wantPut(p, list)) {
				t.Error("fences", p, list, got, ok)
			}
		}
	}
	full := prog(1, slices.Repeat(code(fence), 16), nil)
	if got, ok := impl.PutFences(full, spots(at(1, 0))); !ok || !sameProg(got, prog(1, full.Codes[0], code(fence))) {
		t.Error("a fence beside a full code", got, ok)
	}
	for i := range 17 {
		checkPutRefusedInto(t, full, spots(at(0, i)))
	}
}

// fenceCodes are all codes of up to size instructions of a short choice, with jumps to each position.
func fenceCodes(size int) [][]impl.Instr {
	var codes [][]impl.Instr
	for n := range size + 1 {
		choice := code(store(1, 0), ins(2, 2, 0, 1), fence, ins(7, 0, 1, 0), ins(5, 0, 1, 1), ins(0, 1, 0, 1))
		for target := range n + 1 {
			choice = append(choice, jump(target))
		}
		codes = append(codes, codesOf(choice, n)...)
	}
	return codes
}

// The positions, the guarantee that stripping undoes fences, and the costs, for every list of spots of all small codes.
func TestPutAndStripOnAllSmallCodes(t *testing.T) {
	for _, list := range fenceCodes(3) {
		p := prog(2, code(jump(1), fence), list)
		stripped, ok := impl.StripFences(p)
		if !ok || !sameProg(stripped, wantStripped(p)) {
			t.Fatalf("stripped %q: %q %v", progText(p), progText(stripped), ok)
		}
		all := everySpot(prog(2, nil, list))[1:]
		for size := range len(all) + 1 {
			for _, chosen := range choices(all, size) {
				fenced, ok := impl.PutFences(p, chosen)
				if !ok || !sameProg(fenced, wantPut(p, chosen)) {
					t.Fatalf("fences of %q at %v: %q %v", progText(p), chosen, progText(fenced), ok)
				}
				if impl.FenceCost(fenced) != impl.FenceCost(p)+size {
					t.Error("cost", progText(fenced), impl.FenceCost(fenced))
				}
				if again, ok := impl.StripFences(fenced); !ok || !sameProg(again, stripped) {
					t.Fatalf("stripped %q: %q %v want %q", progText(fenced), progText(again), ok, progText(stripped))
				}
			}
		}
	}
}

// Where a jump leads shows in the outcomes: on the plain machine fences change none, and on the buffered machine they add none.
func TestFencesKeepOutcomes(t *testing.T) {
	for _, list := range fenceCodes(3) {
		p := prog(2, append(code(ins(0, 3, 0, 2), store(3, 1)), shifted(list, 2)...), code(ins(0, 3, 0, 1), store(3, 0), ins(2, 2, 0, 1)))
		plain, okPlain := impl.Outcomes(p, true)
		buffered, okBuffered := impl.Outcomes(p, false)
		if !okPlain || !okBuffered {
			t.Fatal("too many states", p)
		}
		for _, q := range []impl.Prog{wantPut(p, everySpot(p)), mustPut(t, p, spots(at(0, 2), at(1, 2))), mustPut(t, p, spots(at(0, len(p.Codes[0])))), mustStrip(t, p)} {
			other, ok := impl.Outcomes(q, true)
			if !ok || !slices.Equal(plain, other) {
				t.Errorf("plain outcomes of %q: %q, and of %q: %q", progText(p), plain, progText(q), other)
			}
		}
		other, ok := impl.Outcomes(mustPut(t, p, spots(at(0, 2), at(1, 2))), false)
		if !ok || slices.ContainsFunc(other, func(one string) bool { return !slices.Contains(buffered, one) }) {
			t.Errorf("buffered outcomes of %q: %q, and with fences %q", progText(p), buffered, other)
		}
	}
}

// shifted moves a code, with its targets, behind by other instructions.
func shifted(list []impl.Instr, by int) []impl.Instr {
	moved := slices.Clone(list)
	for i := range moved {
		if moved[i].Op == 6 {
			moved[i].N += by
		}
	}
	return moved
}

func mustPut(t *testing.T, p impl.Prog, list []impl.Spot) impl.Prog {
	t.Helper()
	fenced, ok := impl.PutFences(p, list)
	if !ok {
		t.Fatal("fences refused", p, list)
	}
	return fenced
}

func mustStrip(t *testing.T, p impl.Prog) impl.Prog {
	t.Helper()
	stripped, ok := impl.StripFences(p)
	if !ok {
		t.Fatal("not stripped", p)
	}
	return stripped
}

func TestSpotsOfCases(t *testing.T) {
	cases := []struct {
		text string
		want []int
	}{
		{"", nil},
		{"load 0 1", nil},
		{"load 0 1; store 1 0", nil},
		{"store 1 0", nil},
		{"store 1 0; load 0 1", []int{1}},
		{"store 1 0; load 0 0", []int{1}}, // also of the same address
		{"set 1 1; store 1 0; load 0 1", []int{2}},
		{"store 1 0; load 0 1; load 0 1", []int{1, 2}},
		{"store 1 0; set 2 1; add 2 1; sub 2 1; load 0 1", []int{4}},
		{"store 1 0; fence; load 0 1", nil},
		{"store 1 0; cas 0 1 0; load 0 1", nil},
		{"store 1 0; swap 0 1 0; load 0 1", nil},
		{"store 1 0; jz 0 2; load 0 1", nil},
		{"store 1 0; load 0 1; fence; load 0 1", []int{1}},
		{"store 1 0; fence; store 1 1; load 0 1", []int{3}},
		{"fence; store 1 0; load 0 1", []int{2}},
		{"store 1 0; store 1 1; fence; load 0 1", nil},
		{"store 1 0; load 0 1; jz 0 0; load 0 1; store 1 0; load 0 0", []int{1, 5}},
		{"store 1 0; cas 0 1 0", nil}, // a compare-and-swap and a swap are no loads
		{"store 1 0; swap 0 1 0", nil},
		{"load 0 1; jz 0 0; store 1 0; jz 1 0", nil}, // precedes in the code, not in time
		{"store 1 0" + strings.Repeat("; load 0 1", 15), []int{1, 2, 3, 4, 5, 6, 7, 8, 9, 10, 11, 12, 13, 14, 15}},
	}
	for _, c := range cases {
		var want []impl.Spot
		for _, i := range c.want {
			want = append(want, at(1, i))
		}
		if got := impl.SpotsOf(progOf(t, 2, "store 1 0; fence; load 0 1", c.text)); !slices.Equal(got, want) {
			t.Errorf("spots of %q: %v", c.text, got)
		}
	}
	three := progOf(t, 2, "store 1 0; load 0 1; load 0 1", "", "load 0 0; store 0 0; load 1 1")
	if got := impl.SpotsOf(three); !slices.Equal(got, spots(at(0, 1), at(0, 2), at(2, 2))) {
		t.Error("spots", got)
	}
	// What another thread stores or waits for does not matter.
	if got := impl.SpotsOf(progOf(t, 2, "store 1 0", "load 0 1")); got != nil {
		t.Error("spots", got)
	}
	for _, p := range badPrograms() {
		if got := impl.SpotsOf(p); got != nil {
			t.Error("spots of an invalid program", p, got)
		}
	}
}

func TestSpotsOfAllSmallCodes(t *testing.T) {
	choice := code(store(1, 0), ins(2, 0, 0, 1), fence, ins(7, 0, 1, 0), ins(5, 0, 1, 0), jump(0), ins(0, 1, 0, 1), ins(1, 1, 1, 0), ins(8, 1, 1, 0))
	for size := range 5 {
		for _, list := range codesOf(choice, size) {
			p := prog(2, list, code(store(0, 1), ins(2, 0, 0, 0)))
			got := impl.SpotsOf(p)
			if !slices.Equal(got, wantSpots(p)) {
				t.Fatalf("spots of %q: %v", progText(p), got)
			}
			if slices.ContainsFunc(got, func(s impl.Spot) bool { return !impl.SpotOk(s, p) }) {
				t.Fatalf("spots of %q: %v", progText(p), got)
			}
		}
	}
}

// checkLeast compares LeastFences with a search of its own, holds the second part of promise 7, and returns the number of fences, or -1.
func checkLeast(t *testing.T, p impl.Prog) int {
	t.Helper()
	want, wantOk := wantLeast(p)
	got, ok := impl.LeastFences(p)
	if ok != wantOk || !slices.Equal(got, want) || !ok && got != nil {
		t.Fatalf("least fences of %q: %v %v want %v %v", progText(p), got, ok, want, wantOk)
	}
	if some := len(got) > 0; ok && some != impl.NeedsFence(p) {
		t.Errorf("least fences of %q: %v, but it needs one: %v", progText(p), got, !some)
	}
	if !ok {
		return -1
	}
	fenced := mustPut(t, p, got)
	if !impl.Robust(fenced) || impl.NeedsFence(fenced) {
		t.Errorf("not robust with the least fences: %q", progText(fenced))
	}
	for i := range got {
		if impl.Robust(mustPut(t, p, without(got, i))) {
			t.Errorf("robust without one of the least fences: %q %v", progText(p), got)
		}
	}
	if more, ok := impl.LeastFences(fenced); !ok || len(more) != 0 {
		t.Errorf("least fences beside the least fences: %q %v %v", progText(fenced), more, ok)
	}
	if stripped := mustStrip(t, fenced); !sameProg(stripped, mustStrip(t, p)) || fenceFree(p) && !sameProg(stripped, p) {
		t.Errorf("stripped %q: %q", progText(fenced), progText(stripped))
	}
	return len(got)
}

func fenceFree(p impl.Prog) bool {
	return !slices.ContainsFunc(slices.Concat(p.Codes...), func(in impl.Instr) bool { return in.Op == 4 })
}

const (
	ring0 = "set 1 1; store 1 0; load 0 1"
	ring1 = "set 1 1; store 1 1; load 0 2"
	ring2 = "set 1 1; store 1 2; load 0 0"
	// Two tests in a row, each of which needs a fence in both threads.
	double0 = "set 1 1; store 1 0; load 0 1; store 1 2; load 2 3"
	double1 = "set 1 1; store 1 1; load 0 0; store 1 3; load 2 2"
)

// A spin adds up what it loads in n rounds. With a fence before its load it has more states.
func spin(n int) string {
	return fmt.Sprintf("set 1 1; set 2 %d; store 1 0; load 0 1; fence; add 3 0; sub 2 1; jz 2 10; set 0 0; jz 0 3", n)
}

// padded makes a code of some instructions longer by those that a jump to the end skips.
func padded(text string, size int) string {
	n := strings.Count(text, ";") + 1
	return fmt.Sprintf("%s; jz 3 %d", text, size) + strings.Repeat("; set 3 1", size-n-1)
}

type leastCase struct {
	texts []string
	ok    bool
	want  []impl.Spot
}

func leastCases() []leastCase {
	both := spots(at(0, 2), at(1, 2))
	return []leastCase{
		// robust already, with candidates and without
		{[]string{""}, true, nil},
		{[]string{sb0}, true, nil},
		{[]string{"jz 0 0"}, true, nil},
		{[]string{"set 1 1; store 1 0; load 0 0", "set 1 1; store 1 1; load 0 1"}, true, nil},
		{[]string{"set 1 1; store 1 0; fence; load 0 1", "set 1 1; store 1 1; fence; load 0 0"}, true, nil},
		{[]string{sb0, "set 1 1; swap 2 1 1; store 1 1"}, true, nil},
		// one fence, two and three
		{[]string{sb0, "set 1 1; store 1 1; fence; load 0 0"}, true, spots(at(0, 2))},
		{[]string{"set 1 1; swap 2 1 0; load 0 1", sb1}, true, spots(at(1, 2))},
		{[]string{sb0, sb1}, true, both},
		{[]string{sb0, "", sb1}, true, spots(at(0, 2), at(2, 2))},
		{[]string{ring0, ring1, ring2}, true, spots(at(0, 2), at(1, 2), at(2, 2))},
		// not all candidates
		{[]string{"set 1 1; store 1 0; load 2 0; load 0 1", sb1}, true, both},
		{[]string{"set 1 1; store 1 0; load 0 1; load 2 2", sb1}, true, both},
		{[]string{"set 1 1; store 1 2; load 2 2; store 1 0; load 0 1", sb1}, true, spots(at(0, 4), at(1, 2))},
		// jumps to the candidate
		{[]string{"set 1 1; jz 2 3; store 1 0; store 1 0; load 0 1", "set 1 1; store 1 1; load 0 0; jz 3 4"}, true, spots(at(0, 4), at(1, 2))},
		{[]string{"set 1 1; store 1 0; load 0 1; jz 0 2", sb1}, true, nil},
		// no list, because there is no candidate where a fence is needed
		{[]string{"set 1 1; store 1 0; jz 0 3; load 0 1", "set 1 1; store 1 1; jz 0 3; load 0 0"}, false, nil},
		{[]string{sb0, "set 1 1; store 1 1; jz 0 3; load 0 0"}, false, nil},
		// because four fences are needed
		{[]string{double0, double1}, false, nil},
		// because there is no room for a fence
		{[]string{padded(sb0, 16), sb1}, false, nil},
		{[]string{sb0, padded(sb1, 16)}, false, nil},
		{[]string{padded(sb0, 15), padded(sb1, 15)}, true, both},
		{[]string{sb0, sb1, padded("set 1 1", 16)}, true, both},
		// because there are too many states: of the program, on both machines or on one, or with the fences
		{[]string{sb0, sb1, counter(100, "")}, false, nil},
		{[]string{counter(500, "")}, false, nil},
		{[]string{counter(499, "; store 1 0")}, false, nil},
		{[]string{sb0, sb1, counter(10, "; fence; fence")}, false, nil},
		{[]string{sb0, sb1, counter(10, "; fence")}, true, both},
		{[]string{spin(8), sb1}, true, spots(at(0, 3), at(1, 2))},
		{[]string{spin(9), sb1}, false, nil},
	}
}

func TestLeastFencesCases(t *testing.T) {
	for _, c := range leastCases() {
		p := progOf(t, 4, c.texts...)
		if got, ok := impl.LeastFences(p); ok != c.ok || !slices.Equal(got, c.want) {
			t.Errorf("least fences of %q: %v %v", c.texts, got, ok)
		}
		checkLeast(t, p)
	}
}

// What the cases above rely on.
func TestLeastFencesAtTheLimits(t *testing.T) {
	four := progOf(t, 4, double0, double1)
	if all := impl.SpotsOf(four); len(all) != 4 || !impl.Robust(mustPut(t, four, all)) || !impl.NeedsFence(four) {
		t.Error("four fences", all)
	}
	crowded := progOf(t, 4, spin(9), sb1)
	if !impl.NeedsFence(crowded) || impl.CountStates(crowded, false) != 1419 {
		t.Error("states without fences", impl.CountStates(crowded, false))
	}
	for _, list := range choices(impl.SpotsOf(crowded), 2) {
		if n := impl.CountStates(mustPut(t, crowded, list), false); n != -1 {
			t.Error("states with fences", list, n)
		}
	}
	if n := impl.CountStates(progOf(t, 2, sb0, sb1, counter(10, "; fence; fence")), false); n != -1 {
		t.Error("states", n)
	}
	if p := progOf(t, 2, sb0, sb1, counter(10, "; fence")); impl.CountStates(p, false) != 1485 || !impl.NeedsFence(p) {
		t.Error("states", impl.CountStates(p, false))
	}
}

func TestLeastFencesOfSamplePrograms(t *testing.T) {
	for _, p := range exploredPrograms(t) {
		checkLeast(t, p)
	}
	for _, row := range litmusRows() {
		p, _, _ := impl.Known(row.name)
		if got, want := checkLeast(t, p), 2*row.buffered; got != want {
			t.Error("fences of", row.name, got, "want", want)
		}
	}
}

// Promise 7 on all pairs of short codes that begin with a store, the second thread with the cells of the first one exchanged.
func TestFencesOfAllSmallPrograms(t *testing.T) {
	const x, y = 0, 1
	codes := func(own int, other int) [][]impl.Instr {
		var list [][]impl.Instr
		for _, rest := range codesOf(code(store(1, own), ins(2, 0, 0, other), ins(2, 2, 0, own), fence, ins(7, 0, 1, own), jump(3)), 2) {
			list = append(list, append(code(ins(0, 1, 0, 1), store(1, own)), rest...))
		}
		return list
	}
	var fences [4]int
	for _, first := range codes(x, y) {
		for _, second := range codes(y, x) {
			p := prog(2, first, second)
			fences[1+checkLeast(t, p)]++
			checkFenced(t, p)
			checkPutAfterStores(t, p)
			robust, decided := wantRobustness(p)
			if impl.NeedsFence(p) != (decided && !robust) {
				t.Errorf("needs a fence: %q %v", progText(p), impl.NeedsFence(p))
			}
		}
	}
	if fences[0] == 0 || fences[1] == 0 || fences[2] == 0 || fences[3] == 0 {
		t.Error("programs without a list, and with none, one and two fences:", fences)
	}
}

// checkPutAfterStores holds the first part of promise 7 with PutFences, which lets jumps to what follows a store wait, too.
func checkPutAfterStores(t *testing.T, p impl.Prog) {
	t.Helper()
	var list []impl.Spot
	for _, s := range everySpot(p) {
		if s.I > 0 && p.Codes[s.T][s.I-1].Op == 3 {
			list = append(list, s)
		}
	}
	if fenced := mustPut(t, p, list); !impl.Robust(fenced) {
		t.Errorf("not robust with a fence after every store: %q", progText(fenced))
	}
}

func TestFencesAfterEveryStore(t *testing.T) {
	decided := 0
	for _, c := range leastCases() {
		p := progOf(t, 4, c.texts...)
		fenced, ok := fencedProg(p)
		if !ok || impl.CountStates(fenced, true) == -1 || impl.CountStates(fenced, false) == -1 {
			continue
		}
		decided++
		if !impl.Robust(fenced) || impl.NeedsFence(fenced) {
			t.Errorf("not robust with a fence after every store: %q", progText(fenced))
		}
	}
	if decided < 20 {
		t.Error("programs within the limits:", decided)
	}
}

func TestNeedsFence(t *testing.T) {
	for _, row := range litmusRows() {
		p, _, _ := impl.Known(row.name)
		if got := impl.NeedsFence(p); got != (row.buffered == 1) {
			t.Error("needs a fence", row.name, got)
		}
	}
	cases := []struct {
		want  bool
		texts []string
	}{
		{false, []string{""}},
		{false, []string{sb0}},
		{false, []string{"jz 0 0", "jz 0 0"}},
		{true, []string{sb0, sb1}},
		{true, []string{sb0, "set 1 1; store 1 1; fence; load 0 0"}},
		{false, []string{"set 1 1; store 1 0; fence; load 0 1", "set 1 1; store 1 1; fence; load 0 0"}},
		{true, []string{"set 1 1; store 1 0; jz 0 3; load 0 1", sb1}}, // also where no candidate helps
		{true, []string{sb0, sb1, counter(10, "; fence")}},
		// not where the state limit does not allow to decide
		{false, []string{sb0, sb1, counter(10, "; fence; fence")}},
		{false, []string{sb0, sb1, counter(100, "")}},
		{false, []string{counter(499, "; store 1 0")}},
		{false, []string{counter(499, "; fence; fence")}},
		{false, []string{counter(499, "; fence")}},
	}
	for _, c := range cases {
		if got := impl.NeedsFence(progOf(t, 2, c.texts...)); got != c.want {
			t.Errorf("needs a fence: %q %v", c.texts, got)
		}
	}
	for _, p := range badPrograms() {
		if impl.NeedsFence(p) {
			t.Error("an invalid program needs a fence", p)
		}
	}
}

func TestFenceCost(t *testing.T) {
	sixteen := strings.TrimSuffix(strings.Repeat("fence; ", 16), "; ")
	cases := []struct {
		texts []string
		want  int
	}{
		{[]string{""}, 0},
		{[]string{"set 1 1; add 1 1; load 0 0; store 0 0; jz 0 0; sub 1 1"}, 0},
		{[]string{"fence"}, 1},
		{[]string{"cas 0 1 0"}, 1},
		{[]string{"swap 0 1 0"}, 1},
		{[]string{"store 0 0; fence; cas 0 1 0; load 0 0; swap 0 1 1; fence"}, 4},
		{[]string{"fence; set 1 1", "", "swap 0 1 0; store 1 0; cas 1 1 1"}, 3},
		{[]string{sixteen, sixteen, sixteen}, 48},
	}
	for _, c := range cases {
		if got := impl.FenceCost(progOf(t, 2, c.texts...)); got != c.want {
			t.Errorf("cost of %q: %d", c.texts, got)
		}
	}
	for _, p := range badPrograms() {
		if got := impl.FenceCost(p); got != -1 {
			t.Error("cost of an invalid program", p, got)
		}
	}
}

func TestStripFencesCases(t *testing.T) {
	cases := [][2]string{
		{"", ""},
		{"fence", ""},
		{"fence; fence; fence", ""},
		{"store 1 0", "store 1 0"},
		{"set 1 1; store 1 0; fence; load 0 1", "set 1 1; store 1 0; load 0 1"},
		{"fence; store 1 0; fence", "store 1 0"},
		// Only fences go, not what waits like one.
		{"cas 0 1 0; fence; swap 0 1 1", "cas 0 1 0; swap 0 1 1"},
		// A jump leads to the same instruction.
		{"jz 0 2; fence; load 0 1; set 0 1", "jz 0 1; load 0 1; set 0 1"},
		{"fence; load 0 1; fence; jz 0 1", "load 0 1; jz 0 0"},
		{"fence; fence; jz 0 2", "jz 0 0"},
		// A jump to a fence leads to the next instruction that is none: itself, one before, one behind.
		{"fence; jz 0 0", "jz 0 0"},
		{"set 0 0; fence; jz 0 1", "set 0 0; jz 0 1"},
		{"jz 0 1; fence; load 0 1", "jz 0 1; load 0 1"},
		{"jz 0 2; set 1 1; fence; load 0 1", "jz 0 2; set 1 1; load 0 1"},
		// to any of several in a row
		{"jz 0 1; fence; fence; fence; load 0 1", "jz 0 1; load 0 1"},
		{"jz 0 2; fence; fence; fence; load 0 1", "jz 0 1; load 0 1"},
		{"jz 0 3; fence; fence; fence; load 0 1", "jz 0 1; load 0 1"},
		{"jz 0 4; fence; fence; fence; load 0 1", "jz 0 1; load 0 1"},
		// to the end, also by way of fences
		{"jz 0 1", "jz 0 1"},
		{"fence; jz 0 2", "jz 0 1"},
		{"jz 0 2; fence", "jz 0 1"},
		{"jz 0 1; fence", "jz 0 1"},
		{"jz 0 1; fence; fence", "jz 0 1"},
		{"fence; jz 0 2; fence; set 0 0; jz 1 5; fence", "jz 0 1; set 0 0; jz 1 3"},
	}
	for _, c := range cases {
		got, ok := impl.StripFences(progOf(t, 2, c[0]))
		if !ok || got.Cells != 2 || progText(got) != c[1] {
			t.Errorf("stripped %q: %q %v", c[0], progText(got), ok)
		}
	}
	three := progOf(t, 7, "jz 0 1; fence; set 1 1", "fence", "fence; store 0 6; jz 0 0")
	if got, ok := impl.StripFences(three); !ok || got.Cells != 7 || progText(got) != "jz 0 1; set 1 1 |  | store 0 6; jz 0 0" {
		t.Errorf("stripped %q %v", progText(got), ok)
	}
	for _, p := range badPrograms() {
		if got, ok := impl.StripFences(p); ok || got.Cells != 0 || got.Codes != nil {
			t.Error("stripped an invalid program", p, got)
		}
	}
}

// Stripping is done once, and gives a valid program that costs what the other waiting instructions cost.
func TestStripFencesOfAllSmallCodes(t *testing.T) {
	for _, list := range fenceCodes(4) {
		p := prog(2, list)
		got, ok := impl.StripFences(p)
		if !ok || !sameProg(got, wantStripped(p)) || !fenceFree(got) || !impl.ProgOk(got) {
			t.Fatalf("stripped %q: %q %v", progText(p), progText(got), ok)
		}
		removed := len(list) - len(got.Codes[0])
		if impl.FenceCost(got) != impl.FenceCost(p)-removed {
			t.Fatalf("cost of %q: %d", progText(got), impl.FenceCost(got))
		}
		if again, ok := impl.StripFences(got); !ok || !sameProg(again, got) {
			t.Fatalf("stripped twice %q: %q", progText(got), progText(again))
		}
	}
}

func TestFenceFunctionsShareNoMemory(t *testing.T) {
	checkShares(t, progOf(t, 2, "set 1 1; store 1 0; load 0 1; jz 0 0", "fence; set 1 1; store 1 1; load 0 0; jz 0 0", "fence"))
	checkShares(t, progOf(t, 2, sb0, sb1)) // nothing to strip
}

func checkShares(t *testing.T, p impl.Prog) {
	t.Helper()
	list := spots(at(0, 2), at(1, 3))
	first := fmt.Sprint(p, list)
	unchanged := func(what string) {
		t.Helper()
		if fmt.Sprint(p, list) != first {
			t.Error("arguments changed by", what, first, p, list)
		}
	}
	for _, chosen := range [][]impl.Spot{nil, list[:1], list} {
		fenced := mustPut(t, p, chosen)
		stripped := mustStrip(t, p)
		unchanged("a call")
		for _, q := range []impl.Prog{fenced, stripped} {
			for i, one := range q.Codes {
				clear(one)
				_ = append(one[:0:len(one)], fence)
				q.Codes[i] = nil
			}
		}
		unchanged("its results")
	}
	for _, call := range []func(){func() { impl.SpotOk(list[0], p) }, func() { impl.NeedsFence(p) }, func() { impl.FenceCost(p) }} {
		call()
		unchanged("a call")
	}
	candidates := impl.SpotsOf(p)
	least, ok := impl.LeastFences(p)
	wantCandidates, wantFences := slices.Clone(candidates), slices.Clone(least)
	unchanged("a call")
	clear(candidates)
	clear(least)
	again, okAgain := impl.LeastFences(p)
	if !slices.Equal(impl.SpotsOf(p), wantCandidates) || ok != okAgain || !slices.Equal(again, wantFences) {
		t.Error("another result", impl.SpotsOf(p), again)
	}
}
