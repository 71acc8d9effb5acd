package tests

import (
	"math"
	"slices"
	"strings"
	"testing"

	"loop.example/g00712/impl"
)

// One row of the document's table: the mnemonic of an Op and the fields it uses.
type opRow struct {
	name    string
	r, s, n bool
}

var opRows = []opRow{
	0: {"set", true, false, true},
	1: {"add", true, true, false},
	2: {"load", true, false, true},
	3: {"store", true, false, true},
	4: {"fence", false, false, false},
	5: {"cas", true, true, true},
	6: {"jz", true, false, true},
	7: {"swap", true, true, true},
	8: {"sub", true, true, false},
}

var badOps = []int{-1, 9, 10, 256, -256, math.MinInt, math.MaxInt}

func ins(op int, r int, s int, n int) impl.Instr { return impl.Instr{Op: op, R: r, S: s, N: n} }

func store(r int, n int) impl.Instr { return ins(3, r, 0, n) }

func jump(n int) impl.Instr { return ins(6, 0, 0, n) }

var fence = ins(4, 0, 0, 0)

func code(list ...impl.Instr) []impl.Instr { return list }

func prog(cells int, codes ...[]impl.Instr) impl.Prog { return impl.Prog{Cells: cells, Codes: codes} }

func parsed(t *testing.T, text string) []impl.Instr {
	t.Helper()
	list, ok := impl.ParseCode(text)
	if !ok {
		t.Fatalf("code %q refused", text)
	}
	return list
}

func within(x int, low int, high int) bool { return low <= x && x <= high }

func wantRegister(r int, used bool) bool { return r == 0 || used && within(r, 0, 3) }

func wantN(op int, n int, cells int, size int) bool {
	switch op {
	case 0:
		return within(n, -1000, 1000)
	case 2, 3, 5, 7:
		return within(n, 0, cells-1)
	case 6:
		return within(n, 0, size)
	}
	return n == 0
}

func wantInstrOk(in impl.Instr, cells int, size int) bool {
	if !within(cells, 1, 16) || !within(size, 0, 16) || !within(in.Op, 0, 8) {
		return false
	}
	row := opRows[in.Op]
	return wantRegister(in.R, row.r) && wantRegister(in.S, row.s) && wantN(in.Op, in.N, cells, size)
}

func TestProgLimits(t *testing.T) {
	if impl.MaxInstr != 16 || impl.MaxThreads != 3 || impl.Regs != 4 {
		t.Error("limits", impl.MaxInstr, impl.MaxThreads, impl.Regs)
	}
}

func TestInstrOkByTable(t *testing.T) {
	registers := []int{math.MinInt, -1, 0, 1, 3, 4, math.MaxInt}
	numbers := []int{math.MinInt, -1001, -1000, -1, 0, 1, 2, 3, 4, 15, 16, 17, 1000, 1001, math.MaxInt}
	sizes := [][2]int{
		{1, 0}, {1, 1}, {2, 1}, {1, 2}, {3, 4}, {16, 16}, {16, 0}, {1, 16},
		{0, 1}, {17, 1}, {-1, 1}, {1, -1}, {1, 17}, {math.MinInt, 1}, {math.MaxInt, 1}, {1, math.MinInt}, {1, math.MaxInt},
	}
	ops := slices.Concat([]int{0, 1, 2, 3, 4, 5, 6, 7, 8}, badOps)
	for _, size := range sizes {
		for _, op := range ops {
			for _, r := range registers {
				for _, s := range registers {
					for _, n := range numbers {
						in := ins(op, r, s, n)
						if got := impl.InstrOk(in, size[0], size[1]); got != wantInstrOk(in, size[0], size[1]) {
							t.Fatal("instruction", in, "cells and size", size, "gives", got)
						}
					}
				}
			}
		}
	}
}

func TestInstrOkCases(t *testing.T) {
	cases := []struct {
		in          impl.Instr
		cells, size int
		want        bool
	}{
		{ins(0, 3, 0, -1000), 1, 1, true},
		{ins(0, 3, 0, -1001), 1, 1, false},
		{ins(0, 0, 1, 5), 1, 1, false}, // a set has no S
		{ins(1, 0, 3, 0), 1, 1, true},
		{ins(1, 0, 3, 1), 1, 1, false}, // an add has no N
		{ins(2, 0, 0, 1), 2, 1, true},
		{ins(2, 0, 0, 1), 1, 1, false},
		{ins(2, 0, 1, 0), 2, 1, false}, // a load has no S
		{ins(3, 0, 2, 0), 2, 1, false}, // a store has no S
		{ins(4, 0, 0, 0), 1, 1, true},
		{ins(4, 1, 0, 0), 1, 1, false}, // a fence has no fields
		{ins(4, 0, 1, 0), 1, 1, false},
		{ins(4, 0, 0, 1), 2, 2, false},
		{ins(5, 3, 3, 15), 16, 1, true},
		{ins(6, 1, 0, 3), 1, 3, true}, // to the end
		{ins(6, 1, 0, 4), 1, 3, false},
		{ins(6, 1, 0, 0), 1, 0, true},
		{ins(6, 1, 1, 0), 1, 1, false}, // a jump has no S
		{ins(7, 0, 4, 0), 1, 1, false},
		{ins(8, 1, 2, 0), 1, 1, true},
		{ins(8, 1, 2, 3), 16, 16, false}, // a sub has no N
		{ins(9, 0, 0, 0), 1, 1, false},
	}
	for _, c := range cases {
		if got := impl.InstrOk(c.in, c.cells, c.size); got != c.want {
			t.Error("instruction", c.in, c.cells, c.size, got)
		}
	}
}

func TestProgOk(t *testing.T) {
	long := slices.Repeat(code(fence), impl.MaxInstr)
	good := []impl.Prog{
		prog(1, nil),
		prog(16, code(), nil, long),
		prog(2, parsed(t, "set 1 1; store 1 0; load 0 1"), parsed(t, "set 1 1; store 1 1; load 0 0")),
		prog(1, code(jump(1))),
		prog(1, append(slices.Clone(long[1:]), jump(impl.MaxInstr))),
		prog(16, code(store(3, 15))),
	}
	for _, p := range good {
		if !impl.ProgOk(p) {
			t.Error("valid program refused", p)
		}
	}
	bad := []impl.Prog{
		{},
		prog(1),
		prog(0, nil),
		prog(-1, nil),
		prog(17, nil),
		prog(math.MaxInt, nil),
		prog(1, nil, nil, nil, nil),
		prog(1, slices.Concat(long, code(fence))),
		prog(1, nil, nil, slices.Concat(long, code(fence))),
		prog(1, code(store(0, 1))),
		prog(15, nil, code(store(0, 15))),
		prog(1, code(fence, jump(3))),
		prog(1, code(fence, jump(-1))),
		prog(1, code(fence, fence, fence), code(jump(2))), // the target counts in its own thread
		prog(1, code(fence), nil, code(ins(9, 0, 0, 0))),
		prog(1, code(ins(4, 0, 0, 1))),
		prog(1, code(ins(0, 4, 0, 0))),
	}
	for _, p := range bad {
		if impl.ProgOk(p) {
			t.Error("invalid program accepted", p)
		}
	}
}

func TestInstrText(t *testing.T) {
	cases := []struct {
		in   impl.Instr
		want string
	}{
		{ins(0, 1, 0, -1000), "set 1 -1000"},
		{ins(1, 2, 3, 0), "add 2 3"},
		{ins(2, 0, 0, 15), "load 0 15"},
		{ins(3, 1, 0, 0), "store 1 0"},
		{ins(4, 0, 0, 0), "fence"},
		{ins(5, 1, 2, 3), "cas 1 2 3"},
		{ins(6, 3, 0, 16), "jz 3 16"},
		{ins(7, 3, 2, 1), "swap 3 2 1"},
		{ins(8, 1, 2, 0), "sub 1 2"},
		// A field that the op does not use is not mentioned, and one that it uses is written even if it is invalid.
		{ins(0, 1, 7, 5), "set 1 5"},
		{ins(1, 1, 7, 5), "add 1 7"},
		{ins(4, 1, 2, 3), "fence"},
		{ins(8, 1, 2, 3), "sub 1 2"},
		{ins(6, -4, 9, -8), "jz -4 -8"},
		{ins(7, 9, -9, 99), "swap 9 -9 99"},
		{ins(2, math.MinInt, 0, math.MaxInt), "load -9223372036854775808 9223372036854775807"},
	}
	for _, c := range cases {
		if got := impl.InstrText(c.in); got != c.want {
			t.Errorf("text of %v: %q", c.in, got)
		}
	}
	for _, op := range badOps {
		if got := impl.InstrText(ins(op, 1, 2, 3)); got != "" {
			t.Errorf("text of op %d: %q", op, got)
		}
	}
}

// every op with its used fields at each of the values, and the others 0
func instrsWith(values []int) []impl.Instr {
	pick := func(used bool) []int {
		if used {
			return values
		}
		return []int{0}
	}
	var list []impl.Instr
	for op, row := range opRows {
		for _, r := range pick(row.r) {
			for _, s := range pick(row.s) {
				for _, n := range pick(row.n) {
					list = append(list, ins(op, r, s, n))
				}
			}
		}
	}
	return list
}

func TestParseInstrInvertsInstrText(t *testing.T) {
	for _, in := range instrsWith([]int{-1000000, -999999, -1001, -10, -1, 0, 1, 3, 9, 10, 1000, 999999, 1000000}) {
		text := impl.InstrText(in)
		got, ok := impl.ParseInstr(text)
		if !ok || got != in {
			t.Fatalf("parse %q: %v %v", text, got, ok)
		}
	}
	// The fields that are not mentioned are 0 in the result.
	got, ok := impl.ParseInstr(impl.InstrText(ins(8, 1, 2, 3)))
	if !ok || got != ins(8, 1, 2, 0) {
		t.Error("unused fields", got, ok)
	}
}

func TestParseInstrRefused(t *testing.T) {
	texts := []string{
		"", " ", "  ", "x", "nop", "sett 1 1", "se 1 1", "Set 1 1", "FENCE", "1", "0 1 2",
		"set", "set 1", "set 1 ", "set 1 1 1", "set 1 1 ", " set 1 1", "set  1 1", "set 1  1", "set\t1\t1", "set 1 1\n", "set 1,1",
		"add 1", "add 1 2 3", "load 1", "load 1 2 3", "store 1", "store 1 0 0", "jz 1", "jz 1 2 3", "sub 1", "sub 1 2 3",
		"fence 0", "fence ", " fence", "fence fence", "cas 1 2", "cas 1 2 3 4", "swap 1 2", "swap 1 2 3 4",
		"set 01 1", "set +1 1", "set 1 -0", "set 1 00", "set 1 -01", "set 1 1.0", "set 1 1e3", "set 1 1_0", "set 1 0x1",
		"set 1 a", "set a 1", "set 1 -", "set - 1", "set 1 \u0661", "set 1 1\x00",
		"set 1 1000001", "set 1 -1000001", "set 1000001 1", "set -1000001 1", "cas 1 1000001 1", "cas 0 -1000001 0",
		"set 1 9223372036854775807", "set 1 9223372036854775808", "set 1 18446744073709551617",
		"set 1 1;", "set 1 1; fence", ";", "; fence", "set;1 1",
		"set 1 1" + strings.Repeat(" ", 100), "set 1 " + strings.Repeat("0", 100), "set 1" + strings.Repeat(" 1", 100),
		strings.Repeat(" ", 61), strings.Repeat("set", 1000),
	}
	for _, text := range texts {
		in, ok := impl.ParseInstr(text)
		if ok || in != (impl.Instr{}) {
			t.Errorf("parse accepts %q: %v %v", text, in, ok)
		}
	}
}

// lengthened returns each text with each character of the alphabet behind it.
func lengthened(texts []string, alphabet string) []string {
	var longer []string
	for _, text := range texts {
		for _, c := range alphabet {
			longer = append(longer, text+string(c))
		}
	}
	return longer
}

// Over a small alphabet of operands, whatever is accepted must be the text of its result.
func TestParseInstrAcceptsOnlyTexts(t *testing.T) {
	tails := []string{""}
	for range 6 {
		tails = lengthened(tails, "01- ")
		for _, tail := range tails {
			for _, row := range opRows {
				in, ok := impl.ParseInstr(row.name + tail)
				if ok && impl.InstrText(in) != row.name+tail || !ok && in != (impl.Instr{}) {
					t.Errorf("parse %q: %v %v", row.name+tail, in, ok)
				}
			}
		}
	}
}

func TestCodeText(t *testing.T) {
	sixteen := slices.Repeat(code(fence), impl.MaxInstr)
	cases := []struct {
		code []impl.Instr
		want string
	}{
		{nil, ""},
		{code(), ""},
		{code(fence), "fence"},
		{code(ins(0, 1, 0, 1), store(1, 0), ins(2, 0, 0, 1)), "set 1 1; store 1 0; load 0 1"},
		{code(ins(0, 9, 9, 9999), jump(-7)), "set 9 9999; jz 0 -7"},
		{sixteen, "fence" + strings.Repeat("; fence", 15)},
	}
	for _, c := range cases {
		if got, ok := impl.CodeText(c.code); !ok || got != c.want {
			t.Errorf("text of %v: %q %v", c.code, got, ok)
		}
	}
	bad := [][]impl.Instr{slices.Concat(sixteen, code(fence)), slices.Repeat(code(fence), 1000)}
	for _, op := range badOps {
		bad = append(bad, code(ins(op, 0, 0, 0)), code(fence, ins(op, 0, 0, 0)), code(ins(op, 0, 0, 0), fence))
	}
	for _, list := range bad {
		if got, ok := impl.CodeText(list); ok || got != "" {
			t.Errorf("text of %v: %q %v", list, got, ok)
		}
	}
}

func TestParseCodeInvertsCodeText(t *testing.T) {
	all := instrsWith([]int{-1000000, -1, 0, 7, 1000000})
	var codes [][]impl.Instr
	for size := 0; size <= impl.MaxInstr; size++ {
		for from := 0; from+size <= len(all); from += 23 {
			codes = append(codes, all[from:from+size])
		}
	}
	for _, want := range codes {
		text, ok := impl.CodeText(want)
		got, ok2 := impl.ParseCode(text)
		again, ok3 := impl.CodeText(got)
		if !ok || !ok2 || !ok3 || !slices.Equal(got, want) || again != text {
			t.Fatalf("parse %q: %v %v", text, got, ok2)
		}
	}
	empty, ok := impl.ParseCode("")
	if !ok || len(empty) != 0 {
		t.Error("empty code", empty, ok)
	}
	if _, ok := impl.ParseCode("fence" + strings.Repeat("; fence", 15)); !ok {
		t.Error("sixteen instructions refused")
	}
}

func TestParseCodeRefused(t *testing.T) {
	texts := []string{
		" ", ";", "; ", ";;", "; ; ", "fence;", "fence; ", "; fence", "fence;fence", "fence ; fence", "fence;  fence", " fence", "fence ",
		"fence; ; fence", "fence\n", "fence;\nfence", "fence, fence", "fence fence", "set 1 1;store 1 0", "set 1 1; store 1",
		"fence; nop", "nop; fence", "fence; set 1 1000001", "fence; set 01 1",
		"fence" + strings.Repeat("; fence", 16), "fence" + strings.Repeat("; fence", 1000), "fence" + strings.Repeat("; fence", 15) + "; ",
	}
	for _, text := range texts {
		list, ok := impl.ParseCode(text)
		if ok || list != nil {
			t.Errorf("parse accepts %q: %v %v", text, list, ok)
		}
	}
}

func TestHasFence(t *testing.T) {
	for op := range opRows {
		want := op == 4 || op == 5 || op == 7
		if got := impl.HasFence(ins(op, 1, 2, 3)); got != want {
			t.Error("has fence", op, got)
		}
	}
	for _, op := range badOps {
		if impl.HasFence(ins(op, 0, 0, 0)) {
			t.Error("has fence", op)
		}
	}
}

func TestAddressesOf(t *testing.T) {
	descending := make([]impl.Instr, impl.MaxInstr)
	all := make([]int, impl.MaxInstr)
	for i := range descending {
		descending[i] = store(0, impl.MaxInstr-1-i)
		all[i] = i
	}
	cases := []struct {
		code []impl.Instr
		want []int
	}{
		{nil, nil},
		{parsed(t, "set 1 5; add 1 2; fence; jz 1 3; sub 1 2"), nil},
		{parsed(t, "load 0 7"), []int{7}},
		{parsed(t, "store 0 6"), []int{6}},
		{parsed(t, "cas 0 1 5"), []int{5}},
		{parsed(t, "swap 0 1 4"), []int{4}},
		{parsed(t, "swap 1 2 9; load 0 3; cas 1 2 9; store 3 0; set 0 8; load 0 3; jz 0 2"), []int{0, 3, 9}},
		{parsed(t, "load 0 0; store 0 0; load 0 0"), []int{0}},
		{descending, all},
		{append(slices.Clone(descending), store(0, 0)), nil},
	}
	for _, c := range cases {
		before := slices.Clone(c.code)
		if got := impl.AddressesOf(c.code); !slices.Equal(got, c.want) {
			t.Error("addresses", c.code, got)
		}
		if !slices.Equal(c.code, before) {
			t.Error("argument changed", before, c.code)
		}
	}
}

func TestWithFencesCases(t *testing.T) {
	cases := [][2]string{
		{"", ""},
		{"fence", "fence"},
		{"store 1 0", "store 1 0; fence"},
		{"store 1 0; fence", "store 1 0; fence"},
		{"store 1 0; store 2 1", "store 1 0; fence; store 2 1; fence"},
		{"store 1 0; load 0 1; fence", "store 1 0; fence; load 0 1; fence"},
		// Only a fence counts, not another instruction that waits for the buffer.
		{"store 1 0; cas 0 1 0", "store 1 0; fence; cas 0 1 0"},
		{"store 1 0; swap 0 1 0", "store 1 0; fence; swap 0 1 0"},
		{"load 0 1; cas 0 1 1; swap 0 1 1", "load 0 1; cas 0 1 1; swap 0 1 1"},
		// to the end, behind the fence that is added there
		{"store 0 0; jz 0 2", "store 0 0; fence; jz 0 3"},
		{"jz 0 2; store 0 0", "jz 0 3; store 0 0; fence"},
		{"jz 0 1", "jz 0 1"},
		// to an instruction: backwards, forwards, and to the one behind an added fence
		{"store 0 0; jz 0 0", "store 0 0; fence; jz 0 0"},
		{"jz 0 2; store 0 0; load 0 1", "jz 0 3; store 0 0; fence; load 0 1"},
		{"jz 0 1; store 0 0; load 0 1", "jz 0 1; store 0 0; fence; load 0 1"},
		{"store 0 0; jz 0 1", "store 0 0; fence; jz 0 2"},
		{"jz 0 2; store 0 0; fence", "jz 0 2; store 0 0; fence"},
		{"jz 0 4; store 0 1; store 0 2; set 1 2; set 2 3", "jz 0 6; store 0 1; fence; store 0 2; fence; set 1 2; set 2 3"},
	}
	for _, c := range cases {
		in := parsed(t, c[0])
		before := slices.Clone(in)
		got, ok := impl.WithFences(in)
		text, _ := impl.CodeText(got)
		if !ok || text != c[1] {
			t.Errorf("fences of %q: %q %v", c[0], text, ok)
		}
		for i := range got {
			got[i].N++
		}
		if !slices.Equal(in, before) {
			t.Errorf("fences of %q changed or share the argument", c[0])
		}
	}
}

func TestWithFencesLimits(t *testing.T) {
	full := slices.Repeat(code(store(0, 0)), 8)
	got, ok := impl.WithFences(full)
	if !ok || !slices.Equal(got, slices.Repeat(code(store(0, 0), fence), 8)) {
		t.Error("exactly the limit", got, ok)
	}
	if again, ok := impl.WithFences(got); !ok || !slices.Equal(again, got) {
		t.Error("a full code with fences", again, ok)
	}
	loads := slices.Repeat(code(ins(2, 0, 0, 0)), 15)
	if got, ok := impl.WithFences(append(slices.Clone(loads), jump(16))); !ok || len(got) != 16 || got[15].N != 16 {
		t.Error("a full code without stores", got, ok)
	}
	bad := [][]impl.Instr{
		append(slices.Clone(full), store(0, 0)),
		append(slices.Clone(full), fence, fence, fence, fence, fence, fence, fence, fence, fence),
		append(slices.Clone(loads), store(0, 0)),
		append(slices.Clone(loads), fence, fence),
		slices.Repeat(code(fence), 1000),
		code(jump(-1)),
		code(jump(2)),
		code(store(0, 0), jump(3)), // not even where the result is long enough
		code(jump(-1), store(0, 0)),
		code(jump(math.MinInt)),
		code(fence, jump(math.MaxInt), fence),
	}
	for _, list := range bad {
		if got, ok := impl.WithFences(list); ok || got != nil {
			t.Error("fences accepted", list, got, ok)
		}
	}
}

// Nothing but jump targets is looked at or changed, also in instructions that are invalid.
func TestWithFencesKeepsOtherFields(t *testing.T) {
	in := code(ins(9, 7, 8, 99), ins(3, 5, 6, 77), ins(0, 1, 1, 2), ins(5, 1, 2, -3), ins(4, 1, 2, 3), ins(6, 9, 9, 2), ins(-1, 0, 0, 50))
	want := slices.Insert(slices.Clone(in), 2, fence)
	want[6].N = 3
	if got, ok := impl.WithFences(in); !ok || !slices.Equal(got, want) {
		t.Error("other fields", got, ok)
	}
}

func codesOf(choice []impl.Instr, size int) [][]impl.Instr {
	codes := [][]impl.Instr{nil}
	for range size {
		var longer [][]impl.Instr
		for _, list := range codes {
			for _, in := range choice {
				longer = append(longer, append(slices.Clone(list), in))
			}
		}
		codes = longer
	}
	return codes
}

// wantFenced works out the result from the positions alone: an instruction moves by the number of fences added before it.
func wantFenced(list []impl.Instr) []impl.Instr {
	addedBefore := func(at int) int {
		n := 0
		for i := range at {
			if list[i].Op == 3 && (i == len(list)-1 || list[i+1].Op != 4) {
				n++
			}
		}
		return n
	}
	want := slices.Repeat(code(fence), len(list)+addedBefore(len(list)))
	for i, in := range list {
		if in.Op == 6 {
			in.N += addedBefore(in.N)
		}
		want[i+addedBefore(i)] = in
	}
	return want
}

func TestWithFencesIsIdempotentOnAllSmallCodes(t *testing.T) {
	for size := 0; size <= 4; size++ {
		choice := code(store(1, 0), fence, ins(2, 0, 0, 0), ins(7, 0, 1, 0))
		for n := 0; n <= size; n++ {
			choice = append(choice, jump(n))
		}
		for _, list := range codesOf(choice, size) {
			once, ok := impl.WithFences(list)
			if !ok || !slices.Equal(once, wantFenced(list)) {
				t.Fatal("fences of", list, "are", once, ok)
			}
			twice, ok := impl.WithFences(once)
			if !ok || !slices.Equal(once, twice) {
				t.Fatal("not idempotent on", list, once, twice, ok)
			}
			if !impl.ProgOk(prog(1, once)) {
				t.Fatal("the result is invalid", list, once)
			}
		}
	}
}

func TestProgFunctionsKeepArguments(t *testing.T) {
	list := parsed(t, "jz 0 3; store 1 2; swap 1 2 0; load 3 1")
	before := slices.Clone(list)
	impl.ProgOk(prog(3, list))
	impl.CodeText(list)
	impl.AddressesOf(list)
	if !slices.Equal(list, before) {
		t.Error("argument changed", list, before)
	}
}
