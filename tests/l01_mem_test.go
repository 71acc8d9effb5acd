package tests

import (
	"math"
	"slices"
	"strings"
	"testing"

	"loop.example/g00712/impl"
)

func mem(cells ...int) impl.Mem { return impl.Mem{Cells: cells} }

func filled(n int, v int) impl.Mem { return mem(slices.Repeat([]int{v}, n)...) }

func counting(n int) impl.Mem {
	m := filled(n, 0)
	for i := range m.Cells {
		m.Cells[i] = 100 + i
	}
	return m
}

func sameCells(a impl.Mem, b impl.Mem) bool { return slices.Equal(a.Cells, b.Cells) }

var goodValues = []int{
	-impl.MaxValue, -impl.MaxValue + 1, -10, -1, 0, 1, 9, 10, 999999, impl.MaxValue - 1, impl.MaxValue,
}

var badValues = []int{
	-impl.MaxValue - 1, impl.MaxValue + 1, 10000000, -10000000, math.MaxInt32 + 1, math.MinInt32,
	math.MinInt, math.MinInt + 1, math.MaxInt, math.MaxInt - 1,
}

// memories with every valid number of cells and with the values at both limits
func goodMems() []impl.Mem {
	var list []impl.Mem
	for n := 1; n <= impl.MaxCells; n++ {
		list = append(list, filled(n, 0), counting(n))
	}
	for _, v := range goodValues {
		list = append(list, mem(v), mem(0, v), filled(impl.MaxCells, v))
	}
	return append(list, mem(goodValues...))
}

func badMems() []impl.Mem {
	list := []impl.Mem{{}, mem([]int{}...), filled(impl.MaxCells+1, 0), filled(1000, 1)}
	for _, v := range badValues {
		for at := range 3 {
			m := counting(3)
			m.Cells[at] = v
			list = append(list, m)
		}
		m := filled(impl.MaxCells, 0)
		m.Cells[impl.MaxCells-1] = v
		list = append(list, m)
	}
	return list
}

func TestMemLimits(t *testing.T) {
	if impl.MaxCells != 16 || impl.MaxValue != 1000000 {
		t.Error("limits", impl.MaxCells, impl.MaxValue)
	}
}

func TestMemOk(t *testing.T) {
	for _, m := range goodMems() {
		if !impl.MemOk(m) {
			t.Error("valid memory refused", m)
		}
	}
	for _, m := range badMems() {
		if impl.MemOk(m) {
			t.Error("invalid memory accepted", m)
		}
	}
}

func TestNewMem(t *testing.T) {
	for n := 1; n <= impl.MaxCells; n++ {
		m, ok := impl.NewMem(n)
		if !ok || !sameCells(m, filled(n, 0)) {
			t.Error("new", n, m, ok)
		}
	}
	for _, n := range []int{0, -1, impl.MaxCells + 1, math.MinInt, math.MaxInt} {
		m, ok := impl.NewMem(n)
		if ok || m.Cells != nil {
			t.Error("new accepts", n, m, ok)
		}
	}
}

func TestPeek(t *testing.T) {
	for _, m := range goodMems() {
		for a, v := range m.Cells {
			if got := impl.Peek(m, a); got != v {
				t.Error("peek", m, a, got)
			}
		}
		for _, a := range []int{-1, len(m.Cells), impl.MaxCells, math.MinInt, math.MaxInt} {
			if got := impl.Peek(m, a); got != 0 {
				t.Error("peek outside", m, a, got)
			}
		}
	}
	for _, m := range badMems() {
		for a := -1; a <= len(m.Cells); a++ {
			if got := impl.Peek(m, a); got != 0 {
				t.Error("peek in an invalid memory", m, a, got)
			}
		}
	}
}

func TestPokeIsReadBackAndLeavesOtherCells(t *testing.T) {
	for _, m := range goodMems() {
		before := slices.Clone(m.Cells)
		for a := range m.Cells {
			for _, v := range goodValues {
				want := slices.Clone(before)
				want[a] = v
				got, ok := impl.Poke(m, a, v)
				if !ok || !slices.Equal(got.Cells, want) || impl.Peek(got, a) != v {
					t.Error("poke", m, a, v, got, ok)
				}
				if !slices.Equal(m.Cells, before) {
					t.Fatal("poke changed its argument", before, a, v)
				}
			}
		}
	}
}

func checkPokeRefused(t *testing.T, m impl.Mem, a int, v int) {
	t.Helper()
	before := slices.Clone(m.Cells)
	got, ok := impl.Poke(m, a, v)
	if ok || !slices.Equal(got.Cells, before) {
		t.Error("poke not refused", m, a, v, got, ok)
	}
	for i := range got.Cells {
		got.Cells[i]++
	}
	if !slices.Equal(m.Cells, before) {
		t.Error("refused poke shares the memory of its argument", before, a, v)
	}
}

func TestPokeRefused(t *testing.T) {
	for _, m := range goodMems() {
		for _, a := range []int{-1, len(m.Cells), impl.MaxCells, math.MinInt, math.MaxInt} {
			checkPokeRefused(t, m, a, 1)
		}
		for _, v := range badValues {
			checkPokeRefused(t, m, 0, v)
		}
	}
	for _, m := range badMems() {
		for a := -1; a <= len(m.Cells); a++ {
			checkPokeRefused(t, m, a, 1)
		}
	}
}

func TestPokeSharesNoMemory(t *testing.T) {
	m := counting(3)
	a, _ := impl.Poke(m, 1, 7)
	b, _ := impl.Poke(a, 2, 8)
	a.Cells[0] = -1
	_ = append(a.Cells, -9)
	if !sameCells(m, counting(3)) || !sameCells(b, mem(100, 7, 8)) {
		t.Error("shared", m, a, b)
	}
}

func TestSameMem(t *testing.T) {
	for i, a := range goodMems() {
		for j, b := range goodMems() {
			if got := impl.SameMem(a, b); got != sameCells(a, b) {
				t.Error("same", i, j, a, b, got)
			}
		}
	}
	for _, m := range badMems() {
		if impl.SameMem(m, m) || impl.SameMem(m, filled(1, 0)) || impl.SameMem(filled(1, 0), m) {
			t.Error("invalid memory is the same", m)
		}
	}
	// Trailing zeros count: a shorter memory is another one.
	if impl.SameMem(mem(1), mem(1, 0)) || impl.SameMem(mem(1, 0), mem(1)) {
		t.Error("numbers of cells ignored")
	}
}

func TestDiffMem(t *testing.T) {
	all := make([]int, impl.MaxCells)
	for i := range all {
		all[i] = i
	}
	cases := []struct {
		a, b impl.Mem
		want []int
	}{
		{mem(1, 2, 3), mem(1, 2, 3), nil},
		{mem(1, 2, 3), mem(1, 5, 3), []int{1}},
		{mem(1, 2, 3), mem(0, 2, 4), []int{0, 2}},
		{mem(5), mem(-5), []int{0}},
		{filled(impl.MaxCells, -impl.MaxValue), filled(impl.MaxCells, impl.MaxValue), all},
		{counting(impl.MaxCells), counting(impl.MaxCells), nil},
		{mem(1, 0), mem(1), nil},
		{mem(1), mem(2, 3), nil},
		{mem(1), mem(impl.MaxValue + 1), nil},
		{impl.Mem{}, impl.Mem{}, nil},
		{filled(17, 0), filled(17, 1), nil},
	}
	for _, c := range cases {
		if got := impl.DiffMem(c.a, c.b); !slices.Equal(got, c.want) {
			t.Error("diff", c.a, c.b, got)
		}
		if got := impl.DiffMem(c.b, c.a); !slices.Equal(got, c.want) {
			t.Error("diff", c.b, c.a, got)
		}
	}
	for _, m := range badMems() {
		zeros := filled(len(m.Cells), 0)
		if impl.DiffMem(m, zeros) != nil || impl.DiffMem(zeros, m) != nil || impl.DiffMem(m, m) != nil {
			t.Error("diff of an invalid memory", m)
		}
	}
}

func TestMemText(t *testing.T) {
	cases := []struct {
		m    impl.Mem
		want string
	}{
		{mem(0), "0"},
		{mem(-5), "-5"},
		{mem(10, -20, 0), "10 -20 0"},
		{mem(impl.MaxValue, -impl.MaxValue), "1000000 -1000000"},
		{filled(impl.MaxCells, 7), "7" + strings.Repeat(" 7", 15)},
	}
	for _, c := range cases {
		if got := impl.MemText(c.m); got != c.want {
			t.Errorf("text of %v: %q", c.m, got)
		}
	}
	for _, m := range badMems() {
		if got := impl.MemText(m); got != "" {
			t.Errorf("text of an invalid memory %v: %q", m, got)
		}
	}
}

func TestParseMemInvertsMemText(t *testing.T) {
	for _, m := range goodMems() {
		text := impl.MemText(m)
		got, ok := impl.ParseMem(text)
		if !ok || !sameCells(got, m) || impl.MemText(got) != text {
			t.Errorf("parse %q: %v %v", text, got, ok)
		}
	}
}

func TestParseMemRefused(t *testing.T) {
	texts := []string{
		"", " ", "  ", "-", "--1", "-0", "+0", "+5", "00", "01", "-01", "0 01", "1 -0", "1 +2",
		" 1", "1 ", "1  2", " 1 2", "1 2 ", "1\t2", "1\n2", "1\n", "\n1", "1\x00", "1,2", "1\u00a02", "\u0661", "1 \xff",
		"1_000", "0x10", "0b1", "0o7", "1e3", "1.0", "1.", ".1", "a", "1 a", "1a", "5-", "- 5", "NaN",
		"1000001", "-1000001", "0 1000001", "-1000001 0", "10000000",
		"9223372036854775807", "-9223372036854775808", "9223372036854775808", "18446744073709551616", "18446744073709551617",
		"0" + strings.Repeat(" 0", impl.MaxCells), "0" + strings.Repeat(" 0", 1000),
		strings.Repeat("9", 1000), strings.Repeat("0", 1000), strings.Repeat(" ", 1000),
	}
	for _, text := range texts {
		m, ok := impl.ParseMem(text)
		if ok || m.Cells != nil {
			t.Errorf("parse accepts %q: %v %v", text, m, ok)
		}
	}
}

// Over a small alphabet, whatever is accepted must be the text of its result.
func TestParseMemAcceptsOnlyTexts(t *testing.T) {
	texts := []string{""}
	for range 5 {
		longer := []string{}
		for _, text := range texts {
			for _, c := range "01- +" {
				longer = append(longer, text+string(c))
			}
		}
		for _, text := range longer {
			m, ok := impl.ParseMem(text)
			if ok && impl.MemText(m) != text || !ok && m.Cells != nil {
				t.Errorf("parse %q: %v %v", text, m, ok)
			}
		}
		texts = longer
	}
}

func TestClamp(t *testing.T) {
	for _, v := range goodValues {
		if got := impl.Clamp(v); got != v {
			t.Error("clamp", v, got)
		}
	}
	for _, v := range badValues {
		want := impl.MaxValue
		if v < 0 {
			want = -impl.MaxValue
		}
		if got := impl.Clamp(v); got != want {
			t.Error("clamp", v, got)
		}
	}
}

func TestMemFunctionsKeepArguments(t *testing.T) {
	a, b := counting(4), mem(100, 5, 102, 6)
	impl.MemOk(a)
	impl.Peek(a, 1)
	impl.SameMem(a, b)
	impl.DiffMem(a, b)
	impl.MemText(a)
	if !sameCells(a, counting(4)) || !sameCells(b, mem(100, 5, 102, 6)) {
		t.Error("argument changed", a, b)
	}
}
