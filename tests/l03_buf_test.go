package tests

import (
	"math"
	"slices"
	"testing"

	"loop.example/g00712/impl"
)

func slot(a int, v int) impl.Slot { return impl.Slot{A: a, V: v} }

func buf(list ...impl.Slot) []impl.Slot { return list }

var badAddresses = []int{-1, -2, impl.MaxCells, impl.MaxCells + 1, 1000, math.MinInt, math.MaxInt}

// buffers of every valid length and with the addresses and values at both limits
func goodBufs() [][]impl.Slot {
	list := [][]impl.Slot{nil, buf()}
	for _, v := range goodValues {
		for _, a := range []int{0, 1, impl.MaxCells - 1} {
			s := slot(a, v)
			list = append(list, buf(s), buf(slot(1, 5), s), buf(slot(1, 5), slot(0, 6), s), buf(s, s, s))
		}
	}
	return list
}

func badSlots() []impl.Slot {
	var list []impl.Slot
	for _, a := range badAddresses {
		list = append(list, slot(a, 0))
	}
	for _, v := range badValues {
		list = append(list, slot(0, v))
	}
	return list
}

// buffers with an invalid slot at each place, and buffers that are too long
func badBufs() [][]impl.Slot {
	var list [][]impl.Slot
	for _, s := range badSlots() {
		list = append(list, buf(s), buf(s, slot(1, 5)), buf(slot(1, 5), s), buf(slot(1, 5), s, slot(2, 6)), buf(slot(1, 5), slot(2, 6), s))
	}
	for _, size := range []int{impl.MaxBuf + 1, impl.MaxBuf + 2, 100} {
		list = append(list, slices.Repeat(buf(slot(1, 5)), size))
	}
	return list
}

// all buffers whose slots have an address less than cells and one of the values
func smallBufs(cells int, values ...int) [][]impl.Slot {
	list := [][]impl.Slot{nil}
	for at := 0; at < len(list); at++ {
		if len(list[at]) == impl.MaxBuf {
			continue
		}
		for a := range cells {
			for _, v := range values {
				list = append(list, append(slices.Clone(list[at]), slot(a, v)))
			}
		}
	}
	return list
}

func TestBufLimits(t *testing.T) {
	if impl.MaxBuf != 3 {
		t.Error("limit", impl.MaxBuf)
	}
}

func TestBufOk(t *testing.T) {
	for _, b := range goodBufs() {
		if !impl.BufOk(b) {
			t.Error("valid buffer refused", b)
		}
	}
	for _, b := range badBufs() {
		if impl.BufOk(b) {
			t.Error("invalid buffer accepted", b)
		}
	}
}

func TestPutSlotAppends(t *testing.T) {
	for _, b := range goodBufs() {
		if len(b) == impl.MaxBuf {
			continue
		}
		for _, v := range goodValues {
			for a := range impl.MaxCells {
				got, ok := impl.PutSlot(b, a, v)
				if !ok || !slices.Equal(got, slices.Concat(b, buf(slot(a, v)))) {
					t.Error("put", b, a, v, got, ok)
				}
			}
		}
	}
}

func checkPutRefused(t *testing.T, b []impl.Slot, a int, v int) {
	t.Helper()
	before := slices.Clone(b)
	got, ok := impl.PutSlot(b, a, v)
	if ok || !slices.Equal(got, before) {
		t.Error("put not refused", b, a, v, got, ok)
	}
	for i := range got {
		got[i].V++
	}
	if !slices.Equal(b, before) {
		t.Error("refused put shares the memory of its argument", before, a, v)
	}
}

func TestPutSlotRefused(t *testing.T) {
	for _, b := range goodBufs() {
		if len(b) == impl.MaxBuf {
			checkPutRefused(t, b, 1, 8)
		}
		for _, s := range badSlots() {
			checkPutRefused(t, b, s.A, s.V)
		}
	}
	for _, b := range badBufs() {
		checkPutRefused(t, b, 1, 8)
	}
}

func TestPutSlotSharesNoMemory(t *testing.T) {
	// The argument has room behind its end, where an append in place would write.
	room := buf(slot(1, 5), slot(2, 6), slot(3, 7))
	b := room[:1]
	first, _ := impl.PutSlot(b, 4, 40)
	second, _ := impl.PutSlot(b, 5, 50)
	third, _ := impl.PutSlot(first, 6, 60)
	fourth, _ := impl.PutSlot(first, 7, 70)
	first[0] = slot(9, 9)
	if !slices.Equal(room, buf(slot(1, 5), slot(2, 6), slot(3, 7))) || !slices.Equal(second, buf(slot(1, 5), slot(5, 50))) {
		t.Error("shared with the argument", room, second)
	}
	if !slices.Equal(third, buf(slot(1, 5), slot(4, 40), slot(6, 60))) || !slices.Equal(fourth, buf(slot(1, 5), slot(4, 40), slot(7, 70))) {
		t.Error("shared between results", third, fourth)
	}
}

func TestDrainOneWritesTheOldest(t *testing.T) {
	cases := []struct {
		b    []impl.Slot
		m    impl.Mem
		rest []impl.Slot
		want impl.Mem
	}{
		{buf(slot(1, 5)), mem(1, 2, 3), nil, mem(1, 5, 3)},
		{buf(slot(1, 5), slot(0, 6), slot(1, 7)), mem(1, 2, 3), buf(slot(0, 6), slot(1, 7)), mem(1, 5, 3)},
		{buf(slot(0, 6), slot(1, 7)), mem(1, 5, 3), buf(slot(1, 7)), mem(6, 5, 3)},
		{buf(slot(2, 3), slot(2, 4)), mem(1, 2, 3), buf(slot(2, 4)), mem(1, 2, 3)},
		{buf(slot(0, impl.MaxValue)), mem(-impl.MaxValue), nil, mem(impl.MaxValue)},
		{buf(slot(15, -impl.MaxValue)), filled(16, 0), nil, mem(append(make([]int, 15), -impl.MaxValue)...)},
		// Only the oldest slot has to fit into the memory.
		{buf(slot(0, 4), slot(15, 9)), mem(1), buf(slot(15, 9)), mem(4)},
	}
	for _, c := range cases {
		rest, m, ok := impl.DrainOne(c.b, c.m)
		if !ok || !slices.Equal(rest, c.rest) || !sameCells(m, c.want) {
			t.Error("drain", c.b, c.m, rest, m, ok)
		}
	}
}

func checkDrainOneRefused(t *testing.T, b []impl.Slot, m impl.Mem) {
	t.Helper()
	slots, cells := slices.Clone(b), slices.Clone(m.Cells)
	rest, got, ok := impl.DrainOne(b, m)
	if ok || !slices.Equal(rest, slots) || !slices.Equal(got.Cells, cells) {
		t.Error("drain not refused", b, m, rest, got, ok)
	}
	for i := range rest {
		rest[i].V++
	}
	for i := range got.Cells {
		got.Cells[i]++
	}
	if !slices.Equal(b, slots) || !slices.Equal(m.Cells, cells) {
		t.Error("refused drain shares the memory of its arguments", slots, cells)
	}
}

func TestDrainOneRefused(t *testing.T) {
	for _, m := range goodMems() {
		checkDrainOneRefused(t, nil, m)
		checkDrainOneRefused(t, buf(), m)
		if len(m.Cells) < impl.MaxCells {
			checkDrainOneRefused(t, buf(slot(len(m.Cells), 1)), m)
			checkDrainOneRefused(t, buf(slot(impl.MaxCells-1, 1), slot(0, 1)), m)
		}
	}
	for _, b := range badBufs() {
		checkDrainOneRefused(t, b, counting(4))
		checkDrainOneRefused(t, b, impl.Mem{})
	}
	for _, m := range badMems() {
		checkDrainOneRefused(t, nil, m)
		checkDrainOneRefused(t, buf(slot(0, 1), slot(0, 2)), m)
	}
}

func TestDrainOneSharesNoMemory(t *testing.T) {
	b, m := buf(slot(0, 5), slot(1, 6), slot(2, 7)), counting(3)
	rest, got, _ := impl.DrainOne(b, m)
	rest[0] = slot(9, 9)
	_ = append(rest, slot(8, 8))
	got.Cells[1] = -9
	if !slices.Equal(b, buf(slot(0, 5), slot(1, 6), slot(2, 7))) || !sameCells(m, counting(3)) {
		t.Error("shared", b, m)
	}
}

func TestDrainAll(t *testing.T) {
	cases := []struct {
		b       []impl.Slot
		m, want impl.Mem
	}{
		{nil, mem(1, 2, 3), mem(1, 2, 3)},
		{buf(), mem(impl.MaxValue), mem(impl.MaxValue)},
		{buf(slot(1, 5)), mem(1, 2, 3), mem(1, 5, 3)},
		// The newest slot of an address is written last.
		{buf(slot(1, 5), slot(0, 6), slot(1, 7)), mem(1, 2, 3), mem(6, 7, 3)},
		{buf(slot(1, 7), slot(1, 6), slot(1, 5)), mem(1, 2, 3), mem(1, 5, 3)},
		{buf(slot(0, 9), slot(0, 0)), mem(4), mem(0)},
		{buf(slot(0, 1), slot(15, 2), slot(7, 3)), filled(16, 0), mem(1, 0, 0, 0, 0, 0, 0, 3, 0, 0, 0, 0, 0, 0, 0, 2)},
	}
	for _, c := range cases {
		before := slices.Clone(c.m.Cells)
		got, ok := impl.DrainAll(c.b, c.m)
		if !ok || !sameCells(got, c.want) {
			t.Error("drain", c.b, c.m, got, ok)
		}
		for i := range got.Cells {
			got.Cells[i]++
		}
		if !slices.Equal(c.m.Cells, before) {
			t.Error("drain changed or shares its argument", c.b, before)
		}
	}
}

func checkDrainAllRefused(t *testing.T, b []impl.Slot, m impl.Mem) {
	t.Helper()
	slots, cells := slices.Clone(b), slices.Clone(m.Cells)
	got, ok := impl.DrainAll(b, m)
	if ok || !slices.Equal(got.Cells, cells) {
		t.Error("drain not refused", b, m, got, ok)
	}
	for i := range got.Cells {
		got.Cells[i]++
	}
	if !slices.Equal(b, slots) || !slices.Equal(m.Cells, cells) {
		t.Error("refused drain shares the memory of its arguments", slots, cells)
	}
}

func TestDrainAllRefused(t *testing.T) {
	for _, b := range badBufs() {
		checkDrainAllRefused(t, b, counting(4))
		checkDrainAllRefused(t, b, impl.Mem{})
	}
	for _, m := range badMems() {
		checkDrainAllRefused(t, nil, m)
		checkDrainAllRefused(t, buf(slot(0, 1)), m)
	}
	// A slot outside the memory at each place: nothing of the slots before it is written.
	for _, b := range [][]impl.Slot{
		buf(slot(3, 1)), buf(slot(15, 1)),
		buf(slot(3, 1), slot(0, 2), slot(1, 3)),
		buf(slot(0, 1), slot(3, 2), slot(1, 3)),
		buf(slot(0, 1), slot(1, 2), slot(3, 3)),
	} {
		checkDrainAllRefused(t, b, counting(3))
	}
}

// DrainAll is DrainOne until the buffer is empty.
func TestDrainAllRepeatsDrainOne(t *testing.T) {
	for _, b := range smallBufs(3, -1, 5) {
		for _, start := range []impl.Mem{mem(10), mem(10, 20), mem(10, 20, 30)} {
			rest, want, ok := b, start, true
			for ok && len(rest) > 0 {
				rest, want, ok = impl.DrainOne(rest, want)
			}
			if !ok {
				want = start
			}
			got, gotOk := impl.DrainAll(b, start)
			if gotOk != ok || !sameCells(got, want) {
				t.Error("drain", b, start, got, gotOk)
			}
		}
	}
}

func TestReadThrough(t *testing.T) {
	m := mem(1, 2, 3)
	cases := []struct {
		b       []impl.Slot
		a, want int
	}{
		{nil, 0, 1},
		{buf(), 2, 3},
		{buf(slot(1, 5)), 1, 5},
		{buf(slot(1, 5)), 0, 1},
		// the newest slot of the address, wherever the older ones stand
		{buf(slot(1, 5), slot(0, 6), slot(1, 7)), 1, 7},
		{buf(slot(1, 5), slot(0, 6), slot(1, 7)), 0, 6},
		{buf(slot(1, 5), slot(0, 6), slot(1, 7)), 2, 3},
		{buf(slot(1, 5), slot(1, 6), slot(0, 7)), 1, 6},
		{buf(slot(0, 5), slot(1, 6), slot(1, 4)), 1, 4},
		{buf(slot(1, 9), slot(1, 8), slot(1, -7)), 1, -7},
		// a pending 0 is a value, too
		{buf(slot(1, 5), slot(1, 0)), 1, 0},
		{buf(slot(2, impl.MaxValue), slot(2, -impl.MaxValue)), 2, -impl.MaxValue},
		// outside the memory only a slot has a value
		{buf(slot(3, 5)), 3, 5},
		{buf(slot(15, 5), slot(15, 6)), 15, 6},
		{buf(slot(1, 5)), 3, 0},
		{buf(slot(1, 5)), -1, 0},
		{buf(slot(1, 5)), 16, 0},
		{nil, math.MinInt, 0},
		{nil, math.MaxInt, 0},
	}
	for _, c := range cases {
		if got := impl.ReadThrough(c.b, m, c.a); got != c.want {
			t.Error("read", c.b, c.a, got)
		}
	}
}

func TestReadThroughInvalid(t *testing.T) {
	addresses := slices.Concat([]int{0, 1, 2, 15}, badAddresses)
	for _, b := range badBufs() {
		for _, a := range addresses {
			if got := impl.ReadThrough(b, counting(3), a); got != 0 {
				t.Error("read through an invalid buffer", b, a, got)
			}
		}
	}
	for _, m := range badMems() {
		for _, a := range addresses {
			if got := impl.ReadThrough(buf(slot(0, 5), slot(1, 6)), m, a); got != 0 {
				t.Error("read in an invalid memory", m, a, got)
			}
			if got := impl.ReadThrough(nil, m, a); got != 0 {
				t.Error("read in an invalid memory", m, a, got)
			}
		}
	}
}

// The guarantee: what is read through a buffer is in memory once it is drained.
func TestReadThroughIsMemoryAfterDraining(t *testing.T) {
	bufs := slices.Concat(goodBufs(), smallBufs(3, -1, 0, 7))
	mems := []impl.Mem{counting(3), counting(impl.MaxCells), filled(impl.MaxCells, -impl.MaxValue)}
	for _, b := range bufs {
		for _, m := range mems {
			drained, ok := impl.DrainAll(b, m)
			if !ok {
				continue // a slot is outside this memory
			}
			for a := -1; a <= impl.MaxCells; a++ {
				if got := impl.ReadThrough(b, m, a); got != impl.Peek(drained, a) {
					t.Error("read", b, m, a, got, "drained", drained)
				}
			}
		}
		if _, ok := impl.DrainAll(b, counting(impl.MaxCells)); !ok {
			t.Error("a full memory takes every buffer", b)
		}
	}
}

// Also while a buffer is drained slot by slot, the thread always reads the same.
func TestReadThroughWhileDraining(t *testing.T) {
	for _, b := range smallBufs(3, -1, 0, 7) {
		start := counting(3)
		rest, m, ok := b, start, true
		for ok {
			for a := range 3 {
				if impl.ReadThrough(rest, m, a) != impl.ReadThrough(b, start, a) {
					t.Error("read", rest, m, a, "but at first", b)
				}
			}
			rest, m, ok = impl.DrainOne(rest, m)
		}
		if len(rest) != 0 {
			t.Error("not drained", b, rest)
		}
	}
}

func TestWaits(t *testing.T) {
	for _, b := range slices.Concat(goodBufs(), smallBufs(3, 5)) {
		sum := 0
		for a := range impl.MaxCells {
			want := 0
			for _, s := range b {
				if s.A == a {
					want++
				}
			}
			got := impl.Waits(b, a)
			if got != want {
				t.Error("waits", b, a, got)
			}
			sum += got
		}
		if sum != len(b) {
			t.Error("waits in all", b, sum)
		}
		for _, a := range badAddresses {
			if got := impl.Waits(b, a); got != 0 {
				t.Error("waits", b, a, got)
			}
		}
	}
	for _, b := range badBufs() {
		for _, a := range slices.Concat([]int{0, 1}, badAddresses) {
			if got := impl.Waits(b, a); got != -1 {
				t.Error("waits in an invalid buffer", b, a, got)
			}
		}
	}
}

func TestBufText(t *testing.T) {
	cases := []struct {
		b    []impl.Slot
		want string
	}{
		{nil, "-"},
		{buf(), "-"},
		{buf(slot(0, 0)), "0=0"},
		{buf(slot(15, -1)), "15=-1"},
		{buf(slot(1, 5), slot(0, 6), slot(1, 7)), "1=5 0=6 1=7"},
		{buf(slot(10, impl.MaxValue), slot(2, -impl.MaxValue)), "10=1000000 2=-1000000"},
	}
	for _, c := range cases {
		if got := impl.BufText(c.b); got != c.want {
			t.Errorf("text of %v: %q", c.b, got)
		}
	}
	for _, b := range badBufs() {
		if got := impl.BufText(b); got != "" {
			t.Errorf("text of an invalid buffer %v: %q", b, got)
		}
	}
}

func TestBufFunctionsKeepArguments(t *testing.T) {
	b, m := buf(slot(1, 5), slot(0, 6), slot(1, 7)), counting(3)
	impl.BufOk(b)
	impl.PutSlot(b, 1, 8)
	impl.DrainOne(b, m)
	impl.DrainAll(b, m)
	impl.ReadThrough(b, m, 1)
	impl.Waits(b, 1)
	impl.BufText(b)
	if !slices.Equal(b, buf(slot(1, 5), slot(0, 6), slot(1, 7))) || !sameCells(m, counting(3)) {
		t.Error("argument changed", b, m)
	}
}
