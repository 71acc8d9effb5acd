package impl

import (
	"slices"
	"strconv"
	"strings"
)

const (
	MaxCells = 16
	MaxValue = 1000000
)

type Mem struct {
	Cells []int
}

// A block holds the cells of a valid memory in an array, so that an assignment
// copies them and == compares them. The cells from size on stay 0.
type block struct {
	size  int
	cells [MaxCells]int
}

func blockOf(m Mem) (block, bool) {
	if !MemOk(m) {
		return block{}, false
	}
	b := block{size: len(m.Cells)}
	copy(b.cells[:], m.Cells)
	return b, true
}

func (b block) has(a int) bool { return indexOk(a, b.size) }

func (b block) same(c block) bool { return b.size == c.size && b.cells == c.cells }

// The receiver is a copy, so the result shares no memory with another block.
func (b block) mem() Mem { return Mem{Cells: b.cells[:b.size]} }

func copyMem(m Mem) Mem { return Mem{Cells: slices.Clone(m.Cells)} }

func valueOk(v int) bool { return v == Clamp(v) }

func indexOk(i int, size int) bool { return 0 <= i && i < size }

func MemOk(m Mem) bool {
	if len(m.Cells) < 1 || len(m.Cells) > MaxCells {
		return false
	}
	for _, v := range m.Cells {
		if !valueOk(v) {
			return false
		}
	}
	return true
}

func NewMem(n int) (Mem, bool) {
	if n < 1 || n > MaxCells {
		return Mem{}, false
	}
	return block{size: n}.mem(), true
}

func Peek(m Mem, a int) int {
	b, ok := blockOf(m)
	if !ok || !b.has(a) {
		return 0
	}
	return b.cells[a]
}

func Poke(m Mem, a int, v int) (Mem, bool) {
	b, ok := blockOf(m)
	if !ok || !b.has(a) || !valueOk(v) {
		return copyMem(m), false
	}
	b.cells[a] = v
	return b.mem(), true
}

func SameMem(a Mem, b Mem) bool {
	x, okX := blockOf(a)
	y, okY := blockOf(b)
	return okX && okY && x.same(y)
}

func DiffMem(a Mem, b Mem) []int {
	x, okX := blockOf(a)
	y, okY := blockOf(b)
	if !okX || !okY || x.size != y.size {
		return nil
	}
	var diff []int
	for i := range x.size {
		if x.cells[i] != y.cells[i] {
			diff = append(diff, i)
		}
	}
	return diff
}

func MemText(m Mem) string {
	if !MemOk(m) {
		return ""
	}
	return numbersText(m.Cells)
}

func numbersText(list []int) string {
	words := make([]string, len(list))
	for i, v := range list {
		words[i] = strconv.Itoa(v)
	}
	return strings.Join(words, " ")
}

func ParseMem(text string) (Mem, bool) {
	// One word more than allowed is enough to see that there are too many.
	words := strings.SplitN(text, " ", MaxCells+1)
	m := Mem{Cells: make([]int, len(words))}
	for i, word := range words {
		v, ok := parseNumber(word)
		if !ok {
			return Mem{}, false
		}
		m.Cells[i] = v
	}
	if !MemOk(m) {
		return Mem{}, false
	}
	return m, true
}

// parseNumber accepts only the text that strconv.Itoa gives, because Atoi also
// takes a plus sign, leading zeros and -0.
func parseNumber(word string) (int, bool) {
	v, err := strconv.Atoi(word)
	if err != nil || strconv.Itoa(v) != word {
		return 0, false
	}
	return v, true
}

func Clamp(x int) int { return min(max(x, -MaxValue), MaxValue) }
