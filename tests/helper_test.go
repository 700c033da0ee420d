package tests

import (
	"slices"
	"testing"

	"loop.example/g00870/impl"
)

// spareMark is what the tests write behind the end of a list that they pass to the program.
const spareMark = 77

func matrixOf(rows int64, columns int64, entries ...int64) impl.Matrix {
	return impl.Matrix{Rows: rows, Columns: columns, Entries: entries}
}

func sameMatrix(a impl.Matrix, b impl.Matrix) bool {
	return a.Rows == b.Rows && a.Columns == b.Columns && slices.Equal(a.Entries, b.Entries)
}

func isZeroMatrix(m impl.Matrix) bool {
	return m.Rows == 0 && m.Columns == 0 && len(m.Entries) == 0
}

// repeated returns n copies of x.
func repeated(x int64, n int) []int64 {
	return slices.Repeat([]int64{x}, n)
}

// numbers is a sequence that looks irregular and is the same in every run.
type numbers uint64

func (s *numbers) next(low int64, high int64) int64 {
	*s = *s*6364136223846793005 + 1442695040888963407
	return low + int64(uint64(*s)>>33)%(high-low+1)
}

func (s *numbers) matrix(rows int64, columns int64, size int64) impl.Matrix {
	m := matrixOf(rows, columns)
	for range rows * columns {
		m.Entries = append(m.Entries, s.next(-size, size))
	}
	return m
}

// guarded returns a copy of m with room behind its entries, and a check that neither the entries
// nor that room have been written.
func guarded(t *testing.T, m impl.Matrix) (impl.Matrix, func()) {
	t.Helper()
	n := len(m.Entries)
	whole := append(slices.Clone(m.Entries), repeated(spareMark, 8)...)
	before := slices.Clone(whole)
	g := impl.Matrix{Rows: m.Rows, Columns: m.Columns, Entries: whole[:n]}
	return g, func() {
		t.Helper()
		if !slices.Equal(whole, before) {
			t.Fatal("an argument or the room behind it was changed", whole, before)
		}
	}
}

// spoilLists overwrites all the memory of the lists of results, each list by a number of its own, and finds
// lists that share some.
func spoilLists(t *testing.T, lists [][]int64) {
	t.Helper()
	for i, list := range lists {
		copy(list[:cap(list)], repeated(int64(1000+i), cap(list)))
	}
	for i, list := range lists {
		if !slices.Equal(list[:cap(list)], repeated(int64(1000+i), cap(list))) {
			t.Fatal("two lists share memory", i)
		}
	}
}
