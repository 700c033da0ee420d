package tests

import (
	"math/big"

	"loop.example/g00870/impl"
)

// bigMatrix has entries without a limit.
type bigMatrix struct {
	rows, columns int
	entries       []*big.Int
}

func bigMatrixOf(m impl.Matrix) bigMatrix {
	b := bigMatrix{rows: int(m.Rows), columns: int(m.Columns)}
	for _, e := range m.Entries {
		b.entries = append(b.entries, big.NewInt(e))
	}
	return b
}

func bigIdentity(n int) bigMatrix {
	one, _ := impl.IdentityMatrix(int64(n))
	return bigMatrixOf(one)
}

func (a bigMatrix) at(i int, j int) *big.Int {
	return a.entries[i*a.columns+j]
}

func (a bigMatrix) times(b bigMatrix) bigMatrix {
	p := bigMatrix{rows: a.rows, columns: b.columns}
	for i := range a.rows {
		for j := range b.columns {
			sum := new(big.Int)
			for k := range a.columns {
				sum.Add(sum, new(big.Int).Mul(a.at(i, k), b.at(k, j)))
			}
			p.entries = append(p.entries, sum)
		}
	}
	return p
}

// peak returns the greatest absolute value.
func (a bigMatrix) peak() *big.Int {
	most := new(big.Int)
	for _, e := range a.entries {
		if e.CmpAbs(most) > 0 {
			most.Abs(e)
		}
	}
	return most
}

func (a bigMatrix) small() impl.Matrix {
	m := matrixOf(int64(a.rows), int64(a.columns))
	for _, e := range a.entries {
		m.Entries = append(m.Entries, e.Int64())
	}
	return m
}

// withEntry returns the identity matrix with another entry in one place.
func withEntry(n int, i int, j int, x *big.Int) bigMatrix {
	m := bigIdentity(n)
	m.entries[i*n+j] = x
	return m
}

func exchanging(n int, i int, j int) bigMatrix {
	m := bigIdentity(n)
	m.entries[i*n+i], m.entries[i*n+j] = m.entries[i*n+j], m.entries[i*n+i]
	m.entries[j*n+j], m.entries[j*n+i] = m.entries[j*n+i], m.entries[j*n+j]
	return m
}

// walk follows the steps of chapter 2 with numbers of any size; each step is a multiplication by a
// matrix and by its inverse.
type walk struct {
	left, leftInverse, diagonal, right, rightInverse bigMatrix
	// peaks are the greatest absolute values that the five matrices had, in the order above.
	peaks [5]*big.Int
}

func walkOf(m impl.Matrix) *walk {
	w := &walk{diagonal: bigMatrixOf(m)}
	w.left, w.leftInverse = bigIdentity(int(m.Rows)), bigIdentity(int(m.Rows))
	w.right, w.rightInverse = bigIdentity(int(m.Columns)), bigIdentity(int(m.Columns))
	for i := range w.peaks {
		w.peaks[i] = new(big.Int)
	}
	w.measure()
	for k := 0; w.settle(k); k++ {
	}
	return w
}

func (w *walk) measure() {
	for i, m := range []bigMatrix{w.left, w.leftInverse, w.diagonal, w.right, w.rightInverse} {
		if p := m.peak(); p.Cmp(w.peaks[i]) > 0 {
			w.peaks[i] = p
		}
	}
}

// exceeds reports whether an entry of matrix i was greater than MaxEntry at some time.
func (w *walk) exceeds(i int) bool {
	return w.peaks[i].Cmp(big.NewInt(impl.MaxEntry)) > 0
}

func (w *walk) exceedsAnywhere() bool {
	return w.exceeds(0) || w.exceeds(1) || w.exceeds(2) || w.exceeds(3) || w.exceeds(4)
}

func (w *walk) reduction() impl.Reduction {
	return impl.Reduction{Left: w.left.small(), LeftInverse: w.leftInverse.small(), Diagonal: w.diagonal.small(), Right: w.right.small(), RightInverse: w.rightInverse.small()}
}

func (w *walk) fromLeft(e bigMatrix, inverse bigMatrix) {
	w.diagonal, w.left = e.times(w.diagonal), e.times(w.left)
	w.leftInverse = w.leftInverse.times(inverse)
	w.measure()
}

func (w *walk) fromRight(e bigMatrix, inverse bigMatrix) {
	w.diagonal, w.right = w.diagonal.times(e), w.right.times(e)
	w.rightInverse = inverse.times(w.rightInverse)
	w.measure()
}

// settle makes the steps for k, and returns false if there is nothing left to do.
func (w *walk) settle(k int) bool {
	for done := false; !done; done = w.finish(k) {
		i, j := w.smallest(k)
		if i < 0 {
			return false
		}
		w.exchange(k, i, j)
		rows, columns := w.diagonal.rows, w.diagonal.columns
		for i := k + 1; i < rows; i++ {
			q := new(big.Int).Div(w.diagonal.at(i, k), w.diagonal.at(k, k))
			w.fromLeft(withEntry(rows, i, k, new(big.Int).Neg(q)), withEntry(rows, i, k, q))
		}
		for j := k + 1; j < columns; j++ {
			q := new(big.Int).Div(w.diagonal.at(k, j), w.diagonal.at(k, k))
			w.fromRight(withEntry(columns, k, j, new(big.Int).Neg(q)), withEntry(columns, k, j, q))
		}
	}
	return true
}

func (w *walk) smallest(k int) (int, int) {
	row, column := -1, -1
	for i := k; i < w.diagonal.rows; i++ {
		for j := k; j < w.diagonal.columns; j++ {
			x := w.diagonal.at(i, j)
			if x.Sign() != 0 && (row < 0 || x.CmpAbs(w.diagonal.at(row, column)) < 0) {
				row, column = i, j
			}
		}
	}
	return row, column
}

func (w *walk) exchange(k int, i int, j int) {
	rows, columns := w.diagonal.rows, w.diagonal.columns
	w.fromLeft(exchanging(rows, k, i), exchanging(rows, k, i))
	w.fromRight(exchanging(columns, k, j), exchanging(columns, k, j))
	if w.diagonal.at(k, k).Sign() < 0 {
		minus := withEntry(rows, k, k, big.NewInt(-1))
		w.fromLeft(minus, minus)
	}
}

// finish reports whether the steps for k are done; if only a divisor is wrong, it adds a row.
func (w *walk) finish(k int) bool {
	d := w.diagonal
	for i := k + 1; i < d.rows; i++ {
		if d.at(i, k).Sign() != 0 {
			return false
		}
	}
	for j := k + 1; j < d.columns; j++ {
		if d.at(k, j).Sign() != 0 {
			return false
		}
	}
	for i := k + 1; i < d.rows; i++ {
		for j := k + 1; j < d.columns; j++ {
			if new(big.Int).Rem(d.at(i, j), d.at(k, k)).Sign() != 0 {
				w.fromLeft(withEntry(d.rows, k, i, big.NewInt(1)), withEntry(d.rows, k, i, big.NewInt(-1)))
				return false
			}
		}
	}
	return true
}
