package tests

import (
	"math"
	"math/big"
	"regexp"
	"slices"
	"strconv"
	"strings"
	"testing"

	"loop.example/g00870/impl"
)

const (
	minInt = math.MinInt64
	maxInt = math.MaxInt64
)

func invalidMatrices() []impl.Matrix {
	long := repeated(0, 49)
	return []impl.Matrix{
		matrixOf(2, 2, 1),
		matrixOf(2, 2, 1, 2, 3, 4, 5),
		matrixOf(1, 1),
		matrixOf(0, 0, 1),
		matrixOf(0, 3, 1, 2, 3),
		matrixOf(-1, 0),
		matrixOf(0, -1),
		matrixOf(-1, -1, 1),
		matrixOf(-1, 1, 1),
		matrixOf(1, -1, 1),
		matrixOf(-2, -2, 1, 2, 3, 4),
		matrixOf(49, 0),
		matrixOf(0, 49),
		matrixOf(49, 1, long...),
		matrixOf(1, 49, long...),
		matrixOf(1<<32, 1<<32),
		matrixOf(1<<62, 4),
		matrixOf(maxInt, 0),
		matrixOf(0, maxInt),
		matrixOf(minInt, 0),
		matrixOf(0, minInt),
		matrixOf(minInt, minInt),
		matrixOf(maxInt, maxInt, 1),
		matrixOf(1, 1, impl.MaxEntry+1),
		matrixOf(1, 1, -impl.MaxEntry-1),
		matrixOf(1, 2, 0, maxInt),
		matrixOf(2, 1, minInt, 0),
	}
}

func validMatrices() []impl.Matrix {
	full := repeated(-impl.MaxEntry, 48*48)
	return []impl.Matrix{
		{},
		matrixOf(0, 3),
		matrixOf(3, 0),
		matrixOf(0, 48),
		matrixOf(48, 0),
		matrixOf(1, 1, 0),
		matrixOf(1, 1, impl.MaxEntry),
		matrixOf(1, 1, -impl.MaxEntry),
		matrixOf(2, 2, 1, 2, 3, 4),
		matrixOf(2, 3, 1, -2, 3, -4, 5, -6),
		matrixOf(48, 48, full...),
		matrixOf(1, 48, full[:48]...),
		matrixOf(48, 1, full[:48]...),
	}
}

func TestConstants(t *testing.T) {
	codes := []int64{impl.ErrNone, impl.ErrInvalid, impl.ErrRange, impl.ErrLimit, impl.ErrNotFound, impl.ErrState, impl.ErrSyntax}
	for i, code := range codes {
		if code != int64(i) {
			t.Fatal(i, code)
		}
	}
	if impl.MaxSide != 48 || impl.MaxEntry != 1000000000000 || impl.MaxVolume != 1000000000 {
		t.Fatal("wrong limits")
	}
}

func TestIsMatrix(t *testing.T) {
	for _, m := range validMatrices() {
		if !impl.IsMatrix(m) {
			t.Error("not accepted:", m)
		}
	}
	for _, m := range invalidMatrices() {
		if impl.IsMatrix(m) {
			t.Error("accepted:", m)
		}
	}
}

func TestIdentityMatrix(t *testing.T) {
	for n := int64(0); n <= impl.MaxSide; n++ {
		m, ok := impl.IdentityMatrix(n)
		if !ok || m.Rows != n || m.Columns != n || int64(len(m.Entries)) != n*n {
			t.Fatal(n, m, ok)
		}
		for k, e := range m.Entries {
			if (e == 1) != (int64(k)/n == int64(k)%n) || e != 0 && e != 1 {
				t.Fatal(n, k, e)
			}
		}
	}
	for _, n := range []int64{-1, 49, minInt, maxInt} {
		if m, ok := impl.IdentityMatrix(n); ok || !isZeroMatrix(m) {
			t.Fatal(n, m, ok)
		}
	}
}

func TestEntryAt(t *testing.T) {
	m := matrixOf(2, 3, 10, 11, 12, 20, 21, 22)
	for i := range int64(2) {
		for j := range int64(3) {
			if x, ok := impl.EntryAt(m, i, j); !ok || x != 10*(i+1)+j {
				t.Fatal(i, j, x, ok)
			}
		}
	}
	places := [][2]int64{{-1, 0}, {0, -1}, {2, 0}, {0, 3}, {1, -1}, {-1, 4}, {minInt, 0}, {0, minInt}, {maxInt, 0}, {0, maxInt}, {1, maxInt}, {math.MaxInt64/3 + 1, 0}, {maxInt, maxInt}, {minInt, minInt}}
	for _, p := range places {
		if x, ok := impl.EntryAt(m, p[0], p[1]); ok || x != 0 {
			t.Fatal(p, x, ok)
		}
	}
	for _, m := range append(invalidMatrices(), matrixOf(0, 3), matrixOf(3, 0), impl.Matrix{}) {
		if x, ok := impl.EntryAt(m, 0, 0); ok || x != 0 {
			t.Fatal(m, x, ok)
		}
	}
}

func TestTranspose(t *testing.T) {
	if m := impl.Transpose(matrixOf(2, 3, 1, 2, 3, 4, 5, 6)); !sameMatrix(m, matrixOf(3, 2, 1, 4, 2, 5, 3, 6)) {
		t.Fatal(m)
	}
	if m := impl.Transpose(matrixOf(0, 3)); !sameMatrix(m, matrixOf(3, 0)) {
		t.Fatal(m)
	}
	for _, m := range validMatrices() {
		if !sameMatrix(impl.Transpose(impl.Transpose(m)), m) {
			t.Fatal(m)
		}
	}
	for _, m := range invalidMatrices() {
		if x := impl.Transpose(m); !isZeroMatrix(x) {
			t.Fatal(m, x)
		}
	}
}

// bigProduct returns the product, and whether the absolute values of the summands of every entry
// add up to at most MaxEntry.
func bigProduct(a impl.Matrix, b impl.Matrix) (impl.Matrix, bool) {
	p, fits := matrixOf(a.Rows, b.Columns), true
	for i := range a.Rows {
		for j := range b.Columns {
			sum, size := new(big.Int), new(big.Int)
			for k := range a.Columns {
				x := big.NewInt(a.Entries[i*a.Columns+k])
				x.Mul(x, big.NewInt(b.Entries[k*b.Columns+j]))
				sum.Add(sum, x)
				size.Add(size, x.Abs(x))
			}
			fits = fits && size.Cmp(big.NewInt(impl.MaxEntry)) <= 0
			p.Entries = append(p.Entries, sum.Int64())
		}
	}
	return p, fits
}

func TestMultiplyOrdinary(t *testing.T) {
	seed, limits := numbers(1), 0
	for range 2000 {
		r, k, c := seed.next(0, 5), seed.next(0, 5), seed.next(0, 5)
		size := []int64{3, 100, 600000, impl.MaxEntry}[seed.next(0, 3)]
		a, b := seed.matrix(r, k, size), seed.matrix(k, c, size)
		want, fits := bigProduct(a, b)
		got, code := impl.MultiplyMatrices(a, b)
		if fits && (code != impl.ErrNone || !sameMatrix(got, want)) {
			t.Fatal(a, b, got, code, want)
		}
		if !fits && (code != impl.ErrLimit || !isZeroMatrix(got)) {
			t.Fatal(a, b, got, code)
		}
		if !fits {
			limits++
		}
	}
	if limits < 100 || limits > 1900 {
		t.Fatal("the cases are one-sided:", limits)
	}
}

func TestMultiplyWithIdentity(t *testing.T) {
	for _, m := range validMatrices() {
		left, _ := impl.IdentityMatrix(m.Rows)
		right, _ := impl.IdentityMatrix(m.Columns)
		if p, code := impl.MultiplyMatrices(left, m); code != impl.ErrNone || !sameMatrix(p, m) {
			t.Fatal(m, p, code)
		}
		if p, code := impl.MultiplyMatrices(m, right); code != impl.ErrNone || !sameMatrix(p, m) {
			t.Fatal(m, p, code)
		}
	}
}

func TestMultiplyEdges(t *testing.T) {
	const most = impl.MaxEntry
	rows := []struct {
		a, b, want impl.Matrix
		code       int64
	}{
		{matrixOf(1, 2, 1, 2), matrixOf(2, 1, 3, 4), matrixOf(1, 1, 11), impl.ErrNone},
		{matrixOf(2, 0), matrixOf(0, 3), matrixOf(2, 3, 0, 0, 0, 0, 0, 0), impl.ErrNone},
		{matrixOf(0, 2), matrixOf(2, 3, 1, 2, 3, 4, 5, 6), matrixOf(0, 3), impl.ErrNone},
		{matrixOf(3, 2, 1, 2, 3, 4, 5, 6), matrixOf(2, 0), matrixOf(3, 0), impl.ErrNone},
		{impl.Matrix{}, impl.Matrix{}, impl.Matrix{}, impl.ErrNone},
		{matrixOf(1, 1, most), matrixOf(1, 1, -1), matrixOf(1, 1, -most), impl.ErrNone},
		{matrixOf(1, 1, 1000000), matrixOf(1, 1, 1000000), matrixOf(1, 1, most), impl.ErrNone},
		{matrixOf(1, 2, most-1, 1), matrixOf(2, 1, 1, 1), matrixOf(1, 1, most), impl.ErrNone},
		{matrixOf(1, 2, most, 1), matrixOf(2, 1, 1, 1), impl.Matrix{}, impl.ErrLimit},
		{matrixOf(1, 2, -most, -1), matrixOf(2, 1, 1, 1), impl.Matrix{}, impl.ErrLimit},
		{matrixOf(1, 2, most/2, most/2), matrixOf(2, 1, 1, -1), matrixOf(1, 1, 0), impl.ErrNone},
		{matrixOf(1, 2, most/2, most/2+1), matrixOf(2, 1, 1, -1), impl.Matrix{}, impl.ErrLimit},
		{matrixOf(1, 2, most, 1), matrixOf(2, 1, 1, -1), impl.Matrix{}, impl.ErrLimit},
		{matrixOf(1, 2, most, most), matrixOf(2, 1, 1, -1), impl.Matrix{}, impl.ErrLimit},
		{matrixOf(1, 2, most, 7), matrixOf(2, 1, 1, 0), matrixOf(1, 1, most), impl.ErrNone},
		{matrixOf(1, 2, most, 0), matrixOf(2, 1, 1, most), matrixOf(1, 1, most), impl.ErrNone},
		{matrixOf(1, 1, 1<<32), matrixOf(1, 1, 1<<32), impl.Matrix{}, impl.ErrLimit},
		{matrixOf(1, 1, 1<<39), matrixOf(1, 1, -1<<39), impl.Matrix{}, impl.ErrLimit},
		{matrixOf(1, 1, most), matrixOf(1, 1, most), impl.Matrix{}, impl.ErrLimit},
		{matrixOf(1, 1, most), matrixOf(1, 1, 2), impl.Matrix{}, impl.ErrLimit},
		{matrixOf(2, 1, 1, most), matrixOf(1, 2, 1, 2), impl.Matrix{}, impl.ErrLimit},
		{matrixOf(48, 48, repeated(most, 48*48)...), matrixOf(48, 48, repeated(-most, 48*48)...), impl.Matrix{}, impl.ErrLimit},
		{matrixOf(1, 2, 1, 2), matrixOf(1, 2, 1, 2), impl.Matrix{}, impl.ErrRange},
		{matrixOf(1, 2, most, most), matrixOf(1, 2, most, most), impl.Matrix{}, impl.ErrRange},
		{matrixOf(2, 0), matrixOf(1, 0), impl.Matrix{}, impl.ErrRange},
	}
	for _, row := range rows {
		if m, code := impl.MultiplyMatrices(row.a, row.b); code != row.code || !sameMatrix(m, row.want) {
			t.Error(row, m, code)
		}
	}
}

func TestMultiplyInvalid(t *testing.T) {
	good := []impl.Matrix{{}, matrixOf(1, 1, 1), matrixOf(2, 2, 1, 2, 3, 4), matrixOf(1, 1, impl.MaxEntry)}
	for _, m := range invalidMatrices() {
		for _, g := range good {
			if p, code := impl.MultiplyMatrices(m, g); code != impl.ErrInvalid || !isZeroMatrix(p) {
				t.Fatal(m, g, p, code)
			}
			if p, code := impl.MultiplyMatrices(g, m); code != impl.ErrInvalid || !isZeroMatrix(p) {
				t.Fatal(g, m, p, code)
			}
		}
	}
}

// leibniz returns the determinant as the sum over all permutations: rows from row on, with the
// columns that are not used.
func leibniz(m impl.Matrix, row int64, used []bool) int64 {
	if row == m.Rows {
		return 1
	}
	sum, sign := int64(0), int64(1)
	for j := range m.Columns {
		if used[j] {
			continue
		}
		used[j] = true
		sum += sign * m.Entries[row*m.Columns+j] * leibniz(m, row+1, used)
		used[j] = false
		sign = -sign
	}
	return sum
}

// bigVolume returns the product of the sums of absolute values of the rows, each at least 1.
func bigVolume(m impl.Matrix) *big.Int {
	volume := big.NewInt(1)
	for i := range m.Rows {
		sum := new(big.Int)
		for _, e := range m.Entries[i*m.Columns : (i+1)*m.Columns] {
			x := big.NewInt(e)
			sum.Add(sum, x.Abs(x))
		}
		if sum.Sign() > 0 {
			volume.Mul(volume, sum)
		}
	}
	return volume
}

func TestDeterminantOrdinary(t *testing.T) {
	seed, zeros, limits := numbers(2), 0, 0
	for range 4000 {
		n := seed.next(0, 6)
		m := seed.matrix(n, n, []int64{1, 2, 5, 15000}[seed.next(0, 3)])
		d, code := impl.Determinant(m)
		if bigVolume(m).Cmp(big.NewInt(impl.MaxVolume)) > 0 {
			limits++
			if code != impl.ErrLimit || d != 0 {
				t.Fatal(m, d, code)
			}
			continue
		}
		if want := leibniz(m, 0, make([]bool, n)); code != impl.ErrNone || d != want {
			t.Fatal(m, d, code, want)
		}
		if d == 0 {
			zeros++
		}
	}
	if zeros < 100 || limits < 100 || limits > 3000 {
		t.Fatal("the cases are one-sided:", zeros, limits)
	}
}

func TestDeterminantMultiplicative(t *testing.T) {
	seed, nonzero := numbers(3), 0
	for range 4000 {
		n := seed.next(0, 5)
		a, b := seed.matrix(n, n, 3), seed.matrix(n, n, 3)
		p, code := impl.MultiplyMatrices(a, b)
		if code != impl.ErrNone {
			t.Fatal(a, b, code)
		}
		x, codeA := impl.Determinant(a)
		y, codeB := impl.Determinant(b)
		z, codeP := impl.Determinant(p)
		if codeA != impl.ErrNone || codeB != impl.ErrNone || codeP == impl.ErrLimit {
			continue
		}
		if codeP != impl.ErrNone || z != x*y {
			t.Fatal(a, b, p, x, y, z, codeP)
		}
		if z != 0 {
			nonzero++
		}
	}
	if nonzero < 1000 {
		t.Fatal("too few cases:", nonzero)
	}
}

// shuffled returns the matrix of a permutation with n rows, and the sign of the permutation.
func (s *numbers) shuffled(n int64) (impl.Matrix, int64) {
	m, _ := impl.IdentityMatrix(n)
	sign := int64(1)
	for i := n - 1; i > 0; i-- {
		j := s.next(0, i)
		if i == j {
			continue
		}
		for c := range n {
			m.Entries[i*n+c], m.Entries[j*n+c] = m.Entries[j*n+c], m.Entries[i*n+c]
		}
		sign = -sign
	}
	return m, sign
}

func TestDeterminantOfPermutations(t *testing.T) {
	seed := numbers(4)
	for n := int64(0); n <= impl.MaxSide; n++ {
		a, x := seed.shuffled(n)
		b, y := seed.shuffled(n)
		p, _ := impl.MultiplyMatrices(a, b)
		for _, row := range []struct {
			m    impl.Matrix
			want int64
		}{{a, x}, {b, y}, {p, x * y}, {impl.Transpose(a), x}} {
			if d, code := impl.Determinant(row.m); code != impl.ErrNone || d != row.want {
				t.Fatal(row, d, code)
			}
		}
	}
}

func diagonalOf(entries ...int64) impl.Matrix {
	n := int64(len(entries))
	m, _ := impl.IdentityMatrix(n)
	for i, e := range entries {
		m.Entries[int64(i)*(n+1)] = e
	}
	return m
}

func TestDeterminantEdges(t *testing.T) {
	const most, volume = impl.MaxEntry, impl.MaxVolume
	rows := []struct {
		m    impl.Matrix
		want int64
		code int64
	}{
		{impl.Matrix{}, 1, impl.ErrNone},
		{matrixOf(1, 1, 0), 0, impl.ErrNone},
		{matrixOf(1, 1, volume), volume, impl.ErrNone},
		{matrixOf(1, 1, -volume), -volume, impl.ErrNone},
		{matrixOf(1, 1, volume+1), 0, impl.ErrLimit},
		{matrixOf(1, 1, -volume-1), 0, impl.ErrLimit},
		{diagonalOf(repeated(10, 9)...), volume, impl.ErrNone},
		{diagonalOf(repeated(-10, 9)...), -volume, impl.ErrNone},
		{diagonalOf(repeated(10, 10)...), 0, impl.ErrLimit},
		{diagonalOf(31622, 31622), 31622 * 31622, impl.ErrNone},
		{diagonalOf(31623, 31623), 0, impl.ErrLimit},
		{diagonalOf(7, 142857143), 0, impl.ErrLimit},
		{diagonalOf(142857143, 7), 0, impl.ErrLimit},
		{diagonalOf(7, 142857142), 7 * 142857142, impl.ErrNone},
		{diagonalOf(32000, 31250), volume, impl.ErrNone},
		{matrixOf(2, 2, 16000, -16000, 15625, 15625), volume / 2, impl.ErrNone},
		{matrixOf(2, 2, 16000, -16000, 15625, 15626), 0, impl.ErrLimit},
		{matrixOf(2, 2, volume/2, -volume/2, 0, 1), volume / 2, impl.ErrNone},
		{matrixOf(2, 2, volume/2, -volume/2-1, 0, 1), 0, impl.ErrLimit},
		{matrixOf(2, 2, volume/2, -volume/2-1, 0, 0), 0, impl.ErrLimit},
		{diagonalOf(0, volume), 0, impl.ErrNone},
		{diagonalOf(0, volume+1), 0, impl.ErrLimit},
		{diagonalOf(volume+1, 0), 0, impl.ErrLimit},
		{diagonalOf(1<<32, 1<<32), 0, impl.ErrLimit},
		{diagonalOf(1<<29, 1<<29, 1<<29), 0, impl.ErrLimit},
		{diagonalOf(1<<29, 1<<35), 0, impl.ErrLimit},
		{diagonalOf(1<<35, 1<<29), 0, impl.ErrLimit},
		{diagonalOf(volume, 10*volume), 0, impl.ErrLimit},
		{diagonalOf(1<<16, 1<<16, 1<<16, 1<<16), 0, impl.ErrLimit},
		{matrixOf(48, 48, repeated(most, 48*48)...), 0, impl.ErrLimit},
		{matrixOf(48, 48, repeated(-most, 48*48)...), 0, impl.ErrLimit},
		{matrixOf(48, 48, repeated(0, 48*48)...), 0, impl.ErrNone},
		{matrixOf(2, 2, 0, 1, 1, 0), -1, impl.ErrNone},
		{matrixOf(3, 3, 0, 0, 1, 0, 1, 0, 1, 0, 0), -1, impl.ErrNone},
		{matrixOf(3, 3, 1, 2, 3, 2, 4, 6, 5, 5, 5), 0, impl.ErrNone},
		{matrixOf(3, 3, 1, 2, 3, 1, 2, 4, 1, 3, 5), -1, impl.ErrNone},
		{matrixOf(3, 3, 0, 1, 2, 0, 3, 4, 0, 5, 6), 0, impl.ErrNone},
		{matrixOf(1, 0), 0, impl.ErrRange},
		{matrixOf(0, 1), 0, impl.ErrRange},
		{matrixOf(1, 2, most, most), 0, impl.ErrRange},
		{matrixOf(2, 1, 1, 1), 0, impl.ErrRange},
	}
	for _, row := range rows {
		if d, code := impl.Determinant(row.m); code != row.code || d != row.want {
			t.Error(row, d, code)
		}
	}
	for _, m := range invalidMatrices() {
		if d, code := impl.Determinant(m); code != impl.ErrInvalid || d != 0 {
			t.Error(m, d, code)
		}
	}
}

// TestDeterminantNearTheLimit has minors nearly as large as the limit allows: the elimination must
// not leave int64 on its way.
func TestDeterminantNearTheLimit(t *testing.T) {
	seed, near := numbers(7), 0
	for range 4000 {
		n := seed.next(2, 6)
		m := seed.matrix(n, n, []int64{0, 0, 31000, 650, 88, 25, 10}[n])
		volume := bigVolume(m).Int64()
		if volume > impl.MaxVolume {
			continue
		}
		if volume > impl.MaxVolume/2 {
			near++
		}
		want := leibniz(m, 0, make([]bool, n))
		if d, code := impl.Determinant(m); code != impl.ErrNone || d != want {
			t.Fatal(m, d, code, want)
		}
	}
	if near < 100 {
		t.Fatal("too few cases:", near)
	}
}

// TestDeterminantOfCycles: the identity plus the cyclic permutation has the determinant
// 1 - (-1)^n, and its rows have the sum 2.
func TestDeterminantOfCycles(t *testing.T) {
	for n := int64(1); n <= impl.MaxSide; n++ {
		m, _ := impl.IdentityMatrix(n)
		for i := range n {
			m.Entries[i*n+(i+1)%n]++
		}
		want, wantCode := 2*(n%2), int64(impl.ErrNone)
		if n >= 30 {
			want, wantCode = 0, impl.ErrLimit
		}
		if d, code := impl.Determinant(m); code != wantCode || d != want {
			t.Fatal(n, d, code)
		}
	}
}

func TestMinorOf(t *testing.T) {
	m := matrixOf(3, 4, 1, 2, 3, 4, 5, 6, 7, 8, 9, 10, 11, 12)
	rows := []struct {
		row, column int64
		want        impl.Matrix
	}{
		{0, 0, matrixOf(2, 3, 6, 7, 8, 10, 11, 12)},
		{2, 3, matrixOf(2, 3, 1, 2, 3, 5, 6, 7)},
		{1, 2, matrixOf(2, 3, 1, 2, 4, 9, 10, 12)},
	}
	for _, row := range rows {
		if k, ok := impl.MinorOf(m, row.row, row.column); !ok || !sameMatrix(k, row.want) {
			t.Fatal(row, k, ok)
		}
	}
	if k, ok := impl.MinorOf(matrixOf(1, 1, 5), 0, 0); !ok || !isZeroMatrix(k) {
		t.Fatal(k, ok)
	}
	if k, ok := impl.MinorOf(matrixOf(1, 3, 5, 6, 7), 0, 1); !ok || !sameMatrix(k, matrixOf(0, 2)) {
		t.Fatal(k, ok)
	}
	if k, ok := impl.MinorOf(matrixOf(3, 1, 5, 6, 7), 2, 0); !ok || !sameMatrix(k, matrixOf(2, 0)) {
		t.Fatal(k, ok)
	}
	for _, p := range [][2]int64{{-1, 0}, {0, -1}, {3, 0}, {0, 4}, {minInt, 0}, {0, minInt}, {maxInt, 0}, {0, maxInt}} {
		if k, ok := impl.MinorOf(m, p[0], p[1]); ok || !isZeroMatrix(k) {
			t.Fatal(p, k, ok)
		}
	}
	for _, m := range append(invalidMatrices(), matrixOf(0, 3), matrixOf(3, 0), impl.Matrix{}) {
		if k, ok := impl.MinorOf(m, 0, 0); ok || !isZeroMatrix(k) {
			t.Fatal(m, k, ok)
		}
	}
}

func TestMinorsExpandTheDeterminant(t *testing.T) {
	seed := numbers(5)
	for range 300 {
		n := seed.next(1, 5)
		m, row := seed.matrix(n, n, 4), seed.next(0, n-1)
		sum := int64(0)
		for j := range n {
			k, ok := impl.MinorOf(m, row, j)
			d, code := impl.Determinant(k)
			if !ok || code != impl.ErrNone {
				t.Fatal(m, row, j, k, ok, code)
			}
			if (row+j)%2 == 1 {
				d = -d
			}
			sum += d * m.Entries[row*n+j]
		}
		if d, code := impl.Determinant(m); code != impl.ErrNone || d != sum {
			t.Fatal(m, d, code, sum)
		}
	}
}

func TestFormatMatrix(t *testing.T) {
	rows := []struct {
		m    impl.Matrix
		want string
	}{
		{matrixOf(2, 2, 1, 2, 3, 4), "2x2: 1 2 3 4"},
		{matrixOf(0, 3), "0x3:"},
		{matrixOf(3, 0), "3x0:"},
		{matrixOf(0, 48), "0x48:"},
		{impl.Matrix{}, "0x0:"},
		{matrixOf(1, 3, -5, 0, 10), "1x3: -5 0 10"},
		{matrixOf(2, 1, impl.MaxEntry, -impl.MaxEntry), "2x1: 1000000000000 -1000000000000"},
	}
	for _, row := range rows {
		if s := impl.FormatMatrix(row.m); s != row.want {
			t.Fatal(row, s)
		}
	}
	for _, m := range invalidMatrices() {
		if s := impl.FormatMatrix(m); s != "" {
			t.Fatal(m, s)
		}
	}
}

func TestTextsAreRecovered(t *testing.T) {
	seed := numbers(6)
	list := validMatrices()
	for range 1000 {
		list = append(list, seed.matrix(seed.next(0, 6), seed.next(0, 6), []int64{1, 12, impl.MaxEntry}[seed.next(0, 2)]))
	}
	for _, m := range list {
		s := impl.FormatMatrix(m)
		if got, code := impl.ParseMatrix(s); code != impl.ErrNone || !sameMatrix(got, m) {
			t.Fatal(m, s, got, code)
		}
	}
}

func checkCodes(t *testing.T, wanted int64, texts ...string) {
	t.Helper()
	for _, s := range texts {
		m, code := impl.ParseMatrix(s)
		if code != wanted {
			t.Errorf("%q: code %d, not %d", s, code, wanted)
		}
		if code != impl.ErrNone && !isZeroMatrix(m) {
			t.Errorf("%q: %v beside code %d", s, m, code)
		}
	}
}

func TestParseAccepts(t *testing.T) {
	checkCodes(t, impl.ErrNone, "1x1: 0", "1x1: -7", "1x1: 1000000000000", "1x1: -1000000000000",
		"0x0:", "48x0:", "0x48:", "2x2: 1 2 3 4")
}

func TestParseRange(t *testing.T) {
	checkCodes(t, impl.ErrRange, "1x1: 1000000000001", "1x1: -1000000000001", "1x1: 9999999999999",
		"1x1: -9999999999999", "9999999999999x0:", "0x9999999999999:", "9999999999999x9999999999999: 1",
		"4294967296x4294967296:", "-1x-1: 1", "-1x0:", "0x-1:", "49x0:", "0x49:", "1x1:", "1x1: 1 2",
		"0x0: 1", "0x3: 1 2 3")
}

func TestParseSyntax(t *testing.T) {
	// Numbers of 14 digits or more.
	checkCodes(t, impl.ErrSyntax, "1x1: 10000000000000", "1x1: -10000000000000", "1x1: 00000000000001",
		"1x1: 18446744073709551617", "10000000000000x0:", "0x10000000000000:")
	// Superfluous zeros and signs.
	checkCodes(t, impl.ErrSyntax, "-0x0:", "0x-0:", "00x0:", "0x00:", "01x1: 1", "1x01: 1", "1x1: 01",
		"1x1: -01", "1x1: -0", "1x1: +1", "1x1: --1", "1x1: -", "1x1: 1-")
	// Blanks and other bytes in the wrong place.
	checkCodes(t, impl.ErrSyntax, "1x1:1", "1x1:  1", "1x1: 1 ", "1x1: 1\n", "1x1:\t1", " 1x1: 1", "1 x1: 1",
		"1x 1: 1", "1x1 : 1", "1X1: 1", "1x1; 1", "1x1: 1,", "0x3: ", "1x1: \xff", "1x1: \u0661")
	// Missing parts.
	checkCodes(t, impl.ErrSyntax, "0x3", "0x:", "x0:", "0:", "0", ":", "x", "-", "", "\x00")
	// A wrong form is reported before a wrong range.
	checkCodes(t, impl.ErrSyntax, "49x1: 1 01", "-1x-1: 1 x", "1x1: 1000000000001 ")
}

var matrixText = regexp.MustCompile(`^(0|-?[1-9][0-9]{0,12})x(0|-?[1-9][0-9]{0,12}):((?: (?:0|-?[1-9][0-9]{0,12}))*)$`)

// wantedParse reads a text by another way than the program does.
func wantedParse(s string) (impl.Matrix, int64) {
	parts := matrixText.FindStringSubmatch(s)
	if parts == nil {
		return impl.Matrix{}, impl.ErrSyntax
	}
	var list []int64
	for _, word := range append([]string{parts[1], parts[2]}, strings.Fields(parts[3])...) {
		x, _ := strconv.ParseInt(word, 10, 64)
		list = append(list, x)
	}
	m := matrixOf(list[0], list[1], list[2:]...)
	bad := func(x int64) bool { return x < -impl.MaxEntry || x > impl.MaxEntry }
	side := func(x int64) bool { return x >= 0 && x <= impl.MaxSide }
	if !side(m.Rows) || !side(m.Columns) || int64(len(m.Entries)) != m.Rows*m.Columns || slices.ContainsFunc(m.Entries, bad) {
		return impl.Matrix{}, impl.ErrRange
	}
	return m, impl.ErrNone
}

func checkParse(t *testing.T, s string) {
	t.Helper()
	want, wantCode := wantedParse(s)
	m, code := impl.ParseMatrix(s)
	if code != wantCode || !sameMatrix(m, want) {
		t.Fatalf("%q: %v %d, not %v %d", s, m, code, want, wantCode)
	}
	if code == impl.ErrNone && impl.FormatMatrix(m) != s {
		t.Fatalf("%q is not the text of %v", s, m)
	}
}

func TestParseAllShortTexts(t *testing.T) {
	level := []string{""}
	for range 7 {
		var next []string
		for _, s := range level {
			checkParse(t, s)
			for _, c := range "01-x: " {
				next = append(next, s+string(c))
			}
		}
		level = next
	}
}

func TestParseChangedTexts(t *testing.T) {
	for _, s := range []string{"2x2: 1 2 3 4", "1x3: -5 0 10", "0x3:", "1x1: -999999999999", "12x0:"} {
		checkParse(t, s)
		for i := 0; i <= len(s); i++ {
			checkParse(t, s[:i])
			checkParse(t, s[i:])
			for c := range 256 {
				byteText := string([]byte{byte(c)})
				checkParse(t, s[:i]+byteText+s[i:])
				if i < len(s) {
					checkParse(t, s[:i]+byteText+s[i+1:])
				}
			}
			if i < len(s) {
				checkParse(t, s[:i]+s[i+1:])
			}
		}
	}
}

func TestArgumentsAreKept(t *testing.T) {
	for _, m := range append(validMatrices(), matrixOf(3, 3, 0, 2, 1, 1, 0, 3, 4, 5, 0)) {
		g, check := guarded(t, m)
		h, checkTwo := guarded(t, impl.Transpose(m))
		impl.IsMatrix(g)
		impl.EntryAt(g, 0, 0)
		impl.Determinant(g)
		impl.FormatMatrix(g)
		one, _ := impl.IdentityMatrix(m.Rows)
		product, _ := impl.MultiplyMatrices(one, g)
		impl.MultiplyMatrices(g, h)
		minor, _ := impl.MinorOf(g, 0, 0)
		for _, result := range []impl.Matrix{impl.Transpose(g), product, minor} {
			whole := result.Entries[:cap(result.Entries)]
			for i := range whole {
				whole[i] = 5
			}
		}
		check()
		checkTwo()
	}
}

func TestResultsAreNew(t *testing.T) {
	first, _ := impl.IdentityMatrix(3)
	first.Entries[1] = 9
	if second, _ := impl.IdentityMatrix(3); second.Entries[1] != 0 {
		t.Fatal("two identity matrices share memory")
	}
	parsed, _ := impl.ParseMatrix("1x2: 3 4")
	parsed.Entries[0] = 9
	if again, _ := impl.ParseMatrix("1x2: 3 4"); again.Entries[0] != 3 {
		t.Fatal("two results of ParseMatrix share memory")
	}
}
