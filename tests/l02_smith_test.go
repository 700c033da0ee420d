package tests

import (
	"math/big"
	"slices"
	"testing"

	"loop.example/g00870/impl"
)

func matricesOf(r *impl.Reduction) []*impl.Matrix {
	return []*impl.Matrix{&r.Left, &r.LeftInverse, &r.Diagonal, &r.Right, &r.RightInverse}
}

func cloneReduction(r impl.Reduction) impl.Reduction {
	for _, m := range matricesOf(&r) {
		m.Entries = slices.Clone(m.Entries)
	}
	return r
}

func sameReduction(a impl.Reduction, b impl.Reduction) bool {
	x, y := matricesOf(&a), matricesOf(&b)
	for i := range x {
		if !sameMatrix(*x[i], *y[i]) {
			return false
		}
	}
	return true
}

func isZeroReduction(r impl.Reduction) bool {
	return sameReduction(r, impl.Reduction{})
}

func squareOf(n int64, entries ...int64) impl.Matrix {
	return matrixOf(n, n, entries...)
}

// untouched is the reduction of a matrix that needs no steps.
func untouched(m impl.Matrix) impl.Reduction {
	var r impl.Reduction
	r.Left, _ = impl.IdentityMatrix(m.Rows)
	r.LeftInverse, _ = impl.IdentityMatrix(m.Rows)
	r.Diagonal = m
	r.Right, _ = impl.IdentityMatrix(m.Columns)
	r.RightInverse, _ = impl.IdentityMatrix(m.Columns)
	return r
}

func checkForm(t *testing.T, m impl.Matrix, want impl.Reduction) {
	t.Helper()
	r, code := impl.SmithForm(m)
	if code != impl.ErrNone || !sameReduction(r, want) {
		t.Error(m, r, code)
	}
	if !impl.IsReduction(m, want) {
		t.Error("not accepted:", m, want)
	}
}

// TestSmithByHand has reductions that were worked out on paper.
func TestSmithByHand(t *testing.T) {
	rows := []struct{ m, left, leftInverse, diagonal, right, rightInverse impl.Matrix }{
		// A quotient without remainder, and a change of sign.
		{squareOf(2, 2, 4, 6, 8), squareOf(2, 1, 0, 3, -1), squareOf(2, 1, 0, 3, -1), diagonalOf(2, 4), squareOf(2, 1, -2, 0, 1), squareOf(2, 1, 2, 0, 1)},
		// A divisor is missing: row 1 is added to row 0.
		{diagonalOf(2, 3), squareOf(2, 1, 1, 3, 2), squareOf(2, -2, 1, 3, -1), diagonalOf(1, 6), squareOf(2, -1, 3, 1, -2), squareOf(2, 2, 3, 1, 1)},
		// Only columns are exchanged: 2 is the smallest, and divides nothing but itself.
		{squareOf(2, 4, 2, 2, 4), squareOf(2, 1, 0, 2, -1), squareOf(2, 1, 0, 2, -1), diagonalOf(2, 6), squareOf(2, 0, 1, 1, -2), squareOf(2, 2, 1, 1, 0)},
		// -7 divided by 3, rounded down, is -3: the remainder is 2, and then 3 leaves 1.
		{matrixOf(2, 1, 3, -7), squareOf(2, -2, -1, 7, 3), squareOf(2, 3, 1, -7, -2), matrixOf(2, 1, 1, 0), squareOf(1, 1), squareOf(1, 1)},
		{matrixOf(1, 2, 3, -7), squareOf(1, 1), squareOf(1, 1), matrixOf(1, 2, 1, 0), squareOf(2, -2, 7, -1, 3), squareOf(2, 3, -7, 1, -2)},
		// Of entries with the same absolute value the first one is taken, though it is negative.
		{matrixOf(1, 2, -3, 3), squareOf(1, -1), squareOf(1, -1), matrixOf(1, 2, 3, 0), squareOf(2, 1, 1, 0, 1), squareOf(2, 1, -1, 0, 1)},
		{matrixOf(2, 1, -3, 3), squareOf(2, -1, 0, 1, 1), squareOf(2, -1, 0, 1, 1), matrixOf(2, 1, 3, 0), squareOf(1, 1), squareOf(1, 1)},
		{squareOf(2, 0, -1, 1, 0), squareOf(2, -1, 0, 0, 1), squareOf(2, -1, 0, 0, 1), diagonalOf(1, 1), squareOf(2, 0, 1, 1, 0), squareOf(2, 0, 1, 1, 0)},
	}
	for _, row := range rows {
		checkForm(t, row.m, impl.Reduction{Left: row.left, LeftInverse: row.leftInverse, Diagonal: row.diagonal, Right: row.right, RightInverse: row.rightInverse})
	}
}

func TestSmithWithoutSteps(t *testing.T) {
	rows := []impl.Matrix{
		{},
		matrixOf(0, 1), matrixOf(1, 0), matrixOf(0, 2), matrixOf(2, 0), matrixOf(0, 48), matrixOf(48, 0),
		matrixOf(1, 1, 0), matrixOf(2, 3, 0, 0, 0, 0, 0, 0), matrixOf(48, 48, repeated(0, 48*48)...),
		matrixOf(1, 1, 7), matrixOf(1, 1, impl.MaxEntry),
		diagonalOf(1, 1, 1), diagonalOf(2, 4, 0), diagonalOf(2, 2, 6, 0, 0), diagonalOf(repeated(impl.MaxEntry, 48)...),
		matrixOf(2, 3, 1, 0, 0, 0, 5, 0), matrixOf(3, 2, 3, 0, 0, 9, 0, 0),
	}
	for _, m := range rows {
		checkForm(t, m, untouched(m))
	}
	minus := untouched(matrixOf(1, 1, impl.MaxEntry))
	minus.Left, minus.LeftInverse = matrixOf(1, 1, -1), matrixOf(1, 1, -1)
	checkForm(t, matrixOf(1, 1, -impl.MaxEntry), minus)
}

// ordinary returns a matrix with up to five rows and columns, with many or few entries other than 0.
func (s *numbers) ordinary() impl.Matrix {
	sizes := []int64{1, 3, 12, 200, 1000000, impl.MaxEntry}
	m := s.matrix(s.next(0, 5), s.next(0, 5), sizes[s.next(0, 5)])
	if s.next(0, 2) == 0 {
		for i := range m.Entries {
			m.Entries[i] *= s.next(0, 1)
		}
	}
	return m
}

func TestSmithFollowsTheSteps(t *testing.T) {
	seed, limits, forms := numbers(21), 0, 0
	for range 1500 {
		m := seed.ordinary()
		r, code := impl.SmithForm(m)
		w := walkOf(m)
		if w.exceedsAnywhere() {
			limits++
			if code != impl.ErrLimit || !isZeroReduction(r) {
				t.Fatal(m, r, code)
			}
			continue
		}
		forms++
		if code != impl.ErrNone || !sameReduction(r, w.reduction()) {
			t.Fatal(m, r, code, w.reduction())
		}
	}
	if limits < 200 || forms < 700 {
		t.Fatal("the cases are one-sided:", limits, forms)
	}
}

// TestSmithLimits has one matrix for each of the five in which an entry reaches MaxEntry, and one
// in which it exceeds MaxEntry by one, while no other of the five reaches it.
func TestSmithLimits(t *testing.T) {
	const most = impl.MaxEntry
	rows := []struct{ reached, exceeded impl.Matrix }{
		{matrixOf(3, 2, 1, 0, 1, 1, most-1, -1), matrixOf(3, 2, 3, 499999999996, 0, 2, -2, 3)},
		{matrixOf(3, 2, 3, 0, 0, 3, 749999999999, 4), matrixOf(3, 2, 999999999999, -4, 0, -4, -3, 0)},
		{squareOf(2, 1, 2, 500000000002, 4), squareOf(2, -3, 500000000002, -1, 500000000001)},
		{matrixOf(2, 3, 1, 333333333332, 4, 0, 1, -3), matrixOf(2, 3, 499999999999, 2, -3, 2, 0, 4)},
		{matrixOf(1, 3, 999999999999, -3, -2), matrixOf(2, 3, -3, -2, 500000000001, -4, 0, 2)},
	}
	for i, row := range rows {
		w := walkOf(row.reached)
		if w.exceedsAnywhere() || w.peaks[i].Int64() != most {
			t.Fatal(i, "is no case", w.peaks)
		}
		if r, code := impl.SmithForm(row.reached); code != impl.ErrNone || !sameReduction(r, w.reduction()) {
			t.Error(i, r, code)
		}
		w = walkOf(row.exceeded)
		for k := range w.peaks {
			if w.exceeds(k) != (k == i) || k == i && w.peaks[k].Int64() != most+1 {
				t.Fatal(i, "is no case", w.peaks)
			}
		}
		if r, code := impl.SmithForm(row.exceeded); code != impl.ErrLimit || !isZeroReduction(r) {
			t.Error(i, r, code)
		}
	}
}

// TestSmithLimitInBetween has matrices whose reduction has small entries, though on the way there
// an entry is greater than MaxEntry.
func TestSmithLimitInBetween(t *testing.T) {
	for _, m := range []impl.Matrix{
		matrixOf(3, 2, -968583678315, 0, -1, -2, -2, 2),
		matrixOf(2, 3, 4, -4, -4, -1, 2, 964237457492),
		matrixOf(2, 3, 1, 2, 1437109, 1551194, 4, 368150),
		matrixOf(3, 2, 2, -355152529562, 1, -534198354244, 2, -4),
		matrixOf(3, 2, 1, -1782761, -734268, 1115948, -686696, -1396444),
	} {
		w := walkOf(m)
		for _, b := range []bigMatrix{w.left, w.leftInverse, w.diagonal, w.right, w.rightInverse} {
			if b.peak().CmpAbs(big.NewInt(impl.MaxEntry)) > 0 {
				t.Fatal("this is no case:", m)
			}
		}
		if r, code := impl.SmithForm(m); code != impl.ErrLimit || !isZeroReduction(r) {
			t.Error(m, r, code)
		}
	}
}

// TestSmithRowsBeforeColumns has matrices whose entries stay within MaxEntry in only one of the two
// orders of step 2: the document's, rows first, for those that are accepted.
func TestSmithRowsBeforeColumns(t *testing.T) {
	rows := []struct {
		m    impl.Matrix
		code int64
	}{
		{matrixOf(2, 3, 4, -571207360751, 959922772805, 4, -3, 5), impl.ErrNone},
		{matrixOf(3, 2, 4, -5, 5, 0, -529278379250, 0), impl.ErrNone},
		{matrixOf(2, 3, 5, 4, -527873787821, 0, -6, -6), impl.ErrLimit},
		{matrixOf(3, 2, -5, -183223146180, -5, 606213692076, 4, -466594765712), impl.ErrLimit},
	}
	for _, row := range rows {
		want := impl.Reduction{}
		if row.code == impl.ErrNone {
			want = walkOf(row.m).reduction()
		}
		if r, code := impl.SmithForm(row.m); code != row.code || !sameReduction(r, want) {
			t.Error(row, r, code)
		}
	}
}

// TestSmithOverflow has products that do not fit into an int64, some of which would come back to
// small numbers there.
func TestSmithOverflow(t *testing.T) {
	const most = impl.MaxEntry
	for _, m := range []impl.Matrix{
		squareOf(2, 1, most, most, 0),
		squareOf(2, 1, -most, most, 0),
		squareOf(2, 1, most, -most, 0),
		squareOf(2, 1, 1<<32, 1<<32, 0),
		squareOf(2, 1, 1<<32, -1<<32, 5),
		squareOf(2, 1, 1<<31, 1<<33, 0),
		squareOf(2, 1, 1<<39, 1<<39, 0),
		squareOf(2, 1, 1<<32, 1<<39, 0),
		squareOf(2, 1, 1000000, 2000001, 0),
		squareOf(2, 1, 1000000, 2000000, most-1),
		squareOf(2, 1, 1000000, 2000000, most),
		squareOf(2, 1, -1000000, 2000000, -most),
	} {
		want, wantCode := impl.Reduction{}, int64(impl.ErrLimit)
		if w := walkOf(m); !w.exceedsAnywhere() {
			want, wantCode = w.reduction(), impl.ErrNone
		}
		if r, code := impl.SmithForm(m); code != wantCode || !sameReduction(r, want) {
			t.Error(m, r, code)
		}
	}
}

func TestSmithInvalid(t *testing.T) {
	for _, m := range invalidMatrices() {
		if r, code := impl.SmithForm(m); code != impl.ErrInvalid || !isZeroReduction(r) {
			t.Error(m, r, code)
		}
		if f, code := impl.InvariantFactors(m); code != impl.ErrInvalid || len(f) != 0 {
			t.Error(m, f, code)
		}
		if n, code := impl.MatrixRank(m); code != impl.ErrInvalid || n != 0 {
			t.Error(m, n, code)
		}
		if g, code := impl.CokernelOf(m); code != impl.ErrInvalid || !isZeroGroup(g) {
			t.Error(m, g, code)
		}
	}
	exceeded := squareOf(2, 1, impl.MaxEntry, impl.MaxEntry, 0)
	if f, code := impl.InvariantFactors(exceeded); code != impl.ErrLimit || len(f) != 0 {
		t.Error(f, code)
	}
	if n, code := impl.MatrixRank(exceeded); code != impl.ErrLimit || n != 0 {
		t.Error(n, code)
	}
	if g, code := impl.CokernelOf(exceeded); code != impl.ErrLimit || !isZeroGroup(g) {
		t.Error(g, code)
	}
}

// TestReductionsProve: a result of SmithForm is refused only if one of the four products is not
// found.
func TestReductionsProve(t *testing.T) {
	seed, accepted, refused := numbers(23), 0, 0
	for range 1500 {
		m := seed.matrix(seed.next(0, 5), seed.next(0, 5), seed.next(1, 30))
		r, code := impl.SmithForm(m)
		if code != impl.ErrNone {
			continue
		}
		if !hasProducts(m, r) {
			refused++
			if impl.IsReduction(m, r) {
				t.Fatal("accepted:", m, r)
			}
			continue
		}
		accepted++
		if !impl.IsReduction(m, r) {
			t.Fatal("not accepted:", m, r)
		}
		checkChangedEntries(t, m, r)
		checkChangedMatrix(t, m, r)
	}
	if accepted < 1000 || refused < 10 {
		t.Fatal("the cases are one-sided:", accepted, refused)
	}
}

func hasProducts(m impl.Matrix, r impl.Reduction) bool {
	_, codeLeft := impl.MultiplyMatrices(r.LeftInverse, r.Left)
	_, codeRight := impl.MultiplyMatrices(r.RightInverse, r.Right)
	p, code := impl.MultiplyMatrices(r.Left, m)
	_, codeLast := impl.MultiplyMatrices(p, r.Right)
	return codeLeft == impl.ErrNone && codeRight == impl.ErrNone && code == impl.ErrNone && codeLast == impl.ErrNone
}

// checkChangedEntries changes every entry of the five matrices: each of them follows from m and
// the other four.
func checkChangedEntries(t *testing.T, m impl.Matrix, r impl.Reduction) {
	t.Helper()
	changed := cloneReduction(r)
	for i, five := range matricesOf(&changed) {
		for k, e := range five.Entries {
			for _, x := range []int64{e + 1, e - 1, -e, e + 7, 2 * e, impl.MaxEntry, minInt, maxInt} {
				five.Entries[k] = x
				if x != e && impl.IsReduction(m, changed) {
					t.Fatal("accepted:", m, changed, i, k, x)
				}
			}
			five.Entries[k] = e
		}
	}
	if !impl.IsReduction(m, changed) {
		t.Fatal("not accepted:", m, changed)
	}
}

func checkChangedMatrix(t *testing.T, m impl.Matrix, r impl.Reduction) {
	t.Helper()
	other := impl.Matrix{Rows: m.Rows, Columns: m.Columns, Entries: slices.Clone(m.Entries)}
	for k := range other.Entries {
		other.Entries[k]++
		if impl.IsReduction(other, r) {
			t.Fatal("accepted:", other, r)
		}
		other.Entries[k]--
	}
	if m.Rows != m.Columns && impl.IsReduction(impl.Transpose(m), r) {
		t.Fatal("accepted for the transpose:", m, r)
	}
}

// TestOtherReductions: the steps of SmithForm are not the only way to a reduction.
func TestOtherReductions(t *testing.T) {
	seed := numbers(24)
	for range 300 {
		d := diagonalOf(1, 2, 6, 0)
		left, leftInverse := seed.unimodular(4)
		right, rightInverse := seed.unimodular(4)
		m := product(t, product(t, leftInverse, d), rightInverse)
		r := impl.Reduction{Left: left, LeftInverse: leftInverse, Diagonal: d, Right: right, RightInverse: rightInverse}
		if !impl.IsReduction(m, r) {
			t.Fatal(m, r)
		}
		checkChangedEntries(t, m, r)
	}
}

// TestNoReductions has five matrices whose products are right, but whose diagonal has not the form
// that a reduction demands.
func TestNoReductions(t *testing.T) {
	for _, m := range []impl.Matrix{
		diagonalOf(-1), diagonalOf(1, -1), diagonalOf(2, 3), diagonalOf(4, 2), diagonalOf(0, 1), diagonalOf(0, 0, 1),
		diagonalOf(1, 0, 1), diagonalOf(2, 0, 4), diagonalOf(1, 2, 3), diagonalOf(-2, 4), diagonalOf(0, -1),
		squareOf(2, 1, 1, 0, 1), squareOf(2, 1, 0, 1, 1), squareOf(2, 0, 1, 1, 0), squareOf(2, 0, 1, 0, 0),
		matrixOf(1, 2, 1, 1), matrixOf(1, 2, 0, 1), matrixOf(2, 1, 1, 1), matrixOf(2, 1, 0, 1),
	} {
		if impl.IsReduction(m, untouched(m)) {
			t.Error("accepted:", m)
		}
	}
}

// TestReductionsAreSquare has matrices that undo each other from one side only, or that have the
// wrong sides.
func TestReductionsAreSquare(t *testing.T) {
	tall, wide := matrixOf(2, 1, 1, 0), matrixOf(1, 2, 1, 0)
	one := matrixOf(1, 1, 1)
	wrong := []struct {
		m impl.Matrix
		r impl.Reduction
	}{
		{one, impl.Reduction{Left: tall, LeftInverse: wide, Diagonal: tall, Right: one, RightInverse: one}},
		{one, impl.Reduction{Left: one, LeftInverse: one, Diagonal: wide, Right: wide, RightInverse: tall}},
		{tall, impl.Reduction{Left: wide, LeftInverse: tall, Diagonal: one, Right: one, RightInverse: one}},
		{wide, impl.Reduction{Left: one, LeftInverse: one, Diagonal: one, Right: tall, RightInverse: wide}},
		{one, impl.Reduction{Left: one, LeftInverse: one, Diagonal: matrixOf(1, 0), Right: matrixOf(1, 0), RightInverse: matrixOf(0, 1)}},
		{matrixOf(0, 1), impl.Reduction{Left: matrixOf(1, 0), LeftInverse: matrixOf(0, 1), Diagonal: matrixOf(1, 1, 0), Right: one, RightInverse: one}},
		{one, impl.Reduction{}},
		{matrixOf(0, 1), impl.Reduction{}},
		{matrixOf(1, 0), impl.Reduction{}},
		{impl.Matrix{}, untouched(one)},
		{one, untouched(impl.Matrix{})},
		{matrixOf(0, 1), untouched(matrixOf(1, 0))},
		{matrixOf(0, 2), untouched(matrixOf(0, 3))},
		{diagonalOf(1, 1), untouched(diagonalOf(1, 1, 1))},
	}
	for _, row := range wrong {
		if impl.IsReduction(row.m, row.r) {
			t.Error("accepted:", row)
		}
	}
	if !impl.IsReduction(impl.Matrix{}, impl.Reduction{}) {
		t.Error("the empty reduction of the empty matrix is not accepted")
	}
}

func TestReductionsInvalid(t *testing.T) {
	for _, m := range []impl.Matrix{{}, matrixOf(1, 1, 1), matrixOf(2, 2, 2, 0, 0, 4), matrixOf(0, 3), matrixOf(3, 0)} {
		for i := range 5 {
			for _, bad := range invalidMatrices() {
				r := untouched(m)
				*matricesOf(&r)[i] = bad
				if impl.IsReduction(m, r) {
					t.Error("accepted:", m, r)
				}
			}
		}
	}
	for _, bad := range invalidMatrices() {
		for _, r := range []impl.Reduction{{}, untouched(matrixOf(1, 1, 1)), {Left: bad, LeftInverse: bad, Diagonal: bad, Right: bad, RightInverse: bad}} {
			if impl.IsReduction(bad, r) {
				t.Error("accepted:", bad, r)
			}
		}
	}
}

// shear returns {1, a, b, a * b + 1} and its inverse.
func shear(a int64, b int64) (impl.Matrix, impl.Matrix) {
	return squareOf(2, 1, a, b, a*b+1), squareOf(2, a*b+1, -a, -b, 1)
}

func scaled(m impl.Matrix, c int64) impl.Matrix {
	x := matrixOf(m.Rows, m.Columns)
	for _, e := range m.Entries {
		x.Entries = append(x.Entries, c*e)
	}
	return x
}

// TestReductionProducts has reductions for which one of the four products is just found, or not
// found, by MultiplyMatrices, while the others are.
func TestReductionProducts(t *testing.T) {
	one, zero := diagonalOf(1, 1), squareOf(2, 0, 0, 0, 0)
	small, smallInverse := shear(1000, 1000)
	large, largeInverse := shear(10000, 10000)
	long, longInverse := shear(1, 1000000)
	rows := []struct {
		m                              impl.Matrix
		left, leftInverse, right, back impl.Matrix
		diagonal                       impl.Matrix
		accepted                       bool
	}{
		{zero, small, smallInverse, one, one, zero, true},
		{zero, large, largeInverse, one, one, zero, false},
		{zero, one, one, small, smallInverse, zero, true},
		{zero, one, one, large, largeInverse, zero, false},
		{scaled(smallInverse, 499), small, smallInverse, one, one, diagonalOf(499, 499), true},
		{scaled(smallInverse, 500), small, smallInverse, one, one, diagonalOf(500, 500), false},
		{scaled(smallInverse, 499), one, one, small, smallInverse, diagonalOf(499, 499), true},
		{scaled(smallInverse, 500), one, one, small, smallInverse, diagonalOf(500, 500), false},
		// Left * LeftInverse and Right * RightInverse have too large summands; they are not asked for.
		{zero, long, longInverse, one, one, zero, true},
		{zero, one, one, long, longInverse, zero, true},
		{zero, longInverse, long, one, one, zero, false},
		{zero, one, one, longInverse, long, zero, false},
	}
	for i, row := range rows {
		r := impl.Reduction{Left: row.left, LeftInverse: row.leftInverse, Diagonal: row.diagonal, Right: row.right, RightInverse: row.back}
		if impl.IsReduction(row.m, r) != row.accepted {
			t.Error(i, row)
		}
	}
}

// TestReductionProductsInOrder: Left * m comes before the product with Right. The summands of
// m * Right are too large here, but nobody asks for it.
func TestReductionProductsInOrder(t *testing.T) {
	const s = 100000000000
	m := matrixOf(2, 3, 4, 4*s, 4*s, 1, s, s)
	r := impl.Reduction{
		Left: squareOf(2, 0, 1, 1, -4), LeftInverse: squareOf(2, 4, 1, 1, 0),
		Diagonal: matrixOf(2, 3, 1, 0, 0, 0, 0, 0),
		Right:    squareOf(3, 1, -s, -2*s, 0, 1, 1, 0, 0, 1), RightInverse: squareOf(3, 1, s, s, 0, 1, -1, 0, 0, 1),
	}
	if _, code := impl.MultiplyMatrices(m, r.Right); code != impl.ErrLimit {
		t.Fatal("this is no case:", code)
	}
	if !impl.IsReduction(m, r) {
		t.Fatal("not accepted")
	}
}

func product(t *testing.T, a impl.Matrix, b impl.Matrix) impl.Matrix {
	t.Helper()
	p, code := impl.MultiplyMatrices(a, b)
	if code != impl.ErrNone {
		t.Fatal(a, b, code)
	}
	return p
}

// unimodular returns a matrix with integer entries and its inverse: a product of a few steps.
func (s *numbers) unimodular(n int64) (impl.Matrix, impl.Matrix) {
	m, _ := s.shuffled(n)
	inverse := impl.Transpose(m)
	for range 2 * n {
		i, j, q := s.next(0, n-1), s.next(0, n-1), s.next(-2, 2)
		if i == j {
			continue
		}
		for k := range n {
			m.Entries[i*n+k] += q * m.Entries[j*n+k]
			inverse.Entries[k*n+j] -= q * inverse.Entries[k*n+i]
		}
	}
	return m, inverse
}

func TestInvariantFactorsKnown(t *testing.T) {
	const most = impl.MaxEntry
	rows := []struct {
		m    impl.Matrix
		want []int64
	}{
		{squareOf(2, 0, 3, 2, 0), []int64{1, 6}},
		{squareOf(2, 2, 4, 6, 8), []int64{2, 4}},
		{squareOf(2, 1, 2, 2, 4), []int64{1}},
		{diagonalOf(2, 3, 5), []int64{1, 1, 30}},
		{diagonalOf(6, 10, 15), []int64{1, 30, 30}},
		{diagonalOf(4, 0, 6), []int64{2, 12}},
		{diagonalOf(-12, 8), []int64{4, 24}},
		{matrixOf(3, 1, 12, 18, -8), []int64{2}},
		{matrixOf(1, 3, 12, 18, -9), []int64{3}},
		{squareOf(3, 2, 4, 4, -6, 6, 12, 10, 4, 16), []int64{2, 2, 156}},
		{matrixOf(2, 3, 0, 0, 0, 0, 0, 0), nil},
		{matrixOf(0, 3), nil},
		{matrixOf(3, 0), nil},
		{impl.Matrix{}, nil},
		{diagonalOf(1000000, 999999), []int64{1, 999999000000}},
		{diagonalOf(most, -most), []int64{most, most}},
		{diagonalOf(repeated(7, 48)...), repeated(7, 48)},
	}
	for _, row := range rows {
		if f, code := impl.InvariantFactors(row.m); code != impl.ErrNone || !slices.Equal(f, row.want) {
			t.Error(row, f, code)
		}
		if n, code := impl.MatrixRank(row.m); code != impl.ErrNone || n != int64(len(row.want)) {
			t.Error(row, n, code)
		}
	}
}

func gcd(a int64, b int64) int64 {
	for b != 0 {
		a, b = b, a%b
	}
	return max(a, -a)
}

// choices returns all lists of k of the numbers below n, in ascending order.
func choices(n int64, k int64) [][]int64 {
	if k == 0 {
		return [][]int64{nil}
	}
	var all [][]int64
	for last := k - 1; last < n; last++ {
		for _, c := range choices(last, k-1) {
			all = append(all, append(slices.Clone(c), last))
		}
	}
	return all
}

// minorDivisor returns the greatest common divisor of all determinants of k rows and k columns.
func minorDivisor(t *testing.T, m impl.Matrix, k int64) int64 {
	t.Helper()
	divisor := int64(0)
	for _, rows := range choices(m.Rows, k) {
		for _, columns := range choices(m.Columns, k) {
			part := matrixOf(k, k)
			for _, i := range rows {
				for _, j := range columns {
					part.Entries = append(part.Entries, m.Entries[i*m.Columns+j])
				}
			}
			d, code := impl.Determinant(part)
			if code != impl.ErrNone {
				t.Fatal(part, code)
			}
			divisor = gcd(divisor, d)
		}
	}
	return divisor
}

// TestInvariantFactorsOfMinors: the product of the first k invariant factors is the greatest common
// divisor of the minors with k rows.
func TestInvariantFactorsOfMinors(t *testing.T) {
	seed := numbers(25)
	for range 500 {
		m := seed.matrix(seed.next(1, 4), seed.next(1, 4), seed.next(1, 9))
		f, code := impl.InvariantFactors(m)
		if code != impl.ErrNone {
			t.Fatal(m, code)
		}
		want := int64(1)
		for k := int64(1); k <= min(m.Rows, m.Columns); k++ {
			if k > int64(len(f)) {
				want = 0
			} else {
				want *= f[k-1]
			}
			if d := minorDivisor(t, m, k); d != want {
				t.Fatal(m, f, k, d)
			}
		}
	}
}

// TestInvariantFactorsInOtherOrder exchanges rows and columns, and transposes, multiplies by
// unimodular matrices, and changes signs.
func TestInvariantFactorsInOtherOrder(t *testing.T) {
	seed, ranks := numbers(26), map[int64]int{}
	for range 3000 {
		m := seed.matrix(seed.next(1, 4), seed.next(1, 4), seed.next(1, 8))
		if seed.next(0, 1) == 0 {
			m = seed.matrixOfRank(seed.next(1, 5), seed.next(1, 5), seed.next(0, 3))
		}
		want, code := impl.InvariantFactors(m)
		if code != impl.ErrNone {
			t.Fatal(m, code)
		}
		ranks[int64(len(want))]++
		rows, _ := seed.shuffled(m.Rows)
		columns, _ := seed.shuffled(m.Columns)
		left, _ := seed.unimodular(m.Rows)
		for _, other := range []impl.Matrix{product(t, rows, m), product(t, m, columns), product(t, product(t, rows, m), columns), impl.Transpose(m), product(t, left, m), scaled(m, -1)} {
			if f, code := impl.InvariantFactors(other); code != impl.ErrNone || !slices.Equal(f, want) {
				t.Fatal(m, want, other, f, code)
			}
		}
	}
	for rank := range int64(5) {
		if ranks[rank] < 20 {
			t.Fatal("too few cases:", ranks)
		}
	}
}

// matrixOfRank returns a matrix of at most this rank.
func (s *numbers) matrixOfRank(rows int64, columns int64, rank int64) impl.Matrix {
	p, _ := impl.MultiplyMatrices(s.matrix(rows, rank, 3), s.matrix(rank, columns, 3))
	return p
}

// TestSmithOfLargeMatrices has matrices with up to 48 rows and columns and few entries.
func TestSmithOfLargeMatrices(t *testing.T) {
	seed, forms := numbers(27), 0
	for range 200 {
		m := seed.matrix(seed.next(20, 48), seed.next(20, 48), 1)
		for i := range m.Entries {
			if seed.next(0, 11) != 0 {
				m.Entries[i] = 0
			}
		}
		r, code := impl.SmithForm(m)
		if code == impl.ErrLimit {
			continue
		}
		f, codeF := impl.InvariantFactors(m)
		n, codeN := impl.MatrixRank(m)
		if code != impl.ErrNone || codeF != impl.ErrNone || codeN != impl.ErrNone || n != int64(len(f)) {
			t.Fatal(m, code, codeF, codeN)
		}
		if impl.IsReduction(m, r) {
			forms++
		}
		for k := range min(m.Rows, m.Columns) {
			if x := r.Diagonal.Entries[k*(m.Columns+1)]; k < n && x != f[k] || k >= n && x != 0 {
				t.Fatal(m, k, x, f)
			}
		}
	}
	if forms < 100 {
		t.Fatal("too few reductions:", forms)
	}
}

func TestSmithArgumentsAreKept(t *testing.T) {
	for _, m := range []impl.Matrix{{}, matrixOf(0, 3), matrixOf(3, 0), matrixOf(1, 1, -5), squareOf(2, 2, 4, 6, 8), diagonalOf(2, 3), squareOf(3, 0, 2, 1, 1, 0, 3, 4, 5, 0)} {
		g, check := guarded(t, m)
		checks := []func(){check}
		r, code := impl.SmithForm(g)
		if code != impl.ErrNone {
			t.Fatal(m, code)
		}
		kept := cloneReduction(r)
		checkSeparate(t, &r)
		for _, five := range matricesOf(&kept) {
			*five, check = guarded(t, *five)
			checks = append(checks, check)
		}
		if !impl.IsReduction(g, kept) {
			t.Fatal(m, kept)
		}
		factors, _ := impl.InvariantFactors(g)
		overwrite(factors)
		impl.MatrixRank(g)
		cokernel, _ := impl.CokernelOf(g)
		overwrite(cokernel.Torsion)
		for _, check := range checks {
			check()
		}
	}
}

func overwrite(list []int64) {
	whole := list[:cap(list)]
	for i := range whole {
		whole[i] = spareMark
	}
}

// checkSeparate overwrites each of the five matrices with the room behind its entries, and sees
// whether another one changes.
func checkSeparate(t *testing.T, r *impl.Reduction) {
	t.Helper()
	for i, five := range matricesOf(r) {
		before := cloneReduction(*r)
		overwrite(five.Entries)
		matricesOf(&before)[i].Entries = slices.Clone(five.Entries)
		if !sameReduction(before, *r) {
			t.Fatal("two matrices of a reduction share memory")
		}
	}
}
