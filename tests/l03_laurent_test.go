package tests

import (
	"math/big"
	"regexp"
	"slices"
	"strconv"
	"testing"

	"loop.example/g00870/impl"
)

func laurentOf(low int64, terms ...int64) impl.Laurent {
	return impl.Laurent{Low: low, Terms: terms}
}

func sameLaurent(p impl.Laurent, q impl.Laurent) bool {
	return p.Low == q.Low && slices.Equal(p.Terms, q.Terms)
}

func isZeroLaurent(p impl.Laurent) bool {
	return sameLaurent(p, impl.Laurent{})
}

// ends returns n terms, the first and the last of which are 1, and 0 between them.
func ends(n int) []int64 {
	terms := repeated(0, n)
	terms[0], terms[n-1] = 1, 1
	return terms
}

func validLaurents() []impl.Laurent {
	const most = impl.MaxEntry
	return []impl.Laurent{
		{}, {Terms: []int64{}},
		laurentOf(0, 1), laurentOf(0, -1), laurentOf(0, 5), laurentOf(3, 1), laurentOf(-3, -2), laurentOf(240, 1), laurentOf(-240, -1),
		laurentOf(0, most), laurentOf(0, -most), laurentOf(-240, most, -most), laurentOf(239, -most, most),
		laurentOf(-1, 1, 0, 2), laurentOf(-1, 1, 0, -2), laurentOf(-1, -1, 3, -1), laurentOf(-2, 1, 2, 1), laurentOf(5, -1, 0, 0, 0, 7), laurentOf(-7, 3, -4),
		laurentOf(0, repeated(1, 160)...), laurentOf(81, repeated(most, 160)...), laurentOf(-240, repeated(-most, 160)...), laurentOf(-80, ends(160)...),
		laurentOf(82, repeated(-1, 159)...), laurentOf(-240, ends(159)...),
	}
}

func invalidLaurents() []impl.Laurent {
	const most = impl.MaxEntry
	return []impl.Laurent{
		laurentOf(1), laurentOf(-1), laurentOf(240), laurentOf(maxInt), laurentOf(minInt),
		laurentOf(0, 0), laurentOf(0, 0, 1), laurentOf(0, 1, 0), laurentOf(-1, 0, 1, 0), laurentOf(0, 0, 0), laurentOf(5, 0), laurentOf(0, append(ends(159), 0)...),
		laurentOf(241, 1), laurentOf(-241, 1), laurentOf(240, 1, 1), laurentOf(-241, 1, 1), laurentOf(239, 1, 0, 1), laurentOf(1000, 1), laurentOf(-1000, 1),
		laurentOf(82, ends(160)...), laurentOf(-241, ends(160)...),
		laurentOf(maxInt, 1), laurentOf(maxInt, 1, 1), laurentOf(maxInt-1, 1, 1, 1), laurentOf(maxInt, ends(160)...), laurentOf(minInt, 1), laurentOf(minInt, 1, 1), laurentOf(minInt, ends(160)...),
		laurentOf(0, ends(161)...), laurentOf(-80, ends(161)...), laurentOf(0, repeated(1, 161)...), laurentOf(-240, ends(481)...), laurentOf(0, ends(1000)...), laurentOf(1, repeated(0, 161)...),
		laurentOf(0, most+1), laurentOf(0, -most-1), laurentOf(0, 1, most+1, 1), laurentOf(0, 1, -most-1, 1), laurentOf(0, 1, most+1), laurentOf(0, -most-1, 1),
		laurentOf(0, maxInt), laurentOf(0, minInt), laurentOf(0, 1, maxInt, 1), laurentOf(0, 1, minInt, 1), laurentOf(minInt, minInt), laurentOf(maxInt, maxInt),
	}
}

// smallLaurents returns all polynomials with at most three terms of -1, 0 and 1 that begin at -1, 0
// or 1.
func smallLaurents() []impl.Laurent {
	list := []impl.Laurent{{}}
	for low := int64(-1); low <= 1; low++ {
		for _, first := range []int64{-1, 1} {
			list = append(list, laurentOf(low, first))
			for _, last := range []int64{-1, 1} {
				list = append(list, laurentOf(low, first, last))
				for middle := int64(-1); middle <= 1; middle++ {
					list = append(list, laurentOf(low, first, middle, last))
				}
			}
		}
	}
	return list
}

// upTo returns a number from 1 to most, which may be too large for next.
func (s *numbers) upTo(most int64) int64 {
	return (s.next(0, 1<<31-1)<<31+s.next(0, 1<<31-1))%most + 1
}

func (s *numbers) sign() int64 {
	return 2*s.next(0, 1) - 1
}

// laurent returns a polynomial with up to n terms, many of them 0.
func (s *numbers) laurent(n int64, size int64) impl.Laurent {
	n = s.next(0, n)
	if n == 0 {
		return impl.Laurent{}
	}
	p := laurentOf(min(s.next(-n, n), impl.MaxExponent+1-n))
	for range n {
		p.Terms = append(p.Terms, s.next(0, 1)*s.sign()*s.upTo(size))
	}
	p.Terms[0], p.Terms[n-1] = s.sign()*s.upTo(size), s.sign()*s.upTo(size)
	return p
}

func negated(p impl.Laurent) impl.Laurent {
	terms := slices.Clone(p.Terms)
	for i := range terms {
		terms[i] = -terms[i]
	}
	return laurentOf(p.Low, terms...)
}

func laurentSum(t *testing.T, p impl.Laurent, q impl.Laurent) impl.Laurent {
	t.Helper()
	sum, code := impl.AddLaurent(p, q)
	if code != impl.ErrNone {
		t.Fatal(p, q, code)
	}
	return sum
}

func laurentProduct(t *testing.T, p impl.Laurent, q impl.Laurent) impl.Laurent {
	t.Helper()
	product, code := impl.MultiplyLaurent(p, q)
	if code != impl.ErrNone {
		t.Fatal(p, q, code)
	}
	return product
}

func laurentValue(t *testing.T, p impl.Laurent, sign int64) int64 {
	t.Helper()
	x, ok := impl.EvaluateSign(p, sign)
	if !ok {
		t.Fatal(p, sign)
	}
	return x
}

func TestLaurentConstants(t *testing.T) {
	if impl.MaxTerms != 160 || impl.MaxExponent != 240 {
		t.Fatal("wrong limits")
	}
}

func TestIsLaurent(t *testing.T) {
	for _, p := range validLaurents() {
		if !impl.IsLaurent(p) {
			t.Error("not accepted:", p)
		}
	}
	for _, p := range invalidLaurents() {
		if impl.IsLaurent(p) {
			t.Error("accepted:", p)
		}
	}
}

// TestIsLaurentOfAllRanges tries every first exponent near the ends with every number of terms.
func TestIsLaurentOfAllRanges(t *testing.T) {
	for n := 1; n <= 162; n++ {
		for low := int64(-243); low <= 243; low++ {
			want := n <= 160 && low >= -240 && low+int64(n)-1 <= 240
			if impl.IsLaurent(laurentOf(low, ends(n)...)) != want {
				t.Fatal(low, n)
			}
		}
	}
}

func TestMonomialOf(t *testing.T) {
	const most = impl.MaxEntry
	for _, c := range []int64{0, 1, -1, 7, -7, most, -most, most + 1, -most - 1, maxInt, minInt} {
		for e := int64(-243); e <= 243; e++ {
			want, wanted := laurentOf(e, c), int64(impl.ErrNone)
			if c == 0 {
				want = impl.Laurent{}
			}
			if c > most || c < -most || e > 240 || e < -240 {
				want, wanted = impl.Laurent{}, impl.ErrRange
			}
			if p, code := impl.MonomialOf(c, e); code != wanted || !sameLaurent(p, want) {
				t.Fatal(c, e, p, code)
			}
		}
		for _, e := range []int64{maxInt, minInt, maxInt - 240, minInt + 240} {
			if p, code := impl.MonomialOf(c, e); code != impl.ErrRange || !isZeroLaurent(p) {
				t.Fatal(c, e, p, code)
			}
		}
	}
}

// checkSum compares the sums in both orders with the one without limits.
func checkSum(t *testing.T, p impl.Laurent, q impl.Laurent) bool {
	t.Helper()
	want, ok := sparseOf(p).plus(sparseOf(q)).form()
	checkBoth(t, impl.AddLaurent, p, q, want, ok)
	return ok
}

// checkProduct compares the products in both orders with the one without limits.
func checkProduct(t *testing.T, p impl.Laurent, q impl.Laurent) bool {
	t.Helper()
	a, b := sparseOf(p), sparseOf(q)
	want, ok := a.times(b).form()
	if new(big.Int).Mul(a.size(), b.size()).Cmp(big.NewInt(impl.MaxEntry)) > 0 {
		want, ok = impl.Laurent{}, false
	}
	checkBoth(t, impl.MultiplyLaurent, p, q, want, ok)
	return ok
}

func checkBoth(t *testing.T, f func(impl.Laurent, impl.Laurent) (impl.Laurent, int64), p impl.Laurent, q impl.Laurent, want impl.Laurent, ok bool) {
	t.Helper()
	wanted := int64(impl.ErrNone)
	if !ok {
		wanted = impl.ErrLimit
	}
	for _, pair := range [][2]impl.Laurent{{p, q}, {q, p}} {
		got, code := f(pair[0], pair[1])
		if code != wanted || !sameLaurent(got, want) || code == impl.ErrNone && !impl.IsLaurent(got) {
			t.Fatal(pair, got, code, want, wanted)
		}
	}
}

func TestSumsAndProductsOfListed(t *testing.T) {
	for _, p := range validLaurents() {
		for _, q := range validLaurents() {
			checkSum(t, p, q)
			checkProduct(t, p, q)
		}
	}
}

func TestSumsAndProductsOrdinary(t *testing.T) {
	seed, done, limits := numbers(41), [2]int{}, [2]int{}
	for range 6000 {
		n := []int64{3, 8, 60, 160}[seed.next(0, 3)]
		size := []int64{1, 20, 20000, 400000, impl.MaxEntry}[seed.next(0, 4)]
		p, q := seed.laurent(n, size), seed.laurent(n, size)
		for i, check := range []func(*testing.T, impl.Laurent, impl.Laurent) bool{checkSum, checkProduct} {
			if check(t, p, q) {
				done[i]++
			} else {
				limits[i]++
			}
		}
	}
	if min(done[0], done[1], limits[0], limits[1]) < 500 {
		t.Fatal("the cases are one-sided:", done, limits)
	}
}

// TestSumsThatCancel adds to a polynomial one that leaves only a part of it, anywhere in it.
func TestSumsThatCancel(t *testing.T) {
	seed := numbers(42)
	for range 2000 {
		p := seed.laurent(12, []int64{2, impl.MaxEntry}[seed.next(0, 1)])
		n := len(p.Terms)
		from := int(seed.next(0, int64(n)))
		to := int(seed.next(int64(from), int64(n)))
		rest := sparseOf(p)
		for i := range n {
			if i < from || i >= to {
				rest[p.Low+int64(i)] = new(big.Int)
			}
		}
		kept, _ := rest.form()
		gone := laurentSum(t, kept, negated(p))
		if sum := laurentSum(t, p, gone); !sameLaurent(sum, kept) {
			t.Fatal(p, gone, sum, kept)
		}
		if sum := laurentSum(t, p, negated(p)); !isZeroLaurent(sum) {
			t.Fatal(p, sum)
		}
	}
}

type laurentRow struct {
	p, q, want impl.Laurent
	code       int64
}

func checkRows(t *testing.T, f func(impl.Laurent, impl.Laurent) (impl.Laurent, int64), rows []laurentRow) {
	t.Helper()
	for _, row := range rows {
		for _, pair := range [][2]impl.Laurent{{row.p, row.q}, {row.q, row.p}} {
			if got, code := f(pair[0], pair[1]); code != row.code || !sameLaurent(got, row.want) {
				t.Error(pair, got, code, row.want, row.code)
			}
		}
	}
}

func TestAddEdges(t *testing.T) {
	const most = impl.MaxEntry
	zero := impl.Laurent{}
	checkRows(t, impl.AddLaurent, []laurentRow{
		{laurentOf(0, 1, 1), laurentOf(1, -1), laurentOf(0, 1), impl.ErrNone},
		{laurentOf(2, 1), laurentOf(-1, 3), laurentOf(-1, 3, 0, 0, 1), impl.ErrNone},
		{zero, zero, zero, impl.ErrNone},
		{laurentOf(200, 1), zero, laurentOf(200, 1), impl.ErrNone},
		{laurentOf(-200, 1), zero, laurentOf(-200, 1), impl.ErrNone},
		{laurentOf(81, ends(160)...), zero, laurentOf(81, ends(160)...), impl.ErrNone},
		{laurentOf(-240, ends(160)...), zero, laurentOf(-240, ends(160)...), impl.ErrNone},
		// The first terms cancel, the last ones, both, and all; more than one, and with 0 between.
		{laurentOf(-2, 1, 1), laurentOf(-2, -1, 1), laurentOf(-1, 2), impl.ErrNone},
		{laurentOf(-2, 1, 1), laurentOf(-2, 1, -1), laurentOf(-2, 2), impl.ErrNone},
		{laurentOf(-2, 1, 5, 1), laurentOf(-2, -1, 0, -1), laurentOf(-1, 5), impl.ErrNone},
		{laurentOf(-2, 1, 5, 1), laurentOf(-2, -1, -5, -1), zero, impl.ErrNone},
		{laurentOf(3, 1, 0, 0, 2), laurentOf(3, -1), laurentOf(6, 2), impl.ErrNone},
		{laurentOf(3, 1, 0, 0, 2), laurentOf(6, -2), laurentOf(3, 1), impl.ErrNone},
		{laurentOf(3, 1, 2, 3), laurentOf(3, -1, -2), laurentOf(5, 3), impl.ErrNone},
		{laurentOf(3, 1, 2, 3), laurentOf(4, -2, -3), laurentOf(3, 1), impl.ErrNone},
		{laurentOf(3, 1, 2, 3), laurentOf(4, -2), laurentOf(3, 1, 0, 3), impl.ErrNone},
		// MaxTerms.
		{laurentOf(0, 1), laurentOf(159, 1), laurentOf(0, ends(160)...), impl.ErrNone},
		{laurentOf(0, 1), laurentOf(160, 1), zero, impl.ErrLimit},
		{laurentOf(0, 1), laurentOf(-159, 1), laurentOf(-159, ends(160)...), impl.ErrNone},
		{laurentOf(0, 1), laurentOf(-160, 1), zero, impl.ErrLimit},
		{laurentOf(-240, 1), laurentOf(240, 1), zero, impl.ErrLimit},
		{laurentOf(0, repeated(1, 160)...), laurentOf(160, 1), zero, impl.ErrLimit},
		{laurentOf(0, repeated(1, 160)...), laurentOf(-1, 1), zero, impl.ErrLimit},
		{laurentOf(0, repeated(1, 160)...), laurentOf(1, repeated(-1, 159)...), laurentOf(0, 1), impl.ErrNone},
		{laurentOf(0, repeated(1, 160)...), laurentOf(1, repeated(-1, 160)...), zero, impl.ErrLimit},
		// MaxExponent: no sum goes beyond it.
		{laurentOf(240, 1), laurentOf(240, 1), laurentOf(240, 2), impl.ErrNone},
		{laurentOf(-240, 1), laurentOf(-240, 1), laurentOf(-240, 2), impl.ErrNone},
		// MaxEntry.
		{laurentOf(0, most-1), laurentOf(0, 1), laurentOf(0, most), impl.ErrNone},
		{laurentOf(0, most), laurentOf(0, 1), zero, impl.ErrLimit},
		{laurentOf(0, 1-most), laurentOf(0, -1), laurentOf(0, -most), impl.ErrNone},
		{laurentOf(0, -most), laurentOf(0, -1), zero, impl.ErrLimit},
		{laurentOf(0, most), laurentOf(0, most), zero, impl.ErrLimit},
		{laurentOf(0, most), laurentOf(0, -most), zero, impl.ErrNone},
		{laurentOf(0, 1, most, 1), laurentOf(1, 1), zero, impl.ErrLimit},
		{laurentOf(0, 1, -most, 1), laurentOf(-1, 1, 0, -1), zero, impl.ErrLimit},
		{laurentOf(0, 1, most, 1), laurentOf(1, -1), laurentOf(0, 1, most-1, 1), impl.ErrNone},
		{laurentOf(0, repeated(most, 160)...), laurentOf(0, repeated(-most, 160)...), zero, impl.ErrNone},
		{laurentOf(0, repeated(most, 80)...), laurentOf(80, repeated(-most, 80)...), laurentOf(0, slices.Concat(repeated(most, 80), repeated(-most, 80))...), impl.ErrNone},
	})
}

func TestMultiplyLaurentEdges(t *testing.T) {
	const most = impl.MaxEntry
	zero, one := impl.Laurent{}, laurentOf(0, 1)
	ones, full := repeated(1, 160), repeated(most, 160)
	checkRows(t, impl.MultiplyLaurent, []laurentRow{
		{laurentOf(-1, 1, 1), laurentOf(-1, 1, 1), laurentOf(-2, 1, 2, 1), impl.ErrNone},
		{laurentOf(0, 1, 1), laurentOf(0, 1, -1), laurentOf(0, 1, 0, -1), impl.ErrNone},
		{zero, zero, zero, impl.ErrNone},
		{zero, laurentOf(5, 1), zero, impl.ErrNone},
		{zero, laurentOf(-240, full...), zero, impl.ErrNone},
		{laurentOf(240, -most), zero, zero, impl.ErrNone},
		{one, laurentOf(7, 1, 0, -2), laurentOf(7, 1, 0, -2), impl.ErrNone},
		// MaxTerms.
		{laurentOf(0, repeated(1, 80)...), laurentOf(0, ends(81)...), laurentOf(0, ones...), impl.ErrNone},
		{laurentOf(0, repeated(1, 81)...), laurentOf(0, ends(81)...), zero, impl.ErrLimit},
		{laurentOf(-80, ones...), laurentOf(1, -1), laurentOf(-79, repeated(-1, 160)...), impl.ErrNone},
		{laurentOf(-80, ones...), laurentOf(0, 1, -1), zero, impl.ErrLimit},
		{laurentOf(-80, ones...), laurentOf(0, ones...), zero, impl.ErrLimit},
		// MaxExponent.
		{laurentOf(120, 1), laurentOf(120, 1), laurentOf(240, 1), impl.ErrNone},
		{laurentOf(120, 1), laurentOf(121, 1), zero, impl.ErrLimit},
		{laurentOf(-120, 1), laurentOf(-120, 1), laurentOf(-240, 1), impl.ErrNone},
		{laurentOf(-120, 1), laurentOf(-121, 1), zero, impl.ErrLimit},
		{laurentOf(240, 1), laurentOf(0, 1, 1), zero, impl.ErrLimit},
		{laurentOf(239, 1), laurentOf(0, 1, 1), laurentOf(239, 1, 1), impl.ErrNone},
		{laurentOf(-240, 1), laurentOf(-1, 1, 1), zero, impl.ErrLimit},
		{laurentOf(-240, 1), laurentOf(0, 1, 1), laurentOf(-240, 1, 1), impl.ErrNone},
		{laurentOf(240, 1), laurentOf(-240, 1), one, impl.ErrNone},
		{laurentOf(240, 1), laurentOf(240, 1), zero, impl.ErrLimit},
		// The sums of absolute values, though the terms of the product may be small.
		{laurentOf(0, 1000000), laurentOf(0, -1000000), laurentOf(0, -most), impl.ErrNone},
		{laurentOf(0, 1000000), laurentOf(0, 1000001), zero, impl.ErrLimit},
		{one, laurentOf(3, most), laurentOf(3, most), impl.ErrNone},
		{one, laurentOf(3, most-1, 1), laurentOf(3, most-1, 1), impl.ErrNone},
		{one, laurentOf(3, most, 1), zero, impl.ErrLimit},
		{one, laurentOf(3, -most, -1), zero, impl.ErrLimit},
		{one, laurentOf(-80, full...), zero, impl.ErrLimit},
		{laurentOf(0, 1, -1), laurentOf(0, most/2), laurentOf(0, most/2, -most/2), impl.ErrNone},
		{laurentOf(0, 1, -1), laurentOf(0, most/2+1), zero, impl.ErrLimit},
		{laurentOf(0, 1, 1), laurentOf(0, most/4, -most/4), laurentOf(0, most/4, 0, -most/4), impl.ErrNone},
		{laurentOf(0, 1, 1), laurentOf(0, most/4, -most/4-1), zero, impl.ErrLimit},
		{laurentOf(0, 3), laurentOf(0, most/3), laurentOf(0, most/3*3), impl.ErrNone},
		{laurentOf(0, 3), laurentOf(0, most/3+1), zero, impl.ErrLimit},
		{laurentOf(0, ones...), laurentOf(0, most/160), laurentOf(0, repeated(most/160, 160)...), impl.ErrNone},
		{laurentOf(0, ones...), laurentOf(0, most/160+1), zero, impl.ErrLimit},
		{laurentOf(0, 1<<32), laurentOf(0, 1<<32), zero, impl.ErrLimit},
		{laurentOf(0, most), laurentOf(0, 2), zero, impl.ErrLimit},
		{laurentOf(0, most), laurentOf(0, most), zero, impl.ErrLimit},
		{laurentOf(-80, full...), laurentOf(-80, full...), zero, impl.ErrLimit},
	})
}

func TestLaurentArithmeticInvalid(t *testing.T) {
	for _, bad := range invalidLaurents() {
		for _, q := range append(validLaurents(), bad) {
			for _, f := range []func(impl.Laurent, impl.Laurent) (impl.Laurent, int64){impl.AddLaurent, impl.MultiplyLaurent} {
				if got, code := f(bad, q); code != impl.ErrInvalid || !isZeroLaurent(got) {
					t.Error(bad, q, got, code)
				}
				if got, code := f(q, bad); code != impl.ErrInvalid || !isZeroLaurent(got) {
					t.Error(q, bad, got, code)
				}
			}
		}
	}
}

// checkRing checks the laws of a commutative ring for three polynomials that are far from the
// limits.
func checkRing(t *testing.T, p impl.Laurent, q impl.Laurent, r impl.Laurent) {
	t.Helper()
	pq, qr := laurentSum(t, p, q), laurentSum(t, q, r)
	if !sameLaurent(laurentSum(t, pq, r), laurentSum(t, p, qr)) {
		t.Fatal("a sum depends on the brackets", p, q, r)
	}
	left := laurentProduct(t, p, qr)
	right := laurentSum(t, laurentProduct(t, p, q), laurentProduct(t, p, r))
	if !sameLaurent(left, right) {
		t.Fatal("not distributive", p, q, r, left, right)
	}
	left = laurentProduct(t, laurentProduct(t, p, q), r)
	right = laurentProduct(t, p, laurentProduct(t, q, r))
	if !sameLaurent(left, right) {
		t.Fatal("a product depends on the brackets", p, q, r, left, right)
	}
}

func TestRingOfSmall(t *testing.T) {
	list := smallLaurents()
	for _, p := range list {
		for _, q := range list {
			checkPair(t, p, q)
			for _, r := range list {
				checkRing(t, p, q, r)
			}
		}
	}
}

func TestRingOrdinary(t *testing.T) {
	seed := numbers(43)
	for range 3000 {
		p, q, r := seed.laurent(20, 30), seed.laurent(20, 30), seed.laurent(20, 30)
		checkRing(t, p, q, r)
		checkPair(t, p, q)
		if !sameLaurent(laurentSum(t, p, impl.Laurent{}), p) || !sameLaurent(laurentProduct(t, p, laurentOf(0, 1)), p) {
			t.Fatal("0 or 1 is not neutral", p)
		}
		if !isZeroLaurent(laurentSum(t, p, laurentProduct(t, p, laurentOf(0, -1)))) || !isZeroLaurent(laurentProduct(t, p, impl.Laurent{})) {
			t.Fatal("no zero", p)
		}
	}
}

// checkPair checks the order, and that values for t = 1 and t = -1 and the exchange of t and t^-1
// go with sums and products.
func checkPair(t *testing.T, p impl.Laurent, q impl.Laurent) {
	t.Helper()
	sum, product := laurentSum(t, p, q), laurentProduct(t, p, q)
	if !sameLaurent(sum, laurentSum(t, q, p)) || !sameLaurent(product, laurentProduct(t, q, p)) {
		t.Fatal("not commutative", p, q)
	}
	for _, sign := range []int64{1, -1} {
		x, y := laurentValue(t, p, sign), laurentValue(t, q, sign)
		if laurentValue(t, sum, sign) != x+y || laurentValue(t, product, sign) != x*y {
			t.Fatal("values do not go with sums and products", p, q, sign)
		}
	}
	a, b := impl.InvertVariable(p), impl.InvertVariable(q)
	if !sameLaurent(impl.InvertVariable(sum), laurentSum(t, a, b)) || !sameLaurent(impl.InvertVariable(product), laurentProduct(t, a, b)) {
		t.Fatal("the exchange of t and t^-1 does not go with sums and products", p, q)
	}
}

func TestShiftLaurent(t *testing.T) {
	for _, p := range validLaurents() {
		for e := int64(-485); e <= 485; e++ {
			want, wanted := laurentOf(p.Low+e, p.Terms...), int64(impl.ErrNone)
			if len(p.Terms) == 0 {
				want = impl.Laurent{}
			} else if p.Low+e < -240 || p.Low+e+int64(len(p.Terms))-1 > 240 {
				want, wanted = impl.Laurent{}, impl.ErrLimit
			}
			if e < -480 || e > 480 {
				want, wanted = impl.Laurent{}, impl.ErrRange
			}
			if got, code := impl.ShiftLaurent(p, e); code != wanted || !sameLaurent(got, want) {
				t.Fatal(p, e, got, code)
			}
		}
	}
}

func TestShiftLaurentErrors(t *testing.T) {
	rows := []struct {
		p    impl.Laurent
		e    int64
		want impl.Laurent
		code int64
	}{
		{laurentOf(-240, 3), 480, laurentOf(240, 3), impl.ErrNone},
		{laurentOf(240, 3), -480, laurentOf(-240, 3), impl.ErrNone},
		{laurentOf(-240, 3), 481, impl.Laurent{}, impl.ErrRange},
		{laurentOf(240, 3), -481, impl.Laurent{}, impl.ErrRange},
		{laurentOf(-240, 3, 1), 480, impl.Laurent{}, impl.ErrLimit},
		{laurentOf(-240, 3, 1), 479, laurentOf(239, 3, 1), impl.ErrNone},
		{laurentOf(239, 3, 1), -480, impl.Laurent{}, impl.ErrLimit},
		{laurentOf(-239, 3), 480, impl.Laurent{}, impl.ErrLimit},
		{laurentOf(0, 1, 2), -3, laurentOf(-3, 1, 2), impl.ErrNone},
		{impl.Laurent{}, 480, impl.Laurent{}, impl.ErrNone},
		{impl.Laurent{}, -480, impl.Laurent{}, impl.ErrNone},
		{impl.Laurent{}, 481, impl.Laurent{}, impl.ErrRange},
		{impl.Laurent{}, maxInt, impl.Laurent{}, impl.ErrRange},
		{laurentOf(0, 1), maxInt, impl.Laurent{}, impl.ErrRange},
		{laurentOf(1, 1), maxInt, impl.Laurent{}, impl.ErrRange},
		{laurentOf(0, 1), minInt, impl.Laurent{}, impl.ErrRange},
		{laurentOf(-1, 1), minInt, impl.Laurent{}, impl.ErrRange},
	}
	for _, row := range rows {
		if got, code := impl.ShiftLaurent(row.p, row.e); code != row.code || !sameLaurent(got, row.want) {
			t.Error(row, got, code)
		}
	}
	for _, bad := range invalidLaurents() {
		for _, e := range []int64{0, 1, -1, 480, -480, 481, -481, maxInt, minInt} {
			if got, code := impl.ShiftLaurent(bad, e); code != impl.ErrInvalid || !isZeroLaurent(got) {
				t.Error(bad, e, got, code)
			}
		}
	}
}

// TestShiftsAreProducts: a shift is a multiplication with a power of t.
func TestShiftsAreProducts(t *testing.T) {
	seed := numbers(44)
	for range 2000 {
		p, e := seed.laurent(30, 50), seed.next(-100, 100)
		power, _ := impl.MonomialOf(1, e)
		shifted, code := impl.ShiftLaurent(p, e)
		if code != impl.ErrNone || !sameLaurent(shifted, laurentProduct(t, p, power)) {
			t.Fatal(p, e, shifted, code)
		}
		if back, code := impl.ShiftLaurent(shifted, -e); code != impl.ErrNone || !sameLaurent(back, p) {
			t.Fatal(p, e, back, code)
		}
	}
}

func TestInvertVariable(t *testing.T) {
	seed := numbers(45)
	list := append(validLaurents(), smallLaurents()...)
	for range 500 {
		list = append(list, seed.laurent(100, impl.MaxEntry))
	}
	for _, p := range list {
		inverted := sparse{}
		for e, x := range sparseOf(p) {
			inverted[-e] = x
		}
		want, _ := inverted.form()
		if got := impl.InvertVariable(p); !sameLaurent(got, want) || !sameLaurent(impl.InvertVariable(got), p) {
			t.Fatal(p, got, want)
		}
	}
	if got := impl.InvertVariable(laurentOf(0, 1, 2)); !sameLaurent(got, laurentOf(-1, 2, 1)) {
		t.Fatal(got)
	}
	for _, p := range invalidLaurents() {
		if got := impl.InvertVariable(p); !isZeroLaurent(got) {
			t.Error(p, got)
		}
	}
}

func TestEvaluateSign(t *testing.T) {
	const most = impl.MaxEntry
	turns := slices.Repeat([]int64{most, -most}, 80)
	rows := []struct {
		p           impl.Laurent
		plus, minus int64
	}{
		{impl.Laurent{}, 0, 0},
		{laurentOf(0, 5), 5, 5},
		{laurentOf(1, 5), 5, -5},
		{laurentOf(-1, 5), 5, -5},
		{laurentOf(-2, 5), 5, 5},
		{laurentOf(-1, 1, 0, 2), 3, -3},
		{laurentOf(-1, 1, 3), 4, 2},
		{laurentOf(-240, 1, 10, 100), 111, 91},
		{laurentOf(239, 1, 10), 11, 9},
		{laurentOf(0, repeated(most, 160)...), 160 * most, 0},
		{laurentOf(0, turns...), 0, 160 * most},
		{laurentOf(-239, turns...), 0, -160 * most},
		{laurentOf(-240, repeated(-most, 159)...), -159 * most, -most},
	}
	for _, row := range rows {
		if x, y := laurentValue(t, row.p, 1), laurentValue(t, row.p, -1); x != row.plus || y != row.minus {
			t.Error(row, x, y)
		}
	}
	for _, p := range validLaurents() {
		for _, sign := range []int64{0, 2, -2, 3, maxInt, minInt} {
			if x, ok := impl.EvaluateSign(p, sign); ok || x != 0 {
				t.Error(p, sign, x, ok)
			}
		}
	}
	for _, p := range invalidLaurents() {
		for _, sign := range []int64{1, -1, 0, 2, maxInt, minInt} {
			if x, ok := impl.EvaluateSign(p, sign); ok || x != 0 {
				t.Error(p, sign, x, ok)
			}
		}
	}
}

func TestUnitForm(t *testing.T) {
	const most = impl.MaxEntry
	rows := []struct{ p, want impl.Laurent }{
		{laurentOf(-1, -1, 3, -1), laurentOf(0, 1, -3, 1)},
		{laurentOf(-1, 1, -3, 1), laurentOf(0, 1, -3, 1)},
		{impl.Laurent{}, impl.Laurent{}},
		{laurentOf(0, 1), laurentOf(0, 1)},
		{laurentOf(7, -1), laurentOf(0, 1)},
		{laurentOf(-240, -most, 0, most), laurentOf(0, most, 0, -most)},
		{laurentOf(81, repeated(-most, 160)...), laurentOf(0, repeated(most, 160)...)},
		{laurentOf(240, 3), laurentOf(0, 3)},
		{laurentOf(5, 2, -2), laurentOf(0, 2, -2)},
	}
	for _, row := range rows {
		if got := impl.UnitForm(row.p); !sameLaurent(got, row.want) {
			t.Error(row, got)
		}
	}
	for _, p := range invalidLaurents() {
		if got := impl.UnitForm(p); !isZeroLaurent(got) {
			t.Error(p, got)
		}
	}
}

// TestUnitFormOfMultiples: a unit form is one itself, and that of all products with 1, -1 and powers
// of t.
func TestUnitFormOfMultiples(t *testing.T) {
	seed := numbers(46)
	for range 2000 {
		p := seed.laurent(20, 30)
		unit, _ := impl.MonomialOf(seed.sign(), seed.next(-100, 100))
		form := impl.UnitForm(p)
		if !impl.IsLaurent(form) || form.Low != 0 || len(p.Terms) > 0 && form.Terms[0] <= 0 || !sameLaurent(impl.UnitForm(form), form) {
			t.Fatal(p, form)
		}
		if got := impl.UnitForm(laurentProduct(t, p, unit)); !sameLaurent(got, form) {
			t.Fatal(p, unit, got, form)
		}
		back, _ := impl.ShiftLaurent(form, p.Low)
		if !sameLaurent(back, p) && !sameLaurent(back, negated(p)) {
			t.Fatal(p, form)
		}
	}
}

func TestFormatLaurent(t *testing.T) {
	rows := []struct {
		p    impl.Laurent
		want string
	}{
		{laurentOf(-1, 1, 0, -2), "+1t^-1-2t^1"},
		{impl.Laurent{}, "0"},
		{laurentOf(0, 5), "+5"},
		{laurentOf(0, -5), "-5"},
		{laurentOf(0, 1), "+1"},
		{laurentOf(1, 1), "+1t^1"},
		{laurentOf(-1, -1, 1, -1), "-1t^-1+1-1t^1"},
		{laurentOf(-2, 3, 0, 0, 0, 4), "+3t^-2+4t^2"},
		{laurentOf(-240, -1), "-1t^-240"},
		{laurentOf(239, impl.MaxEntry, -impl.MaxEntry), "+1000000000000t^239-1000000000000t^240"},
		{laurentOf(9, 10, 20), "+10t^9+20t^10"},
	}
	for _, row := range rows {
		if s := impl.FormatLaurent(row.p); s != row.want {
			t.Errorf("%v: %q", row.p, s)
		}
	}
	for _, p := range invalidLaurents() {
		if s := impl.FormatLaurent(p); s != "" {
			t.Errorf("%v: %q", p, s)
		}
	}
}

var termPattern = regexp.MustCompile(`^([+-][1-9][0-9]*)(t\^(-?[1-9][0-9]*))?`)

// readLaurent reads the text of a polynomial other than 0, with ascending exponents.
func readLaurent(t *testing.T, text string) impl.Laurent {
	t.Helper()
	s, last := sparse{}, int64(-1000)
	for text != "" {
		parts := termPattern.FindStringSubmatch(text)
		if parts == nil {
			t.Fatal("no term:", text)
		}
		x, _ := strconv.ParseInt(parts[1], 10, 64)
		e := int64(0)
		if parts[3] != "" {
			e, _ = strconv.ParseInt(parts[3], 10, 64)
		}
		if e <= last {
			t.Fatal("the exponents do not ascend:", text)
		}
		s.add(e, big.NewInt(x))
		text, last = text[len(parts[0]):], e
	}
	p, _ := s.form()
	return p
}

func TestLaurentTextsAreRead(t *testing.T) {
	seed := numbers(47)
	list := append(validLaurents(), smallLaurents()...)
	for range 1000 {
		list = append(list, seed.laurent(160, []int64{1, 30, impl.MaxEntry}[seed.next(0, 2)]))
	}
	for _, p := range list {
		text := impl.FormatLaurent(p)
		if len(p.Terms) > 0 && !sameLaurent(readLaurent(t, text), p) || len(p.Terms) == 0 && text != "0" {
			t.Fatal(p, text)
		}
	}
}

func guardedLaurent(t *testing.T, p impl.Laurent) (impl.Laurent, func()) {
	m, check := guarded(t, impl.Matrix{Entries: p.Terms})
	return laurentOf(p.Low, m.Entries...), check
}

// TestLaurentArgumentsAreKept overwrites all results, which share no memory with the arguments even
// where they are equal to them.
func TestLaurentArgumentsAreKept(t *testing.T) {
	others := []impl.Laurent{{}, laurentOf(0, 1), laurentOf(0, -1), laurentOf(-3, 1, 2)}
	for _, p := range append(validLaurents(), laurentOf(0, 0, 1), laurentOf(3, 1, 0)) {
		for _, q := range others {
			g, check := guardedLaurent(t, p)
			h, checkOther := guardedLaurent(t, q)
			sum, _ := impl.AddLaurent(g, h)
			product, _ := impl.MultiplyLaurent(g, h)
			mirrored, _ := impl.MultiplyLaurent(h, g)
			swapped, _ := impl.AddLaurent(h, g)
			shifted, _ := impl.ShiftLaurent(g, q.Low)
			for _, result := range []impl.Laurent{sum, product, mirrored, swapped, shifted, impl.InvertVariable(g), impl.UnitForm(g)} {
				overwrite(result.Terms)
			}
			impl.IsLaurent(g)
			impl.EvaluateSign(g, -1)
			impl.FormatLaurent(g)
			check()
			checkOther()
		}
	}
}

func TestLaurentResultsAreNew(t *testing.T) {
	first, _ := impl.MonomialOf(3, 2)
	first.Terms[0] = 9
	if second, _ := impl.MonomialOf(3, 2); !sameLaurent(second, laurentOf(2, 3)) {
		t.Fatal("two monomials share memory")
	}
}
