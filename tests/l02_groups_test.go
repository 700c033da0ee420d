package tests

import (
	"slices"
	"testing"

	"loop.example/g00870/impl"
)

func groupOf(rank int64, torsion ...int64) impl.AbelianGroup {
	return impl.AbelianGroup{Rank: rank, Torsion: torsion}
}

func sameGroup(a impl.AbelianGroup, b impl.AbelianGroup) bool {
	return a.Rank == b.Rank && slices.Equal(a.Torsion, b.Torsion)
}

func isZeroGroup(g impl.AbelianGroup) bool {
	return sameGroup(g, impl.AbelianGroup{})
}

func validGroups() []impl.AbelianGroup {
	return []impl.AbelianGroup{
		{}, groupOf(1), groupOf(2), groupOf(48), groupOf(0, 2), groupOf(0, impl.MaxEntry), groupOf(3, 2, 4), groupOf(48, 2, 2, 4),
		groupOf(1, 5, 5, 35), groupOf(0, 2, impl.MaxEntry, impl.MaxEntry), groupOf(0, repeated(2, 48)...), groupOf(48, repeated(impl.MaxEntry, 48)...),
	}
}

func invalidGroups() []impl.AbelianGroup {
	return []impl.AbelianGroup{
		groupOf(-1), groupOf(49), groupOf(minInt), groupOf(maxInt), groupOf(-1, 2), groupOf(49, 2),
		groupOf(0, 0), groupOf(0, 1), groupOf(0, -1), groupOf(0, -2), groupOf(0, minInt), groupOf(0, maxInt), groupOf(0, impl.MaxEntry+1),
		groupOf(0, 2, 3), groupOf(0, 4, 2), groupOf(0, 2, 4, 6), groupOf(0, 2, 0), groupOf(0, 0, 2), groupOf(0, 0, 0), groupOf(0, 1, 2), groupOf(0, 2, 1),
		groupOf(0, 2, -4), groupOf(0, -2, 4), groupOf(0, -2, -4), groupOf(0, 2, minInt), groupOf(0, minInt, minInt), groupOf(0, maxInt, maxInt),
		groupOf(0, impl.MaxEntry, 2*impl.MaxEntry), groupOf(0, repeated(2, 49)...), groupOf(48, repeated(2, 49)...), groupOf(1, repeated(1, 48)...),
	}
}

func TestIsAbelianGroup(t *testing.T) {
	for _, g := range validGroups() {
		if !impl.IsAbelianGroup(g) {
			t.Error("not accepted:", g)
		}
	}
	for _, g := range invalidGroups() {
		if impl.IsAbelianGroup(g) {
			t.Error("accepted:", g)
		}
	}
}

func TestFormatGroup(t *testing.T) {
	rows := []struct {
		g    impl.AbelianGroup
		want string
	}{
		{groupOf(0), "0"},
		{groupOf(1), "Z"},
		{groupOf(2), "Z^2"},
		{groupOf(48), "Z^48"},
		{groupOf(0, 2), "Z_2"},
		{groupOf(1, 2), "Z + Z_2"},
		{groupOf(2, 2, 4), "Z^2 + Z_2 + Z_4"},
		{groupOf(0, 3, 3, 12), "Z_3 + Z_3 + Z_12"},
		{groupOf(10, impl.MaxEntry), "Z^10 + Z_1000000000000"},
	}
	for _, row := range rows {
		if s := impl.FormatGroup(row.g); s != row.want {
			t.Errorf("%v: %q", row.g, s)
		}
	}
	for _, g := range invalidGroups() {
		if s := impl.FormatGroup(g); s != "" {
			t.Errorf("%v: %q", g, s)
		}
	}
}

func TestCokernelOf(t *testing.T) {
	rows := []struct {
		m    impl.Matrix
		want impl.AbelianGroup
	}{
		{squareOf(2, 0, 3, 2, 0), groupOf(0, 6)},
		{matrixOf(3, 1, 2, 0, 4), groupOf(2, 2)},
		{matrixOf(1, 3, 2, 0, 4), groupOf(0, 2)},
		{squareOf(2, 1, 2, 2, 4), groupOf(1)},
		{diagonalOf(1, 1, 1), groupOf(0)},
		{diagonalOf(4, 0, 6), groupOf(1, 2, 12)},
		{impl.Matrix{}, groupOf(0)},
		{matrixOf(0, 48), groupOf(0)},
		{matrixOf(48, 0), groupOf(48)},
		{matrixOf(3, 0), groupOf(3)},
		{matrixOf(2, 3, 0, 0, 0, 0, 0, 0), groupOf(2)},
		{diagonalOf(repeated(-3, 48)...), groupOf(0, repeated(3, 48)...)},
		{matrixOf(1, 1, -impl.MaxEntry), groupOf(0, impl.MaxEntry)},
	}
	for _, row := range rows {
		if g, code := impl.CokernelOf(row.m); code != impl.ErrNone || !sameGroup(g, row.want) {
			t.Error(row, g, code)
		}
	}
}

func TestHomologyEdges(t *testing.T) {
	const most = impl.MaxEntry
	exceeded := squareOf(2, 1, most, most, 0)
	rows := []struct {
		in, out impl.Matrix
		want    impl.AbelianGroup
		code    int64
	}{
		{matrixOf(1, 1, 2), matrixOf(1, 1, 0), groupOf(0, 2), impl.ErrNone},
		{matrixOf(2, 1, 1, -1), matrixOf(1, 2, 1, 1), groupOf(0), impl.ErrNone},
		{matrixOf(2, 1, 3, -3), matrixOf(1, 2, 1, 1), groupOf(0, 3), impl.ErrNone},
		{matrixOf(2, 1, 3, -3), matrixOf(1, 2, 5, 5), groupOf(0, 3), impl.ErrNone},
		{matrixOf(3, 1, 2, -2, 0), matrixOf(1, 3, 1, 1, 0), groupOf(1, 2), impl.ErrNone},
		{matrixOf(3, 0), matrixOf(0, 3), groupOf(3), impl.ErrNone},
		{matrixOf(3, 0), matrixOf(2, 3, 1, 0, 0, 0, 2, 0), groupOf(1), impl.ErrNone},
		{matrixOf(2, 2, 2, 0, 0, 0), matrixOf(0, 2), groupOf(1, 2), impl.ErrNone},
		{matrixOf(0, 2), matrixOf(2, 0), groupOf(0), impl.ErrNone},
		{impl.Matrix{}, impl.Matrix{}, groupOf(0), impl.ErrNone},
		{matrixOf(48, 0), matrixOf(0, 48), groupOf(48), impl.ErrNone},
		{diagonalOf(repeated(most, 48)...), matrixOf(0, 48), groupOf(0, repeated(most, 48)...), impl.ErrNone},

		{matrixOf(1, 1, 2), matrixOf(1, 2, 1, 1), groupOf(0), impl.ErrRange},
		{matrixOf(2, 0), matrixOf(0, 3), groupOf(0), impl.ErrRange},
		{matrixOf(1, 0), matrixOf(1, 0), groupOf(0), impl.ErrRange},
		// The columns of in and the rows of out do not matter.
		{matrixOf(2, 3, 1, 1, 1, 1, 1, 1), matrixOf(3, 2, 1, 1, 1, 1, 1, 1), groupOf(0), impl.ErrState},
		// ErrRange before ErrLimit and ErrState.
		{exceeded, matrixOf(1, 3, most, most, most), groupOf(0), impl.ErrRange},

		{matrixOf(1, 1, 2), matrixOf(1, 1, 1), groupOf(0), impl.ErrState},
		{matrixOf(2, 1, 1, 1), matrixOf(1, 2, 1, 1), groupOf(0), impl.ErrState},
		{matrixOf(1, 1, most), matrixOf(1, 1, 1), groupOf(0), impl.ErrState},
		// The product is found, or not, before it is looked at.
		{matrixOf(1, 1, most), matrixOf(1, 1, 2), groupOf(0), impl.ErrLimit},
		{matrixOf(1, 1, 1<<32), matrixOf(1, 1, 1<<32), groupOf(0), impl.ErrLimit},
		{matrixOf(2, 1, 1, -1), matrixOf(1, 2, most, most), groupOf(0), impl.ErrLimit},
		{matrixOf(2, 1, 1, -1), matrixOf(1, 2, most/2, most/2), groupOf(0), impl.ErrNone},
		{matrixOf(2, 1, 1, -1), matrixOf(1, 2, most/2+1, most/2+1), groupOf(0), impl.ErrLimit},
		// The product is looked at before the reductions.
		{exceeded, matrixOf(1, 2, 1, 0), groupOf(0), impl.ErrState},
		{matrixOf(2, 1, 1, 0), exceeded, groupOf(0), impl.ErrState},
		{exceeded, matrixOf(1, 2, 0, 0), groupOf(0), impl.ErrLimit},
		{exceeded, matrixOf(0, 2), groupOf(0), impl.ErrLimit},
		{matrixOf(2, 1, 0, 0), exceeded, groupOf(0), impl.ErrLimit},
		{matrixOf(2, 0), exceeded, groupOf(0), impl.ErrLimit},
	}
	for _, row := range rows {
		if g, code := impl.HomologyOf(row.in, row.out); code != row.code || !sameGroup(g, row.want) {
			t.Error(row, g, code)
		}
	}
}

func TestHomologyInvalid(t *testing.T) {
	for _, bad := range invalidMatrices() {
		for _, m := range append(validMatrices(), bad) {
			if g, code := impl.HomologyOf(bad, m); code != impl.ErrInvalid || !isZeroGroup(g) {
				t.Error(bad, m, g, code)
			}
			if g, code := impl.HomologyOf(m, bad); code != impl.ErrInvalid || !isZeroGroup(g) {
				t.Error(m, bad, g, code)
			}
		}
	}
}

// TestHomologyOfKnownComplexes builds two matrices whose product is zero from a group that is
// chosen first: in has the orders of the cyclic groups on its diagonal, in the first places of the
// vectors, and out is not zero in the last ones; then the basis is changed.
func TestHomologyOfKnownComplexes(t *testing.T) {
	seed := numbers(31)
	for range 2000 {
		orders := [][]int64{nil, {1}, {2}, {1, 3}, {2, 4}, {1, 1, 6}, {2, 6, 12}, {5, 5}}[seed.next(0, 7)]
		free, gone := seed.next(0, 2), seed.next(0, 2)
		n := int64(len(orders)) + free + gone
		in, out := matrixOf(n, int64(len(orders))+1), matrixOf(gone+1, n)
		in.Entries, out.Entries = repeated(0, int(in.Rows*in.Columns)), repeated(0, int(out.Rows*out.Columns))
		for i, x := range orders {
			in.Entries[int64(i)*(in.Columns+1)] = x
		}
		for i := range gone {
			out.Entries[(i+1)*n-1-i] = seed.next(1, 3)
		}
		if n > 0 {
			base, inverse := seed.unimodular(n)
			in, out = product(t, base, in), product(t, out, inverse)
		}
		columns, _ := seed.unimodular(in.Columns)
		in = product(t, in, columns)
		want := groupOf(free)
		for _, x := range orders {
			if x > 1 {
				want.Torsion = append(want.Torsion, x)
			}
		}
		if g, code := impl.HomologyOf(in, out); code != impl.ErrNone || !sameGroup(g, want) {
			t.Fatal(in, out, g, code, want)
		}
	}
}

// surfaceOf returns the boundary matrices of a surface: from its triangles to its edges, and from
// its edges to its vertices.
func surfaceOf(triangles [][3]int64) (impl.Matrix, impl.Matrix) {
	edges, vertices := map[[2]int64]int64{}, int64(0)
	for _, f := range triangles {
		for _, e := range [][2]int64{{f[1], f[2]}, {f[0], f[2]}, {f[0], f[1]}} {
			if _, ok := edges[e]; !ok {
				edges[e] = int64(len(edges))
			}
			vertices = max(vertices, e[1]+1)
		}
	}
	n, k := int64(len(edges)), int64(len(triangles))
	two, one := matrixOf(n, k, repeated(0, int(n*k))...), matrixOf(vertices, n, repeated(0, int(vertices*n))...)
	for j, f := range triangles {
		two.Entries[edges[[2]int64{f[1], f[2]}]*k+int64(j)] = 1
		two.Entries[edges[[2]int64{f[0], f[2]}]*k+int64(j)] = -1
		two.Entries[edges[[2]int64{f[0], f[1]}]*k+int64(j)] = 1
	}
	for e, j := range edges {
		one.Entries[e[1]*n+j] = 1
		one.Entries[e[0]*n+j] = -1
	}
	return two, one
}

// TestHomologyOfSurfaces: the ranks add up, with signs, to the Euler characteristic.
func TestHomologyOfSurfaces(t *testing.T) {
	var torus [][3]int64
	for i := range int64(7) {
		for _, f := range [][]int64{{i, (i + 1) % 7, (i + 3) % 7}, {i, (i + 2) % 7, (i + 3) % 7}} {
			slices.Sort(f)
			torus = append(torus, [3]int64(f))
		}
	}
	rows := []struct {
		triangles [][3]int64
		want      [3]impl.AbelianGroup
	}{
		{[][3]int64{{0, 1, 2}}, [3]impl.AbelianGroup{groupOf(1), groupOf(0), groupOf(0)}},
		{[][3]int64{{0, 1, 2}, {0, 1, 3}, {0, 2, 3}, {1, 2, 3}}, [3]impl.AbelianGroup{groupOf(1), groupOf(0), groupOf(1)}},
		{torus, [3]impl.AbelianGroup{groupOf(1), groupOf(2), groupOf(1)}},
		{[][3]int64{{0, 1, 2}, {0, 2, 3}, {0, 3, 4}, {0, 4, 5}, {0, 1, 5}, {1, 2, 4}, {2, 3, 5}, {1, 3, 4}, {2, 4, 5}, {1, 3, 5}}, [3]impl.AbelianGroup{groupOf(1), groupOf(0, 2), groupOf(0)}},
	}
	for _, row := range rows {
		two, one := surfaceOf(row.triangles)
		none, all := matrixOf(0, one.Rows), matrixOf(two.Columns, 0)
		sum := int64(0)
		for d, pair := range [][2]impl.Matrix{{one, none}, {two, one}, {all, two}} {
			g, code := impl.HomologyOf(pair[0], pair[1])
			if code != impl.ErrNone || !sameGroup(g, row.want[d]) {
				t.Error(row.triangles, d, g, code)
			}
			sum += []int64{1, -1, 1}[d] * g.Rank
		}
		if sum != one.Rows-two.Rows+two.Columns {
			t.Error(row.triangles, sum)
		}
	}
}

// TestRanksAddUp: the alternating sum of the ranks of homology is that of the numbers of cells, for
// complexes of any matrices; and a rank and that of the cokernel add up to the number of rows.
func TestRanksAddUp(t *testing.T) {
	seed := numbers(32)
	for range 1000 {
		half := seed.matrixOfRank(seed.next(0, 3), seed.next(1, 4), 2)
		one := joined(half, scaled(half, 2))
		two := stacked(scaledIdentity(half.Columns, 2), scaledIdentity(half.Columns, -1))
		h0, code0 := impl.HomologyOf(one, matrixOf(0, one.Rows))
		h1, code1 := impl.HomologyOf(two, one)
		h2, code2 := impl.HomologyOf(matrixOf(two.Columns, 0), two)
		if code0 != impl.ErrNone || code1 != impl.ErrNone || code2 != impl.ErrNone {
			t.Fatal(one, two, code0, code1, code2)
		}
		if h0.Rank-h1.Rank+h2.Rank != one.Rows-two.Rows+two.Columns {
			t.Fatal(one, two, h0, h1, h2)
		}
		rank, code := impl.MatrixRank(one)
		cokernel, codeC := impl.CokernelOf(one)
		if code != impl.ErrNone || codeC != impl.ErrNone || rank+cokernel.Rank != one.Rows || !sameGroup(cokernel, h0) {
			t.Fatal(one, rank, cokernel, h0)
		}
	}
}

func scaledIdentity(n int64, c int64) impl.Matrix {
	return diagonalOf(repeated(c, int(n))...)
}

// joined returns the columns of a followed by those of b; stacked, the rows.
func joined(a impl.Matrix, b impl.Matrix) impl.Matrix {
	return impl.Transpose(stacked(impl.Transpose(a), impl.Transpose(b)))
}

func stacked(a impl.Matrix, b impl.Matrix) impl.Matrix {
	return matrixOf(a.Rows+b.Rows, a.Columns, slices.Concat(a.Entries, b.Entries)...)
}

// group returns a group whose torsion numbers are products of a few small primes.
func (s *numbers) group() impl.AbelianGroup {
	g, x := groupOf(s.next(0, 5)), int64(1)
	for range s.next(0, 4) {
		x *= []int64{1, 2, 2, 3, 5}[s.next(0, 4)]
		if x > 1 {
			g.Torsion = append(g.Torsion, x)
		}
	}
	return g
}

// primaryParts returns the highest powers of primes in the torsion numbers of groups, sorted: they
// determine the direct sum of the torsions.
func primaryParts(groups ...impl.AbelianGroup) []int64 {
	var parts []int64
	for _, g := range groups {
		for _, x := range g.Torsion {
			for p := int64(2); x > 1; p++ {
				power := int64(1)
				for x%p == 0 {
					x, power = x/p, power*p
				}
				if power > 1 {
					parts = append(parts, power)
				}
			}
		}
	}
	slices.Sort(parts)
	return parts
}

func TestDirectSumsOrdinary(t *testing.T) {
	seed := numbers(33)
	for range 3000 {
		a, b, c := seed.group(), seed.group(), seed.group()
		x, code := impl.DirectSum(a, b)
		y, codeY := impl.DirectSum(b, a)
		if code != impl.ErrNone || codeY != impl.ErrNone || !sameGroup(x, y) {
			t.Fatal(a, b, x, code, y, codeY)
		}
		if !impl.IsAbelianGroup(x) || x.Rank != a.Rank+b.Rank || !slices.Equal(primaryParts(x), primaryParts(a, b)) {
			t.Fatal(a, b, x)
		}
		left, codeL := impl.DirectSum(x, c)
		bc, _ := impl.DirectSum(b, c)
		right, codeR := impl.DirectSum(a, bc)
		if codeL != impl.ErrNone || codeR != impl.ErrNone || !sameGroup(left, right) {
			t.Fatal(a, b, c, left, codeL, right, codeR)
		}
		if z, code := impl.DirectSum(a, impl.AbelianGroup{}); code != impl.ErrNone || !sameGroup(z, a) {
			t.Fatal(a, z, code)
		}
	}
}

func TestDirectSumEdges(t *testing.T) {
	const most = impl.MaxEntry
	rows := []struct {
		a, b, want impl.AbelianGroup
		code       int64
	}{
		{groupOf(0, 2), groupOf(0, 3), groupOf(0, 6), impl.ErrNone},
		{groupOf(0, 2), groupOf(0, 2), groupOf(0, 2, 2), impl.ErrNone},
		{groupOf(1, 4, 12), groupOf(2, 6), groupOf(3, 2, 12, 12), impl.ErrNone},
		{groupOf(0), groupOf(0), groupOf(0), impl.ErrNone},
		{groupOf(0), groupOf(48), groupOf(48), impl.ErrNone},
		{groupOf(24), groupOf(24), groupOf(48), impl.ErrNone},
		{groupOf(47), groupOf(1), groupOf(48), impl.ErrNone},
		{groupOf(48), groupOf(1), groupOf(0), impl.ErrLimit},
		{groupOf(25), groupOf(24), groupOf(0), impl.ErrLimit},
		{groupOf(48), groupOf(48), groupOf(0), impl.ErrLimit},
		{groupOf(0, repeated(2, 24)...), groupOf(0, repeated(2, 24)...), groupOf(0, repeated(2, 48)...), impl.ErrNone},
		{groupOf(0, repeated(2, 24)...), groupOf(0, repeated(3, 24)...), groupOf(0, repeated(6, 24)...), impl.ErrNone},
		{groupOf(0, repeated(2, 48)...), groupOf(48), groupOf(48, repeated(2, 48)...), impl.ErrNone},
		{groupOf(0, repeated(2, 48)...), groupOf(0, 2), groupOf(0), impl.ErrLimit},
		{groupOf(0, repeated(2, 24)...), groupOf(0, repeated(2, 25)...), groupOf(0), impl.ErrLimit},
		// The parts would be few, but the torsion numbers of a and b are 49.
		{groupOf(0, repeated(2, 25)...), groupOf(0, repeated(3, 24)...), groupOf(0), impl.ErrLimit},
		{groupOf(0, most), groupOf(0, most), groupOf(0, most, most), impl.ErrNone},
		{groupOf(0, most), groupOf(0, 10), groupOf(0, 10, most), impl.ErrNone},
		{groupOf(0, 10), groupOf(0, most), groupOf(0, 10, most), impl.ErrNone},
		{groupOf(0, most), groupOf(0, 3), groupOf(0), impl.ErrLimit},
		{groupOf(0, most), groupOf(0, most-1), groupOf(0), impl.ErrLimit},
		{groupOf(0, 999999), groupOf(0, 1000000), groupOf(0, 999999000000), impl.ErrNone},
		{groupOf(0, 1000000), groupOf(0, 999999), groupOf(0, 999999000000), impl.ErrNone},
		{groupOf(0, 1000000), groupOf(0, 1000001), groupOf(0), impl.ErrLimit},
		// Only with the torsion numbers of a before those of b the entries stay within the limit.
		{groupOf(0, 698, 184272), groupOf(0, 665, 1995), groupOf(0, 1392510, 122540880), impl.ErrNone},
		{groupOf(0, 665, 1995), groupOf(0, 698, 184272), groupOf(0), impl.ErrLimit},
		{groupOf(0, 1220), groupOf(0, 3, 7899, 23697), groupOf(0, 3, 7899, 28910340), impl.ErrNone},
		{groupOf(0, 3, 7899, 23697), groupOf(0, 1220), groupOf(0), impl.ErrLimit},
	}
	for _, row := range rows {
		if g, code := impl.DirectSum(row.a, row.b); code != row.code || !sameGroup(g, row.want) {
			t.Error(row, g, code)
		}
	}
}

// TestDirectSumIsThatOfTheDiagonal: the order of the torsion numbers, and so the limit, is that of
// the reduction of the diagonal matrix with the numbers of a before those of b.
func TestDirectSumIsThatOfTheDiagonal(t *testing.T) {
	seed, limits, sums := numbers(34), 0, 0
	for range 2000 {
		top := []int64{100, 30000, 2000000, impl.MaxEntry}[seed.next(0, 3)]
		a, b := groupOf(0, seed.next(2, top)), groupOf(1, seed.next(2, top))
		w := walkOf(diagonalOf(a.Torsion[0], b.Torsion[0]))
		g, code := impl.DirectSum(a, b)
		if w.exceedsAnywhere() {
			limits++
			if code != impl.ErrLimit || !isZeroGroup(g) {
				t.Fatal(a, b, g, code)
			}
			continue
		}
		sums++
		x := gcd(a.Torsion[0], b.Torsion[0])
		want := groupOf(1, x, a.Torsion[0]/x*b.Torsion[0])
		if x == 1 {
			want.Torsion = want.Torsion[1:]
		}
		if code != impl.ErrNone || !sameGroup(g, want) {
			t.Fatal(a, b, g, code, want)
		}
	}
	if limits < 200 || sums < 200 {
		t.Fatal("the cases are one-sided:", limits, sums)
	}
}

func TestDirectSumInvalid(t *testing.T) {
	for _, bad := range invalidGroups() {
		for _, g := range append(validGroups(), bad) {
			if x, code := impl.DirectSum(bad, g); code != impl.ErrInvalid || !isZeroGroup(x) {
				t.Error(bad, g, x, code)
			}
			if x, code := impl.DirectSum(g, bad); code != impl.ErrInvalid || !isZeroGroup(x) {
				t.Error(g, bad, x, code)
			}
		}
	}
}

func TestGroupArgumentsAreKept(t *testing.T) {
	torsion := append([]int64{2, 4}, repeated(spareMark, 8)...)
	before := slices.Clone(torsion)
	g := groupOf(1, torsion[:2]...)
	for _, other := range []impl.AbelianGroup{{}, groupOf(0, 3), g} {
		x, _ := impl.DirectSum(g, other)
		y, _ := impl.DirectSum(other, g)
		overwrite(x.Torsion)
		overwrite(y.Torsion)
	}
	impl.IsAbelianGroup(g)
	impl.FormatGroup(g)
	if !slices.Equal(torsion, before) {
		t.Fatal("a torsion list or the room behind it was changed", torsion)
	}
	in, checkIn := guarded(t, matrixOf(2, 1, 3, -3))
	out, checkOut := guarded(t, matrixOf(1, 2, 1, 1))
	h, _ := impl.HomologyOf(in, out)
	overwrite(h.Torsion)
	checkIn()
	checkOut()
}
