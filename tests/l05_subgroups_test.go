package tests

import (
	"slices"
	"strings"
	"testing"

	"loop.example/g00870/impl"
)

// checkRecursion holds the numbers of all representations, of the transitive ones and of the
// subgroups against each other, for the degrees up to the largest one that is searched. The orbit of
// 0 has k elements, of which k - 1 are chosen, a transitive action, and the rest has any other one.
// It returns the numbers of subgroups of index 1, 2, ...
func checkRecursion(t *testing.T, p impl.Presentation) []int64 {
	t.Helper()
	all, transitive, subgroups := []int64{1}, []int64{0}, []int64{}
	for n := int64(1); n <= 4 && p.Generators <= mostGenerators[n]; n++ {
		h, _ := impl.RepresentationCount(p, n)
		m, _ := impl.TransitiveCount(p, n)
		s, code := impl.SubgroupCount(p, n)
		if code != impl.ErrNone || s*factorialOf(n-1) != m {
			t.Fatal(p, n, h, m, s, code)
		}
		all, transitive, subgroups = append(all, h), append(transitive, m), append(subgroups, s)
		sum := int64(0)
		for k := int64(1); k <= n; k++ {
			choices := factorialOf(n-1) / factorialOf(k-1) / factorialOf(n-k)
			sum += choices * transitive[k] * all[n-k]
		}
		if sum != h {
			t.Fatal(p, n, all, transitive, subgroups)
		}
	}
	return subgroups
}

func TestRecursion(t *testing.T) {
	seed, lengths := numbers(111), map[int]int{}
	for _, p := range validPresentations() {
		checkRecursion(t, p)
	}
	for range 400 {
		generators := []int64{0, 1, 2, 2, 3, 3, 4, 5, 6, 17}[seed.next(0, 9)]
		p := seed.presentation(generators, seed.next(0, 4), []int64{4, 12, 40}[seed.next(0, 2)])
		lengths[len(checkRecursion(t, p))]++
	}
	for range 60 {
		lengths[len(checkRecursion(t, seed.presentation(seed.next(7, 24), seed.next(0, 40), 20)))]++
	}
	if min(lengths[1], lengths[2], lengths[3], lengths[4]) < 5 {
		t.Fatal("the cases are one-sided:", lengths)
	}
}

// commuting is the free abelian group with these generators.
func commuting(generators int64) impl.Presentation {
	p := withRelators(generators)
	for i := int64(1); i <= generators; i++ {
		for j := int64(1); j < i; j++ {
			p.Relators = append(p.Relators, []int64{i, j, -i, -j})
		}
	}
	return p
}

func TestSubgroupsKnown(t *testing.T) {
	rows := []struct {
		p    impl.Presentation
		want []int64
	}{
		{impl.Presentation{}, []int64{1, 0, 0, 0}},
		{withRelators(1), []int64{1, 1, 1, 1}},
		{withRelators(2), []int64{1, 3, 13, 71}},
		{withRelators(3), []int64{1, 7, 97, 2143}},
		{commuting(2), []int64{1, 3, 4, 7}},
		{commuting(3), []int64{1, 7, 13, 35}},
		{presentationOf(2, "aa", "bb", "abAB"), []int64{1, 3, 0, 1}},
		// The symmetric groups of three and of four numbers, the symmetries of a square, the
		// quaternions, the rotations of a tetrahedron and of an icosahedron, the dodecahedron's space.
		{presentationOf(2, "aa", "bb", "ababab"), []int64{1, 1, 3, 0}},
		{presentationOf(2, "aa", "bbb", "abababab"), []int64{1, 1, 3, 4}},
		{presentationOf(2, "aaaa", "bb", "abab"), []int64{1, 3, 0, 5}},
		{presentationOf(2, "abaB", "babA"), []int64{1, 3, 0, 1}},
		{presentationOf(2, "aa", "bbb", "ababab"), []int64{1, 0, 1, 4}},
		{presentationOf(2, "aa", "bbb", "ababababab"), []int64{1, 0, 0, 0}},
		{presentationOf(2, "aaaBABA", "bbbbABA"), []int64{1, 0, 0, 0}},
		// The free products of cyclic groups of the orders 2 and 2, and 2 and 3.
		{presentationOf(2, "aa", "bb"), []int64{1, 3, 3, 5}},
		{presentationOf(2, "aa", "bbb"), []int64{1, 1, 4, 8}},
		// The trefoil knot, Klein's bottle, surfaces with two handles and with three crosscaps.
		{presentationOf(2, "abaBAB"), []int64{1, 1, 4}},
		{presentationOf(2, "abaB"), []int64{1, 3, 4, 7}},
		{presentationOf(4, "abABcdCD"), []int64{1, 15, 220}},
		{presentationOf(3, "aabbcc"), []int64{1, 7, 34, 227}},
	}
	for _, row := range rows {
		if got := checkRecursion(t, row.p); !slices.Equal(got[:len(row.want)], row.want) {
			t.Error(row, got)
		}
	}
}

// TestSubgroupsOfFreeGroups uses the recursion that only free groups satisfy.
func TestSubgroupsOfFreeGroups(t *testing.T) {
	power := func(x int64, e int64) int64 {
		product := int64(1)
		for range e {
			product *= x
		}
		return product
	}
	for rank := int64(1); rank <= 17; rank++ {
		var want []int64
		for n := int64(1); n <= 4 && rank <= mostGenerators[n]; n++ {
			s := n * power(factorialOf(n), rank-1)
			for k := int64(1); k < n; k++ {
				s -= power(factorialOf(n-k), rank-1) * want[k-1]
			}
			want = append(want, s)
		}
		if got := checkRecursion(t, withRelators(rank)); !slices.Equal(got, want) {
			t.Error(rank, got, want)
		}
	}
}

// TestSubgroupsOfCyclicGroups: there is one subgroup of each index that divides the order.
func TestSubgroupsOfCyclicGroups(t *testing.T) {
	for order := int64(1); order <= 120; order++ {
		p := presentationOf(1, strings.Repeat("a", int(order)))
		for n := int64(1); n <= 4; n++ {
			want := int64(0)
			if order%n == 0 {
				want = 1
			}
			if got, code := impl.SubgroupCount(p, n); code != impl.ErrNone || got != want {
				t.Fatal(order, n, got, code)
			}
		}
	}
}

// TestSubgroupsOfFreeAbelianGroups: a subgroup has a basis of triangular form, and the numbers of
// the forms with d in the first place follow from those with one generator less.
func TestSubgroupsOfFreeAbelianGroups(t *testing.T) {
	want := map[int64]int64{1: 1}
	for rank := int64(1); rank <= 6; rank++ {
		next := map[int64]int64{}
		for n := int64(1); n <= 4; n++ {
			for d := int64(1); d <= n; d++ {
				if n%d == 0 {
					next[n] += d * want[d]
				}
			}
		}
		want = next
		for i, got := range checkRecursion(t, commuting(rank)) {
			if got != want[int64(i)+1] {
				t.Error(rank, i+1, got, want)
			}
		}
	}
}
