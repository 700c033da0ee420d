package tests

import (
	"slices"
	"testing"

	"loop.example/g00870/impl"
)

// The model has whole lists of images (tests/l05_model_test.go): permutationLists(4) has them in the
// order of their indices.

// badVertices are no numbers from 0 to 3; some of them would be if their upper bits were cut off.
var badVertices = []int64{minInt, minInt + 1, -1 << 32, -256, -255, -4, -2, -1, 4, 5, 7, 24, 255, 256, 257, 1 << 16, 1<<32 + 3, maxInt - 1, maxInt}

// badPerms are no indices of permutations; some of them would be if their upper bits were cut off.
var badPerms = []int64{minInt, minInt + 1, -1 << 32, -256, -255, -24, -23, -4, -2, -1, 24, 25, 31, 32, 33, 255, 256, 257, 1 << 16, 1<<32 + 7, maxInt - 1, maxInt}

func TestPerm4ByHand(t *testing.T) {
	rows := map[int64][]int64{
		0: {0, 1, 2, 3}, 1: {0, 1, 3, 2}, 2: {0, 2, 1, 3}, 5: {0, 3, 2, 1}, 6: {1, 0, 2, 3}, 7: {1, 0, 3, 2},
		9: {1, 2, 3, 0}, 12: {2, 0, 1, 3}, 16: {2, 3, 0, 1}, 18: {3, 0, 1, 2}, 22: {3, 2, 0, 1}, 23: {3, 2, 1, 0},
	}
	for p, images := range rows {
		if got := impl.Perm4(p); !slices.Equal(got, images) {
			t.Error(p, got, images)
		}
		if got := impl.IndexOfPerm4(images); got != p {
			t.Error(images, got, p)
		}
	}
}

// TestPerm4IsRecovered sees all permutations in lexicographic order, and each one recovered.
func TestPerm4IsRecovered(t *testing.T) {
	lists := permutationLists(4)
	if len(lists) != 24 {
		t.Fatal(lists)
	}
	for p, want := range lists {
		images := impl.Perm4(int64(p))
		if !slices.Equal(images, want) {
			t.Error(p, images, want)
		}
		if got := impl.IndexOfPerm4(images); got != int64(p) {
			t.Error(p, images, got)
		}
	}
}

// listsOf returns all lists of n numbers from low to high, in order.
func listsOf(n int, low int64, high int64) [][]int64 {
	lists := [][]int64{{}}
	for range n {
		var longer [][]int64
		for _, list := range lists {
			for x := low; x <= high; x++ {
				longer = append(longer, append(slices.Clone(list), x))
			}
		}
		lists = longer
	}
	return lists
}

func TestIndexOfAllLists(t *testing.T) {
	lists := permutationLists(4)
	found := 0
	for n := range 6 {
		for _, images := range listsOf(n, -1, 4) {
			want := slices.IndexFunc(lists, func(list []int64) bool { return slices.Equal(list, images) })
			if want >= 0 {
				found++
			}
			if got := impl.IndexOfPerm4(images); got != int64(want) {
				t.Error(images, got, want)
			}
		}
	}
	if found != 24 {
		t.Error(found)
	}
}

func TestIndexOfInvalidLists(t *testing.T) {
	check := func(images []int64) {
		t.Helper()
		if got := impl.IndexOfPerm4(images); got != -1 {
			t.Error(len(images), images[:min(len(images), 8)], got)
		}
	}
	for _, list := range badPermutations(4) {
		check(list)
	}
	check([]int64{})
	for _, list := range permutationLists(4) {
		check(list[:3])
		check(list[1:])
		check(slices.Concat(list, list))
		check(append(slices.Clone(list), repeated(0, 100000)...))
		for i := range list {
			for _, bad := range badVertices {
				changed := slices.Clone(list)
				changed[i] = bad
				check(changed)
			}
			for _, cut := range []int64{1 << 8, 1 << 16, 1 << 32, minInt, -1 << 8} {
				changed := slices.Clone(list)
				changed[i] += cut
				check(changed)
			}
			check(slices.Insert(slices.Clone(list), i, list[i]))
		}
	}
}

func TestApplyPerm4(t *testing.T) {
	for p, images := range permutationLists(4) {
		for k, want := range images {
			if got := impl.ApplyPerm4(int64(p), int64(k)); got != want {
				t.Error(p, k, got, want)
			}
		}
		for _, bad := range badVertices {
			if got := impl.ApplyPerm4(int64(p), bad); got != -1 {
				t.Error(p, bad, got)
			}
		}
	}
	if impl.ApplyPerm4(1, 2) != 3 || impl.ApplyPerm4(9, 3) != 0 {
		t.Error("the examples")
	}
}

// indexOfList returns the index of the permutation with these images in the model.
func indexOfList(t *testing.T, images []int64) int64 {
	t.Helper()
	p := slices.IndexFunc(permutationLists(4), func(list []int64) bool { return slices.Equal(list, images) })
	if p < 0 {
		t.Fatal("no permutation", images)
	}
	return int64(p)
}

func TestComposePerm4(t *testing.T) {
	lists := permutationLists(4)
	for p := range int64(24) {
		for q := range int64(24) {
			got := impl.ComposePerm4(p, q)
			if want := indexOfList(t, composedLists(lists[p], lists[q])); got != want {
				t.Fatal(p, q, got, want)
			}
			for k := range int64(4) {
				if impl.ApplyPerm4(got, k) != impl.ApplyPerm4(q, impl.ApplyPerm4(p, k)) {
					t.Error(p, q, k, got)
				}
			}
		}
	}
	// The first permutation is applied first, also where this matters.
	if impl.ComposePerm4(6, 1) != 7 || impl.ComposePerm4(1, 2) != 3 || impl.ComposePerm4(2, 1) != 4 {
		t.Error("the examples")
	}
}

// TestPerm4IsAGroup tests the laws of a group.
func TestPerm4IsAGroup(t *testing.T) {
	for p := range int64(24) {
		if impl.ComposePerm4(0, p) != p || impl.ComposePerm4(p, 0) != p {
			t.Error("0 is not neutral", p)
		}
		inverse := impl.InvertPerm4(p)
		if impl.ComposePerm4(p, inverse) != 0 || impl.ComposePerm4(inverse, p) != 0 {
			t.Error("no inverse", p, inverse)
		}
		for q := range int64(24) {
			pq := impl.ComposePerm4(p, q)
			if pq < 0 || pq > 23 {
				t.Fatal("not closed", p, q, pq)
			}
			for r := range int64(24) {
				if impl.ComposePerm4(pq, r) != impl.ComposePerm4(p, impl.ComposePerm4(q, r)) {
					t.Fatal("not associative", p, q, r)
				}
			}
		}
	}
}

func TestInvertPerm4(t *testing.T) {
	for p, images := range permutationLists(4) {
		got := impl.InvertPerm4(int64(p))
		if want := indexOfList(t, inverseList(images)); got != want {
			t.Error(p, got, want)
		}
		if impl.InvertPerm4(got) != int64(p) {
			t.Error(p, got)
		}
	}
	if impl.InvertPerm4(0) != 0 || impl.InvertPerm4(9) != 18 || impl.InvertPerm4(18) != 9 || impl.InvertPerm4(3) != 4 {
		t.Error("the examples")
	}
}

// signOfList sorts the images by exchanging neighbours: each exchange changes the sign.
func signOfList(images []int64) int64 {
	list, sign := slices.Clone(images), int64(1)
	for !slices.IsSorted(list) {
		for i := range 3 {
			if list[i] > list[i+1] {
				list[i], list[i+1] = list[i+1], list[i]
				sign = -sign
			}
		}
	}
	return sign
}

func TestSignPerm4(t *testing.T) {
	even := 0
	for p, images := range permutationLists(4) {
		sign := impl.SignPerm4(int64(p))
		if want := signOfList(images); sign != want {
			t.Error(p, sign, want)
		}
		if sign == 1 {
			even++
		}
		for q := range int64(24) {
			if impl.SignPerm4(impl.ComposePerm4(int64(p), q)) != sign*impl.SignPerm4(q) {
				t.Error("signs do not multiply", p, q)
			}
		}
		if impl.SignPerm4(impl.InvertPerm4(int64(p))) != sign {
			t.Error(p, sign)
		}
	}
	if even != 12 {
		t.Error(even)
	}
	for p, want := range map[int64]int64{0: 1, 1: -1, 3: 1, 5: -1, 6: -1, 7: 1, 9: -1, 16: 1, 18: -1, 23: 1} {
		if got := impl.SignPerm4(p); got != want {
			t.Error(p, got, want)
		}
	}
}

// orderOf applies a permutation to the numbers until all of them have come back for the first time.
func orderOf(p int64) int64 {
	numbers := identityList(4)
	for order := int64(1); order <= 24; order++ {
		for i, k := range numbers {
			numbers[i] = impl.ApplyPerm4(p, k)
		}
		if slices.Equal(numbers, identityList(4)) {
			return order
		}
	}
	return -1
}

func TestOrderPerm4(t *testing.T) {
	counts := map[int64]int{}
	for p := range int64(24) {
		order := impl.OrderPerm4(p)
		counts[order]++
		if want := orderOf(p); order != want {
			t.Error(p, order, want)
		}
		power := int64(0)
		for range order {
			power = impl.ComposePerm4(power, p)
		}
		if power != 0 || impl.OrderPerm4(impl.InvertPerm4(p)) != order {
			t.Error(p, order, power)
		}
	}
	if len(counts) != 4 || counts[1] != 1 || counts[2] != 9 || counts[3] != 8 || counts[4] != 6 {
		t.Error(counts)
	}
	for p, want := range map[int64]int64{0: 1, 1: 2, 3: 3, 7: 2, 9: 4, 16: 2, 18: 4, 23: 2} {
		if got := impl.OrderPerm4(p); got != want {
			t.Error(p, got, want)
		}
	}
}

func TestPerm4Invalid(t *testing.T) {
	for _, bad := range badPerms {
		if len(impl.Perm4(bad)) != 0 || impl.InvertPerm4(bad) != -1 || impl.SignPerm4(bad) != 0 || impl.OrderPerm4(bad) != -1 {
			t.Error(bad, impl.Perm4(bad), impl.InvertPerm4(bad), impl.SignPerm4(bad), impl.OrderPerm4(bad))
		}
		for q := range int64(24) {
			if impl.ComposePerm4(bad, q) != -1 || impl.ComposePerm4(q, bad) != -1 {
				t.Error(bad, q)
			}
		}
		for _, worse := range badPerms {
			if impl.ComposePerm4(bad, worse) != -1 {
				t.Error(bad, worse)
			}
		}
		for _, k := range append(badVertices, 0, 1, 2, 3) {
			if impl.ApplyPerm4(bad, k) != -1 {
				t.Error(bad, k)
			}
		}
	}
}

// TestPerm4ResultsAreNew overwrites all images: the permutations stay as they are.
func TestPerm4ResultsAreNew(t *testing.T) {
	for range 2 {
		for p := range int64(24) {
			overwrite(impl.Perm4(p))
		}
		TestPerm4IsRecovered(t)
		TestApplyPerm4(t)
		TestComposePerm4(t)
	}
}

func TestIndexOfPerm4KeepsItsArgument(t *testing.T) {
	for _, list := range append(permutationLists(4), nil, []int64{0, 1, 2}, []int64{0, 1, 2, 2}, []int64{3, 2, 1, 0, 4}) {
		m, check := guarded(t, impl.Matrix{Entries: list})
		first := impl.IndexOfPerm4(m.Entries)
		check()
		if impl.IndexOfPerm4(m.Entries) != first {
			t.Error(list)
		}
	}
}
