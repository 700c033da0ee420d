package tests

import (
	"slices"
	"testing"

	"loop.example/g00870/impl"
)

// checkAt compares one representation, and sees that it is one.
func checkAt(t *testing.T, p impl.Presentation, n int64, k int64, want [][]int64) {
	t.Helper()
	got, code := impl.RepresentationAt(p, n, k)
	if code != impl.ErrNone || !sameLists(got, want) || !impl.IsRepresentation(p, n, got) {
		t.Fatal(p, n, k, got, code, want)
	}
}

func checkNotFound(t *testing.T, p impl.Presentation, n int64, numbers ...int64) {
	t.Helper()
	for _, k := range numbers {
		if got, code := impl.RepresentationAt(p, n, k); code != impl.ErrNotFound || len(got) != 0 {
			t.Fatal(p, n, k, got, code)
		}
	}
}

// checkCounts compares the numbers of all and of the transitive representations and of the
// subgroups.
func checkCounts(t *testing.T, p impl.Presentation, n int64, all int64, transitive int64, subgroups int64) {
	t.Helper()
	for i, f := range []func(impl.Presentation, int64) (int64, int64){impl.RepresentationCount, impl.TransitiveCount, impl.SubgroupCount} {
		if got, code := f(p, n); code != impl.ErrNone || got != []int64{all, transitive, subgroups}[i] {
			t.Fatal(p, n, i, got, code, all, transitive, subgroups)
		}
	}
}

// subgroupsOf returns the number of transitive tuples that differ even if the numbers other than 0
// are renumbered: that of the stabilizers of 0.
func subgroupsOf(transitive [][][]int64, n int64) int64 {
	renumberings := slices.DeleteFunc(permutationLists(n), func(list []int64) bool { return list[0] != 0 })
	least := 0
	for _, tuple := range transitive {
		isLeast := true
		for _, by := range renumberings {
			other := [][]int64{}
			for _, f := range tuple {
				other = append(other, composedLists(composedLists(inverseList(by), f), by))
			}
			isLeast = isLeast && compareTuples(tuple, other) <= 0
		}
		if isLeast {
			least++
		}
	}
	return int64(least)
}

// checkList compares the whole list with that of the model, if it is short, and the ends and parts
// of it otherwise, and then the numbers.
func checkList(t *testing.T, p impl.Presentation, n int64) int {
	t.Helper()
	want := representationsOf(p, n)
	for k := range int64(len(want)) {
		if k < 20 || k+3 > int64(len(want)) || k%977 == 0 {
			checkAt(t, p, n, k, want[k])
		}
	}
	all := int64(len(want))
	checkNotFound(t, p, n, minInt, minInt+1, -all, -1, all, all+1, impl.MaxSearch, 1<<32, maxInt)
	transitive := slices.DeleteFunc(slices.Clone(want), func(images [][]int64) bool { return !isTransitiveTuple(n, images) })
	checkCounts(t, p, n, all, int64(len(transitive)), subgroupsOf(transitive, n))
	return len(want)
}

func TestListsByHand(t *testing.T) {
	a, b, c := []int64{0, 1, 2}, []int64{1, 2, 0}, []int64{2, 0, 1}
	cases := []struct {
		p    impl.Presentation
		n    int64
		want [][][]int64
	}{
		{presentationOf(1, "aaa"), 3, [][][]int64{{a}, {b}, {c}}},
		{presentationOf(2, "aaa", "aB"), 3, [][][]int64{{a, a}, {b, b}, {c, c}}},
		{presentationOf(2, "aaa", "bbb", "abAB"), 3, [][][]int64{{a, a}, {a, b}, {a, c}, {b, a}, {b, b}, {b, c}, {c, a}, {c, b}, {c, c}}},
		{withRelators(2), 2, [][][]int64{{{0, 1}, {0, 1}}, {{0, 1}, {1, 0}}, {{1, 0}, {0, 1}}, {{1, 0}, {1, 0}}}},
		{presentationOf(2, "aa"), 1, [][][]int64{{{0}, {0}}}},
		{presentationOf(1, "aa"), 3, [][][]int64{{a}, {{0, 2, 1}}, {{1, 0, 2}}, {{2, 1, 0}}}},
		{withRelators(1), 3, [][][]int64{{a}, {{0, 2, 1}}, {{1, 0, 2}}, {b}, {c}, {{2, 1, 0}}}},
		{presentationOf(1, "aa", "aaa"), 4, [][][]int64{{{0, 1, 2, 3}}}},
		{impl.Presentation{}, 4, [][][]int64{{}}},
		{presentationOf(0, "", ""), 3, [][][]int64{{}}},
	}
	for _, row := range cases {
		if n := checkList(t, row.p, row.n); n != len(row.want) {
			t.Error(row, n)
		}
		for k, images := range row.want {
			checkAt(t, row.p, row.n, int64(k), images)
		}
	}
}

// TestLists compares with the lists of all tuples of permutations that are representations.
func TestLists(t *testing.T) {
	seed, lengths := numbers(101), map[int]int{}
	for n, most := range []int64{0, 4, 4, 3, 2} {
		var list []impl.Presentation
		for generators := range most + 1 {
			list = append(list, withRelators(generators), presentationOf(generators, "", ""))
		}
		for range 120 {
			generators := seed.next(0, most)
			list = append(list, seed.presentation(generators, seed.next(1, 4), []int64{3, 7, 30, 120}[seed.next(0, 3)]))
		}
		for _, p := range list {
			if n > 0 {
				lengths[min(checkList(t, p, int64(n)), 8)]++
			}
		}
	}
	if min(lengths[1], lengths[2], lengths[4], lengths[8]) < 20 {
		t.Fatal("the cases are one-sided:", lengths)
	}
}

// TestListsAreIncreasing takes the lists from the program alone.
func TestListsAreIncreasing(t *testing.T) {
	seed := numbers(102)
	for range 60 {
		n, p := seed.next(1, 4), seed.presentation(seed.next(0, 3), seed.next(1, 3), 6)
		count, code := impl.RepresentationCount(p, n)
		if code != impl.ErrNone || count < 1 {
			t.Fatal(p, n, count, code)
		}
		var before [][]int64
		for k := range min(count, 150) {
			images, code := impl.RepresentationAt(p, n, k)
			if code != impl.ErrNone || !impl.IsRepresentation(p, n, images) {
				t.Fatal(p, n, k, images, code)
			}
			if k == 0 && !sameLists(images, slices.Repeat([][]int64{identityList(n)}, int(p.Generators))) {
				t.Fatal("the first one does not consist of identities", p, n, images)
			}
			if k > 0 && compareTuples(before, images) >= 0 {
				t.Fatal("not increasing", p, n, k, before, images)
			}
			before = images
		}
		checkNotFound(t, p, n, count)
	}
}

// choiceAt returns the tuple with the number k: the digits of k are the numbers of its permutations.
func choiceAt(n int64, generators int64, k int64) [][]int64 {
	lists := permutationLists(n)
	var images [][]int64
	for range generators {
		images = append(images, lists[k%int64(len(lists))])
		k /= int64(len(lists))
	}
	slices.Reverse(images)
	return images
}

// TestMostGenerators has as many choices as MaxSearch permits, and one generator more.
func TestMostGenerators(t *testing.T) {
	seed := numbers(103)
	for n := int64(1); n <= 4; n++ {
		most, choices := mostGenerators[n], int64(1)
		for range most {
			choices *= factorialOf(n)
		}
		free := withRelators(most)
		if count, code := impl.RepresentationCount(free, n); code != impl.ErrNone || count != choices {
			t.Fatal(n, count, code)
		}
		for _, k := range []int64{0, choices - 1, choices / 2, seed.next(0, choices-1), seed.next(0, choices-1)} {
			checkAt(t, free, n, k, choiceAt(n, most, k))
		}
		checkNotFound(t, free, n, choices, choices+1, -1, minInt, maxInt)
		killed := withRelators(most)
		for g := range most {
			killed.Relators = append(killed.Relators, []int64{-g - 1})
		}
		transitive := int64(0)
		if n == 1 {
			transitive = 1
		}
		checkCounts(t, killed, n, 1, transitive, transitive)
		// The choices are what is limited, not the representations.
		for generators := most + 1; generators <= 24; generators++ {
			checkSearchCodes(t, withRelators(generators), n, impl.ErrLimit)
			checkSearchCodes(t, withRelators(generators, killed.Relators...), n, impl.ErrLimit)
		}
	}
}

// checkSearchCodes sees that all four functions fail with one code.
func checkSearchCodes(t *testing.T, p impl.Presentation, n int64, wanted int64) {
	t.Helper()
	for i, f := range []func(impl.Presentation, int64) (int64, int64){impl.RepresentationCount, impl.TransitiveCount, impl.SubgroupCount} {
		if got, code := f(p, n); code != wanted || got != 0 {
			t.Error(p.Generators, len(p.Relators), n, i, got, code)
		}
	}
	for _, k := range []int64{0, 1, -1, impl.MaxSearch, minInt, maxInt} {
		if got, code := impl.RepresentationAt(p, n, k); code != wanted || len(got) != 0 {
			t.Error(p.Generators, len(p.Relators), n, k, got, code)
		}
	}
}

// TestSearchCodesInOrder has arguments to which more than one condition applies.
func TestSearchCodesInOrder(t *testing.T) {
	for _, p := range invalidPresentations() {
		for _, n := range append([]int64{1, 2, 3, 4}, badDegrees...) {
			checkSearchCodes(t, p, n, impl.ErrInvalid)
		}
	}
	for _, p := range validPresentations() {
		for _, n := range badDegrees {
			checkSearchCodes(t, p, n, impl.ErrRange)
		}
		for n := int64(2); n <= 4; n++ {
			if p.Generators > mostGenerators[n] {
				checkSearchCodes(t, p, n, impl.ErrLimit)
			}
		}
	}
}

// TestDegreeOne: there is one representation, which is transitive.
func TestDegreeOne(t *testing.T) {
	for _, p := range validPresentations() {
		checkCounts(t, p, 1, 1, 1, 1)
		checkAt(t, p, 1, 0, slices.Repeat([][]int64{{0}}, int(p.Generators)))
		checkNotFound(t, p, 1, -1, 1, minInt, maxInt)
	}
}

// TestWithoutGenerators: the only tuple has no permutations, and maps no number to another one.
func TestWithoutGenerators(t *testing.T) {
	for _, p := range []impl.Presentation{{}, presentationOf(0, ""), presentationOf(0, make([]string, 48)...)} {
		for n := int64(1); n <= 4; n++ {
			transitive := int64(0)
			if n == 1 {
				transitive = 1
			}
			checkCounts(t, p, n, 1, transitive, transitive)
			checkAt(t, p, n, 0, nil)
			checkNotFound(t, p, n, -1, 1)
		}
	}
}

// TestTrivialRelators: the order of every permutation of at most four numbers divides 120, so that
// these relators change nothing.
func TestTrivialRelators(t *testing.T) {
	for n := int64(1); n <= 4; n++ {
		free, p := withRelators(mostGenerators[n]), withRelators(mostGenerators[n])
		for g := range p.Generators {
			p.Relators = append(p.Relators, repeated(g+1, 120), repeated(-g-1, 120))
		}
		count, _ := impl.RepresentationCount(free, n)
		transitive, _ := impl.TransitiveCount(free, n)
		checkCounts(t, p, n, count, transitive, transitive/factorialOf(n-1))
	}
}
