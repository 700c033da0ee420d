package tests

import (
	"slices"
	"testing"

	"loop.example/g00870/impl"
)

func TestRepresentationConstants(t *testing.T) {
	if impl.MaxDegree != 4 || impl.MaxSearch != 200000 {
		t.Fatal(impl.MaxDegree, impl.MaxSearch)
	}
}

func TestIsRepresentationByHand(t *testing.T) {
	turn, swap := []int64{1, 2, 0}, []int64{1, 0, 2}
	rows := []struct {
		p      impl.Presentation
		n      int64
		images [][]int64
		want   bool
	}{
		{presentationOf(1, "aa"), 2, [][]int64{{0, 1}}, true},
		{presentationOf(1, "aa"), 2, [][]int64{{1, 0}}, true},
		{presentationOf(1, "aa"), 3, [][]int64{turn}, false},
		{presentationOf(1, "aaa"), 3, [][]int64{turn}, true},
		{presentationOf(1, "AAA"), 3, [][]int64{turn}, true},
		{presentationOf(1, "aaa", "aa"), 3, [][]int64{turn}, false},
		{presentationOf(1, "aa", "aaa"), 3, [][]int64{turn}, false},
		{presentationOf(2, "aaa", "bb", "abab"), 3, [][]int64{turn, swap}, true},
		{presentationOf(2, "aaa", "bb", "abab"), 3, [][]int64{swap, turn}, false},
		{presentationOf(2, "aaa", "bb", "abAB"), 3, [][]int64{turn, swap}, false},
		// The word fixes 0 and 1 in turn, but not all numbers.
		{presentationOf(1, "a"), 3, [][]int64{{0, 2, 1}}, false},
		{presentationOf(1, "a"), 3, [][]int64{{2, 1, 0}}, false},
		{presentationOf(1, "a"), 4, [][]int64{{0, 1, 3, 2}}, false},
		{impl.Presentation{}, 1, nil, true},
		{impl.Presentation{}, 4, [][]int64{}, true},
		{presentationOf(0, "", ""), 3, nil, true},
		{impl.Presentation{}, 2, [][]int64{{0, 1}}, false},
		{withRelators(1), 4, [][]int64{{3, 2, 1, 0}}, true},
		{presentationOf(1, ""), 4, [][]int64{{3, 2, 1, 0}}, true},
		{withRelators(24), 4, slices.Repeat([][]int64{{3, 2, 1, 0}}, 24), true},
		{presentationOf(24, "xxx"), 3, slices.Repeat([][]int64{turn}, 24), true},
		{presentationOf(24, "wx"), 3, slices.Repeat([][]int64{turn}, 24), false},
		{presentationOf(24, "wX", "Xa"), 3, slices.Repeat([][]int64{turn}, 24), true},
		{withRelators(1, repeated(1, 120)), 4, [][]int64{{1, 2, 3, 0}}, true},
		{withRelators(1, repeated(1, 119)), 4, [][]int64{{1, 2, 3, 0}}, false},
		{presentationOf(1, "a", "a"), 1, [][]int64{{0}}, true},
	}
	for _, row := range rows {
		if impl.IsRepresentation(row.p, row.n, row.images) != row.want {
			t.Error(row)
		}
	}
}

// TestIsRepresentationOfAllTuples compares with the model.
func TestIsRepresentationOfAllTuples(t *testing.T) {
	seed, yes, no := numbers(91), 0, 0
	for n := int64(1); n <= 4; n++ {
		for generators := int64(0); generators <= 2; generators++ {
			tuples := tuplesOf(n, generators)
			for range 20 {
				p := seed.presentation(generators, seed.next(0, 3), 8)
				for _, images := range tuples {
					want := areRelatorsTrivial(p, n, images)
					if impl.IsRepresentation(p, n, images) != want {
						t.Fatal(p, n, images, want)
					}
					if want {
						yes++
					} else {
						no++
					}
				}
			}
		}
	}
	if min(yes, no) < 1000 {
		t.Fatal("the cases are one-sided:", yes, no)
	}
}

func TestIsRepresentationInvalid(t *testing.T) {
	for n := int64(1); n <= 4; n++ {
		one := identityList(n)
		for _, p := range invalidPresentations() {
			for _, count := range []int64{0, 1, 2, 24, p.Generators} {
				if images := slices.Repeat([][]int64{one}, int(min(max(count, 0), 50))); impl.IsRepresentation(p, n, images) {
					t.Error(p.Generators, len(p.Relators), n, len(images))
				}
			}
		}
		for _, generators := range []int64{0, 1, 2, 23, 24} {
			for _, count := range []int64{0, 1, 2, 3, 22, 23, 24, 25, 48, 100000} {
				images := slices.Repeat([][]int64{one}, int(count))
				if impl.IsRepresentation(withRelators(generators), n, images) != (count == generators) {
					t.Error(n, generators, count)
				}
			}
		}
		for _, bad := range badPermutations(n) {
			for place := range 3 {
				images := [][]int64{one, one, one}
				images[place] = bad
				if impl.IsRepresentation(withRelators(3), n, images) {
					t.Error(n, place, bad[:min(len(bad), 9)])
				}
			}
		}
	}
	for _, n := range badDegrees {
		one := identityList(min(max(n, 0), 30))
		for _, images := range [][][]int64{nil, {one}, {nil}, {{0}}, {{1, 0}}} {
			if impl.IsRepresentation(withRelators(int64(len(images))), n, images) {
				t.Error(n, images)
			}
		}
	}
}

func TestWordActionByHand(t *testing.T) {
	turn := [][]int64{{1, 2, 0}}
	two := [][]int64{{1, 0, 2}, {0, 2, 1}}
	many := append(slices.Repeat([][]int64{{0, 1, 2, 3}}, 23), []int64{1, 2, 3, 0}, []int64{3, 2, 1, 0})
	rows := []struct {
		n       int64
		images  [][]int64
		w, want []int64
	}{
		{3, turn, []int64{1, 1}, []int64{2, 0, 1}},
		{3, turn, []int64{-1}, []int64{2, 0, 1}},
		{3, turn, []int64{1}, []int64{1, 2, 0}},
		{3, turn, []int64{1, 1, 1}, []int64{0, 1, 2}},
		{3, turn, nil, []int64{0, 1, 2}},
		// From left to right.
		{3, two, []int64{1, 2}, []int64{2, 0, 1}},
		{3, two, []int64{2, 1}, []int64{1, 2, 0}},
		{3, two, []int64{-1, 2}, []int64{2, 0, 1}},
		{4, [][]int64{{1, 2, 3, 0}, {1, 0, 2, 3}}, []int64{-1, 2}, []int64{3, 1, 0, 2}},
		{4, [][]int64{{1, 2, 3, 0}, {1, 0, 2, 3}}, []int64{2, -1}, []int64{0, 3, 1, 2}},
		// A word need not be reduced.
		{3, turn, []int64{1, -1}, []int64{0, 1, 2}},
		{3, two, []int64{1, -2, 2, 2}, []int64{2, 0, 1}},
		{1, nil, nil, []int64{0}},
		{4, nil, nil, []int64{0, 1, 2, 3}},
		{4, [][]int64{}, []int64{}, []int64{0, 1, 2, 3}},
		{1, [][]int64{{0}}, []int64{1, -1, 1}, []int64{0}},
		{2, [][]int64{{1, 0}}, []int64{1}, []int64{1, 0}},
		// There are more permutations than a presentation has generators.
		{4, many, []int64{24}, []int64{1, 2, 3, 0}},
		{4, many, []int64{-24}, []int64{3, 0, 1, 2}},
		{4, many, []int64{23, 24, 24, -1}, []int64{2, 3, 0, 1}},
		{4, slices.Repeat(many, 3000), []int64{24}, []int64{1, 2, 3, 0}},
		{4, many, repeated(24, 120), []int64{0, 1, 2, 3}},
		{4, many, repeated(-24, 119), []int64{1, 2, 3, 0}},
	}
	for _, row := range rows {
		if got, ok := impl.WordAction(row.n, row.images, row.w); !ok || !slices.Equal(got, row.want) {
			t.Error(row.n, len(row.images), row.w, got, ok)
		}
	}
}

// TestWordActions compares with the model, and with the actions of parts and inverses of words.
func TestWordActions(t *testing.T) {
	seed := numbers(92)
	action := func(n int64, images [][]int64, w []int64) []int64 {
		t.Helper()
		got, ok := impl.WordAction(n, images, w)
		if !ok || !slices.Equal(got, actionOf(n, images, w)) {
			t.Fatal(n, images, w, got, ok)
		}
		return got
	}
	for range 4000 {
		n, generators := seed.next(1, 4), seed.next(1, 24)
		images := seed.images(n, generators)
		v, w := seed.word(seed.next(0, 60), generators), seed.word(seed.next(0, 60), generators)
		f, g := action(n, images, v), action(n, images, w)
		if got := action(n, images, slices.Concat(v, w)); !slices.Equal(got, composedLists(f, g)) {
			t.Fatal(n, images, v, w, got)
		}
		if got := action(n, images, impl.InvertWord(v)); !slices.Equal(got, inverseList(f)) {
			t.Fatal(n, images, v, got)
		}
		if got := action(n, images, impl.FreeReduce(v)); !slices.Equal(got, f) {
			t.Fatal(n, images, v, got)
		}
	}
	for n := int64(1); n <= 4; n++ {
		for _, images := range tuplesOf(n, 2) {
			for _, w := range shortWords(3, 2) {
				action(n, images, w)
			}
		}
	}
}

func checkNoAction(t *testing.T, n int64, images [][]int64, w []int64) {
	t.Helper()
	if got, ok := impl.WordAction(n, images, w); ok || got != nil {
		t.Error(n, len(images), w[:min(len(w), 122)], got, ok)
	}
}

// checkNoOrbits is for images that are invalid whatever the word is.
func checkNoOrbits(t *testing.T, n int64, images [][]int64) {
	t.Helper()
	if got := impl.OrbitsOf(n, images); got != nil {
		t.Error(n, len(images), got)
	}
	checkNoAction(t, n, images, nil)
	checkNoAction(t, n, images, []int64{1})
}

func TestActionsAndOrbitsInvalid(t *testing.T) {
	for n := int64(1); n <= 4; n++ {
		one := identityList(n)
		for _, bad := range badPermutations(n) {
			checkNoOrbits(t, n, [][]int64{bad})
			checkNoOrbits(t, n, [][]int64{one, bad})
			checkNoOrbits(t, n, [][]int64{bad, one, one})
			checkNoOrbits(t, n, append(slices.Repeat([][]int64{one}, 24), bad))
			checkNoOrbits(t, n, append(slices.Repeat([][]int64{one}, 5000), bad))
		}
		for _, w := range invalidWords() {
			checkNoAction(t, n, slices.Repeat([][]int64{one}, 24), w)
			checkNoAction(t, n, slices.Repeat([][]int64{one}, 200), w)
			checkNoAction(t, n, nil, w)
		}
		for count := range int64(24) {
			for _, w := range [][]int64{{count + 1}, {-count - 1}, append(repeated(1, 100), count+1)} {
				checkNoAction(t, n, slices.Repeat([][]int64{one}, int(count)), w)
			}
		}
	}
	for _, n := range badDegrees {
		one := identityList(min(max(n, 0), 30))
		for _, images := range [][][]int64{nil, {}, {one}, {nil}, {{0}}, {{1, 0}}, {one, one}} {
			checkNoOrbits(t, n, images)
		}
	}
}

func TestOrbitsByHand(t *testing.T) {
	rows := []struct {
		n      int64
		images [][]int64
		want   [][]int64
	}{
		{3, [][]int64{{1, 0, 2}}, [][]int64{{0, 1}, {2}}},
		{1, nil, [][]int64{{0}}},
		{4, nil, [][]int64{{0}, {1}, {2}, {3}}},
		{4, [][]int64{}, [][]int64{{0}, {1}, {2}, {3}}},
		{1, [][]int64{{0}, {0}}, [][]int64{{0}}},
		{2, [][]int64{{0, 1}}, [][]int64{{0}, {1}}},
		{2, [][]int64{{1, 0}}, [][]int64{{0, 1}}},
		// The numbers of an orbit are found in another order than that of the result.
		{4, [][]int64{{3, 0, 1, 2}}, [][]int64{{0, 1, 2, 3}}},
		{4, [][]int64{{2, 3, 1, 0}}, [][]int64{{0, 1, 2, 3}}},
		{4, [][]int64{{3, 2, 1, 0}}, [][]int64{{0, 3}, {1, 2}}},
		{4, [][]int64{{2, 1, 3, 0}}, [][]int64{{0, 2, 3}, {1}}},
		{4, [][]int64{{0, 3, 1, 2}}, [][]int64{{0}, {1, 2, 3}}},
		{4, [][]int64{{0, 1, 3, 2}, {0, 3, 2, 1}}, [][]int64{{0}, {1, 2, 3}}},
		{4, [][]int64{{1, 0, 2, 3}, {0, 1, 3, 2}, {0, 2, 1, 3}}, [][]int64{{0, 1, 2, 3}}},
		{4, append(slices.Repeat([][]int64{{0, 1, 2, 3}}, 5000), []int64{0, 2, 1, 3}), [][]int64{{0}, {1, 2}, {3}}},
	}
	for _, row := range rows {
		if got := impl.OrbitsOf(row.n, row.images); !sameLists(got, row.want) {
			t.Error(row.n, len(row.images), got, row.want)
		}
	}
}

// TestOrbits compares with the model.
func TestOrbits(t *testing.T) {
	seed, sizes := numbers(93), map[int]int{}
	var lists [][][]int64
	for n := int64(1); n <= 4; n++ {
		lists = append(lists, tuplesOf(n, 1)...)
		lists = append(lists, tuplesOf(n, 2)...)
	}
	for range 2000 {
		lists = append(lists, seed.images(seed.next(1, 4), seed.next(1, 30)))
	}
	for _, images := range lists {
		n := int64(len(images[0]))
		want := setsOf(n, images)
		if got := impl.OrbitsOf(n, images); !sameLists(got, want) {
			t.Fatal(n, images, got, want)
		}
		sizes[len(want)]++
	}
	if len(sizes) != 4 {
		t.Fatal(sizes)
	}
}
