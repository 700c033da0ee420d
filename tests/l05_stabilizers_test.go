package tests

import (
	"slices"
	"strings"
	"testing"

	"loop.example/g00870/impl"
)

// treeTexts returns, for each number, the first one of the shortest words without inverses that map
// 0 to it. Words of one length are tried in alphabetical order.
func treeTexts(n int64, images [][]int64) []string {
	found := make([]string, n)
	known := make([]bool, n)
	known[0] = true
	words := [][]int64{{}}
	for range n - 1 {
		var longer [][]int64
		for _, w := range words {
			for g := range images {
				longer = append(longer, append(slices.Clone(w), int64(g)+1))
			}
		}
		words = longer
		for _, w := range words {
			if y := actionOf(n, images, w)[0]; !known[y] {
				known[y], found[y] = true, textOf(w)
			}
		}
	}
	return found
}

// generatorTexts returns the words of the group for which the generators of the stabilizer of 0
// stand: from 0 to x through the tree, over to y by a generator, and back through the tree. The pair
// is a tree pair if this way through the tree to y is that over x.
func generatorTexts(n int64, images [][]int64) []string {
	tree := treeTexts(n, images)
	var texts []string
	for x := range n {
		for g, f := range images {
			over := tree[x] + textOf([]int64{int64(g) + 1})
			if y := f[x]; over != tree[y] {
				texts = append(texts, over+invertedText(tree[y]))
			}
		}
	}
	return texts
}

// expanded replaces the generators of the stabilizer by their texts.
func expanded(w []int64, texts []string) string {
	text := ""
	for _, letter := range w {
		if letter > 0 {
			text += texts[letter-1]
		} else {
			text += invertedText(texts[-letter-1])
		}
	}
	return reducedText(text)
}

// checkStabilizer sees that the stabilizer of 0 in a transitive representation has the generators
// and relators that the document gives, written in the generators of the group. Since the generators
// of the stabilizer are independent, there is only one reduced word for each relator.
func checkStabilizer(t *testing.T, p impl.Presentation, n int64, images [][]int64) (impl.Presentation, int64) {
	t.Helper()
	got, code := impl.StabilizerPresentation(p, n, images)
	generators, relators := n*p.Generators-n+1, n*int64(len(p.Relators))
	if generators > impl.MaxGenerators || relators > impl.MaxRelators {
		if code != impl.ErrLimit || !isZeroPresentation(got) {
			t.Fatal(p, n, images, got, code)
		}
		return got, code
	}
	if code != impl.ErrNone || !impl.IsPresentation(got) || got.Generators != generators || int64(len(got.Relators)) != relators {
		t.Fatal(p, n, images, got, code)
	}
	tree, texts := treeTexts(n, images), generatorTexts(n, images)
	if int64(len(texts)) != generators {
		t.Fatal("the model is wrong", n, images, texts)
	}
	for i, w := range got.Relators {
		x, relator := i/len(p.Relators), textOf(p.Relators[i%len(p.Relators)])
		if expanded(w, texts) != reducedText(tree[x]+relator+invertedText(tree[x])) {
			t.Fatal(p, n, images, got, "relator", i)
		}
		// A reduced relator is a way that never turns back, so that it leaves the tree.
		if len(w) == 0 && relator != "" {
			t.Fatal(p, n, images, got, "relator", i)
		}
	}
	return got, code
}

// checkRanks sees that the abelianization of the stabilizer has at least the rank of that of the
// group.
func checkRanks(t *testing.T, p impl.Presentation, stabilizer impl.Presentation) {
	t.Helper()
	a, code := impl.AbelianizationOf(p)
	b, other := impl.AbelianizationOf(stabilizer)
	if code != impl.ErrNone || other != impl.ErrNone {
		return
	}
	if b.Rank < a.Rank {
		t.Fatal(p, stabilizer, a, b)
	}
}

func TestStabilizersByHand(t *testing.T) {
	rows := []struct {
		p      impl.Presentation
		n      int64
		images [][]int64
		want   impl.Presentation
	}{
		{presentationOf(1, "aa"), 2, [][]int64{{1, 0}}, presentationOf(1, "a", "a")},
		{presentationOf(1, "AA"), 2, [][]int64{{1, 0}}, presentationOf(1, "A", "A")},
		{presentationOf(1, "aaa"), 3, [][]int64{{1, 2, 0}}, presentationOf(1, "a", "a", "a")},
		// The list of numbers is 0, 2, 1.
		{presentationOf(1, "aaa"), 3, [][]int64{{2, 0, 1}}, presentationOf(1, "a", "a", "a")},
		{presentationOf(2, "aaa", "bb", "abab"), 3, [][]int64{{2, 0, 1}, {0, 2, 1}}, presentationOf(4, "b", "aa", "dba", "b", "cd", "bad", "b", "dc", "cc")},
		{presentationOf(2, "bb", "aB"), 2, [][]int64{{1, 0}, {1, 0}}, presentationOf(3, "ac", "A", "ca", "bC")},
		{presentationOf(2, "a", "bb"), 2, [][]int64{{0, 1}, {1, 0}}, presentationOf(3, "a", "c", "b", "c")},
		{presentationOf(2, "A", "BB"), 2, [][]int64{{0, 1}, {1, 0}}, presentationOf(3, "A", "C", "B", "C")},
		{presentationOf(2, "abAB"), 2, [][]int64{{1, 0}, {0, 1}}, presentationOf(3, "cA", "baBC")},
		// The tree pairs are (0, b), (0, c) and (1, a): each number is tried with all generators.
		{withRelators(3), 4, [][]int64{{0, 3, 2, 1}, {1, 0, 2, 3}, {2, 1, 0, 3}}, withRelators(9)},
		{presentationOf(3, "aa", "bb", "cc"), 4, [][]int64{{0, 3, 2, 1}, {1, 0, 2, 3}, {2, 1, 0, 3}}, presentationOf(9, "aa", "b", "f", "g", "b", "cc", "dd", "ee", "f", "g", "hh", "ii")},
		{withRelators(2), 2, [][]int64{{1, 0}, {0, 1}}, withRelators(3)},
		{withRelators(1), 4, [][]int64{{3, 0, 1, 2}}, withRelators(1)},
		// Relators without letters remain.
		{presentationOf(1, "", "aa", ""), 2, [][]int64{{1, 0}}, presentationOf(1, "", "a", "", "", "a", "")},
		// The degree 1: the stabilizer is the group.
		{presentationOf(2, "abAB", "", "aa"), 1, [][]int64{{0}, {0}}, presentationOf(2, "abAB", "", "aa")},
		{impl.Presentation{}, 1, nil, impl.Presentation{}},
		{presentationOf(0, "", ""), 1, [][]int64{}, presentationOf(0, "", "")},
	}
	for _, row := range rows {
		if got, code := checkStabilizer(t, row.p, row.n, row.images); code != impl.ErrNone || !samePresentation(got, row.want) {
			t.Error(row, got, code)
		}
	}
}

// TestStabilizers has all transitive representations of many presentations.
func TestStabilizers(t *testing.T) {
	seed, done := numbers(121), map[int64]int{}
	check := func(p impl.Presentation, n int64) {
		list := transitiveOf(p, n)
		for k, images := range list {
			if len(list) > 100 && k%(len(list)/50) > 0 {
				continue
			}
			if got, code := checkStabilizer(t, p, n, images); code == impl.ErrNone {
				checkRanks(t, p, got)
				done[n]++
			}
		}
	}
	for n := int64(1); n <= 4; n++ {
		most := []int64{0, 5, 5, 3, 2}[n]
		for generators := range most + 1 {
			check(withRelators(generators), n)
			check(presentationOf(generators, "", ""), n)
			check(commuting(min(generators, 4)), n)
		}
		for range 120 {
			check(seed.presentation(seed.next(1, most), seed.next(1, 3), []int64{3, 6, 12, 40}[seed.next(0, 3)]), n)
		}
	}
	for n := int64(1); n <= 4; n++ {
		if done[n] < 100 {
			t.Fatal("the cases are one-sided:", done)
		}
	}
}

// TestStabilizersOfLongRelators: a relator of MaxWord letters has at most as many letters in the
// stabilizer, whatever the representation.
func TestStabilizersOfLongRelators(t *testing.T) {
	seed, longest := numbers(122), 0
	for range 300 {
		n, generators := seed.next(1, 4), seed.next(1, 5)
		images := seed.images(n, generators)
		if !isTransitiveTuple(n, images) {
			continue
		}
		p := withRelators(generators)
		for range 3 {
			half := wordOf(reducedText(textOf(seed.word(60, generators))))
			w := wordOf(reducedText(strings.Repeat(textOf(half), 120/max(1, len(half)))))
			if len(w) <= impl.MaxWord && slices.Equal(actionOf(n, images, w), identityList(n)) {
				p.Relators = append(p.Relators, w)
			}
		}
		p.Relators = append(p.Relators, repeated(generators, 120))
		got, _ := checkStabilizer(t, p, n, images)
		for _, w := range got.Relators {
			longest = max(longest, len(w))
		}
	}
	if longest != impl.MaxWord {
		t.Fatal(longest)
	}
}

func TestStabilizersKnown(t *testing.T) {
	rows := []struct {
		p      impl.Presentation
		n      int64
		groups []string // the different abelianizations of the stabilizers, in alphabetical order
	}{
		{withRelators(2), 2, []string{"Z^3"}},
		{withRelators(2), 3, []string{"Z^4"}},
		{withRelators(2), 4, []string{"Z^5"}},
		{withRelators(3), 3, []string{"Z^7"}},
		{presentationOf(1, strings.Repeat("a", 12)), 1, []string{"Z_12"}},
		{presentationOf(1, strings.Repeat("a", 12)), 2, []string{"Z_6"}},
		{presentationOf(1, strings.Repeat("a", 12)), 3, []string{"Z_4"}},
		{presentationOf(1, strings.Repeat("a", 12)), 4, []string{"Z_3"}},
		{withRelators(1), 4, []string{"Z"}},
		{commuting(2), 4, []string{"Z^2"}},
		{commuting(3), 3, []string{"Z^3"}},
		// The symmetric groups of three and of four numbers, and the quaternions.
		{presentationOf(2, "aa", "bb", "ababab"), 2, []string{"Z_3"}},
		{presentationOf(2, "aa", "bb", "ababab"), 3, []string{"Z_2"}},
		{presentationOf(2, "aa", "bbb", "abababab"), 2, []string{"Z_3"}},
		{presentationOf(2, "aa", "bbb", "abababab"), 3, []string{"Z_2 + Z_2"}},
		{presentationOf(2, "aa", "bbb", "abababab"), 4, []string{"Z_2"}},
		{presentationOf(2, "abaB", "babA"), 2, []string{"Z_4"}},
		{presentationOf(2, "abaB", "babA"), 4, []string{"Z_2"}},
		// Coverings of surfaces: of the one with two handles, and of Klein's bottle, with its own
		// coverings and the torus.
		{presentationOf(4, "abABcdCD"), 2, []string{"Z^6"}},
		{presentationOf(4, "abABcdCD"), 3, []string{"Z^8"}},
		{presentationOf(2, "abaB"), 2, []string{"Z + Z_2", "Z^2"}},
		{presentationOf(2, "abaB"), 3, []string{"Z + Z_2"}},
		{presentationOf(2, "abaB"), 4, []string{"Z + Z_2", "Z^2"}},
		// The coverings of the complement of the trefoil knot.
		{presentationOf(2, "abaBAB"), 2, []string{"Z + Z_3"}},
		{presentationOf(2, "abaBAB"), 3, []string{"Z + Z_2 + Z_2", "Z^2"}},
	}
	for _, row := range rows {
		found := map[string]bool{}
		for _, images := range transitiveOf(row.p, row.n) {
			stabilizer, _ := checkStabilizer(t, row.p, row.n, images)
			g, code := impl.AbelianizationOf(stabilizer)
			if code != impl.ErrNone {
				t.Fatal(row.p, images, code)
			}
			found[impl.FormatGroup(g)] = true
		}
		var groups []string
		for text := range found {
			groups = append(groups, text)
		}
		if slices.Sort(groups); !slices.Equal(groups, row.groups) {
			t.Error(row.p, row.n, groups, row.groups)
		}
	}
}

// TestSubgroupsOfSubgroups: each pair of a subgroup of index 2 and one of index 2 in it is counted
// from both ends, for free abelian groups, in which all subgroups of index 2 are alike.
func TestSubgroupsOfSubgroups(t *testing.T) {
	for rank := int64(1); rank <= 3; rank++ {
		p := commuting(rank)
		s, _ := impl.SubgroupCount(p, 2)
		for _, images := range transitiveOf(p, 2) {
			stabilizer, _ := checkStabilizer(t, p, 2, images)
			if got, code := impl.SubgroupCount(stabilizer, 2); code != impl.ErrNone || got != s {
				t.Error(rank, images, got, code)
			}
		}
	}
	// The symmetric group of three numbers is the stabilizer of one of four.
	p := presentationOf(2, "aa", "bbb", "abababab")
	for _, images := range transitiveOf(p, 4) {
		stabilizer, _ := checkStabilizer(t, p, 4, images)
		simple, _, _ := impl.SimplifyPresentation(stabilizer)
		for _, q := range []impl.Presentation{stabilizer, simple} {
			if q.Generators <= 3 {
				if got := checkRecursion(t, q); !slices.Equal(got, []int64{1, 1, 3, 0}) {
					t.Error(q, got)
				}
			}
		}
	}
}

// cycle maps each number of a degree to the next one.
func cycle(n int64) []int64 {
	return append(identityList(n)[1:], 0)
}

func TestStabilizerLimits(t *testing.T) {
	for n := int64(1); n <= 4; n++ {
		mostGenerators, mostRelators := int64(23)/n+1, 48/n
		for generators := int64(1); generators <= 24; generators++ {
			images := slices.Repeat([][]int64{cycle(n)}, int(generators))
			_, code := checkStabilizer(t, withRelators(generators), n, images)
			if (code == impl.ErrNone) != (generators <= mostGenerators) {
				t.Error(n, generators, code)
			}
		}
		for relators := range 49 {
			for _, relator := range [][]int64{repeated(1, 120), repeated(-1, 12), nil} {
				p := withRelators(1, slices.Repeat([][]int64{relator}, relators)...)
				_, code := checkStabilizer(t, p, n, [][]int64{cycle(n)})
				if (code == impl.ErrNone) != (int64(relators) <= mostRelators) {
					t.Error(n, relators, code)
				}
			}
		}
	}
}

func checkNoStabilizer(t *testing.T, p impl.Presentation, n int64, images [][]int64, wanted int64) {
	t.Helper()
	if got, code := impl.StabilizerPresentation(p, n, images); code != wanted || !isZeroPresentation(got) {
		t.Error(p.Generators, len(p.Relators), n, len(images), got, code)
	}
}

func TestStabilizersInvalid(t *testing.T) {
	for n := int64(1); n <= 4; n++ {
		one := identityList(n)
		for _, bad := range badPermutations(n) {
			checkNoStabilizer(t, withRelators(1), n, [][]int64{bad}, impl.ErrInvalid)
			checkNoStabilizer(t, withRelators(3), n, [][]int64{cycle(n), one, bad}, impl.ErrInvalid)
		}
		for _, p := range invalidPresentations() {
			for _, count := range []int64{0, 1, 2, 24, p.Generators} {
				images := slices.Repeat([][]int64{cycle(n)}, int(min(max(count, 0), 50)))
				checkNoStabilizer(t, p, n, images, impl.ErrInvalid)
			}
		}
		for _, count := range []int{0, 1, 3, 24, 100000} {
			checkNoStabilizer(t, withRelators(2), n, slices.Repeat([][]int64{cycle(n)}, count), impl.ErrInvalid)
		}
	}
	for _, n := range badDegrees {
		one := identityList(min(max(n, 0), 30))
		for _, images := range [][][]int64{nil, {one}, {nil}, {{0}}} {
			checkNoStabilizer(t, withRelators(int64(len(images))), n, images, impl.ErrInvalid)
		}
	}
	checkNoStabilizer(t, presentationOf(1, "aa"), 3, [][]int64{cycle(3)}, impl.ErrInvalid)
}

// TestStabilizerErrorsInOrder has arguments to which more than one condition applies.
func TestStabilizerErrorsInOrder(t *testing.T) {
	for n := int64(2); n <= 4; n++ {
		one := identityList(n)
		// Neither a representation nor transitive nor within the limits.
		checkNoStabilizer(t, presentationOf(24, "a"), n, slices.Repeat([][]int64{cycle(n)}, 24), impl.ErrInvalid)
		checkNoStabilizer(t, withRelators(24), n, slices.Repeat([][]int64{one}, 23), impl.ErrInvalid)
		if n > 2 {
			swap := append([]int64{1, 0}, one[2:]...)
			checkNoStabilizer(t, presentationOf(24, "a"), n, slices.Repeat([][]int64{swap}, 24), impl.ErrInvalid)
			checkNoStabilizer(t, withRelators(24), n, slices.Repeat([][]int64{swap}, 24), impl.ErrState)
			// All numbers but 0 are mapped to each other.
			rest := append([]int64{0}, append(one[2:], 1)...)
			checkNoStabilizer(t, withRelators(2), n, [][]int64{rest, rest}, impl.ErrState)
		}
		// A representation that is not transitive, and beyond the limits.
		checkNoStabilizer(t, withRelators(24), n, slices.Repeat([][]int64{one}, 24), impl.ErrState)
		checkNoStabilizer(t, presentationOf(1, make([]string, 48)...), n, [][]int64{one}, impl.ErrState)
		checkNoStabilizer(t, withRelators(1), n, [][]int64{one}, impl.ErrState)
		checkNoStabilizer(t, impl.Presentation{}, n, nil, impl.ErrState)
		checkNoStabilizer(t, presentationOf(0, make([]string, 48)...), n, [][]int64{}, impl.ErrState)
		// A transitive one beyond the limits.
		checkNoStabilizer(t, withRelators(24), n, slices.Repeat([][]int64{cycle(n)}, 24), impl.ErrLimit)
		checkNoStabilizer(t, presentationOf(1, make([]string, 48)...), n, [][]int64{cycle(n)}, impl.ErrLimit)
	}
}
