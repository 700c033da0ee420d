package tests

import (
	"slices"
	"strings"
	"testing"

	"loop.example/g00870/impl"
)

// checkRepresentations sees that two presentations of one group, with at most so many generators,
// have the same numbers of representations, transitive ones and subgroups of the degrees 1 to 3. It
// returns the number of degrees that could be compared.
func checkRepresentations(t *testing.T, p impl.Presentation, q impl.Presentation, most int64) int {
	t.Helper()
	if p.Generators > most || q.Generators > most {
		return 0
	}
	compared := 0
	for n := int64(1); n <= 3 && max(p.Generators, q.Generators) <= mostGenerators[n]; n++ {
		for i, f := range []func(impl.Presentation, int64) (int64, int64){impl.RepresentationCount, impl.TransitiveCount, impl.SubgroupCount} {
			a, code := f(p, n)
			b, other := f(q, n)
			if code != impl.ErrNone || other != impl.ErrNone || a != b {
				t.Fatal(p, q, n, i, a, code, b, other)
			}
		}
		compared++
	}
	return compared
}

// TestMovesKeepRepresentations makes moves of each kind in groups with several representations, one
// after the other.
func TestMovesKeepRepresentations(t *testing.T) {
	seed, done := numbers(131), map[int64]int{}
	starts := []impl.Presentation{
		{}, withRelators(1), withRelators(3), commuting(2), commuting(3), presentationOf(1, "aaa"), presentationOf(2, "aa", "bb", ""),
		presentationOf(2, "aa", "bb", "ababab"), presentationOf(2, "aa", "bbb", "abababab"), presentationOf(2, "abaB", "babA"), presentationOf(2, "abaBAB"), presentationOf(4, "abABcdCD"), presentationOf(3, "aabbcc", "aB"),
		presentationOf(2, "", "", ""), presentationOf(2, "", "abAB", "", "", "baBA"),
	}
	for range 30 {
		for _, p := range starts {
			for range 14 {
				m := impl.TietzeMove{Kind: seed.next(1, 6), I: seed.next(0, int64(len(p.Relators))), J: seed.next(0, 4)}
				if p.Generators > 0 {
					m.Word = wordOf(reducedText(textOf(seed.word(seed.next(0, 3), p.Generators))))
				}
				q, code := impl.ApplyTietze(p, m)
				if code == impl.ErrNone && checkRepresentations(t, p, q, 5) == 3 {
					done[m.Kind]++
					p = q
				}
			}
		}
	}
	for kind := int64(impl.TietzeInvert); kind <= impl.TietzeAdd; kind++ {
		if done[kind] < 40 {
			t.Fatal("the cases are one-sided:", done)
		}
	}
}

// TestMovesOfManyGenerators compares only the degrees that are searched.
func TestMovesOfManyGenerators(t *testing.T) {
	seed, done := numbers(132), map[int64]int{}
	for _, generators := range []int64{6, 12, 15, 17, 24} {
		p := seed.presentation(generators, generators, 4)
		p.Relators[1], p.Relators[2] = nil, []int64{generators, 1}
		for _, m := range movesOf(p, []int64{}, []int64{1, -2}) {
			if seed.next(0, 4) > 0 && m.Kind != impl.TietzeAdd && m.Kind != impl.TietzeDrop {
				continue
			}
			if q, code := impl.ApplyTietze(p, m); code == impl.ErrNone && checkRepresentations(t, p, q, 24) > 0 {
				done[m.Kind]++
			}
		}
	}
	if len(done) != 6 {
		t.Fatal("the cases are one-sided:", done)
	}
}

// TestSubgroupsOfOtherPresentations: presentations of one group that look different have the same
// numbers of subgroups.
func TestSubgroupsOfOtherPresentations(t *testing.T) {
	for _, group := range [][]impl.Presentation{
		{presentationOf(2, "abaBAB"), presentationOf(2, "aabbb"), presentationOf(3, "abCB", "bcAC", "caBA"), presentationOf(2, "aaBBB", "")},
		{presentationOf(2, "aa", "bb", "ababab"), presentationOf(2, "aaa", "bb", "abab"), presentationOf(3, "aa", "bb", "cc", "abcb", "abac")},
		{presentationOf(2, "abaB"), presentationOf(2, "aabb")},
		{presentationOf(2, "abaB", "babA"), presentationOf(2, "aaBB", "ababAA")},
		{presentationOf(1, strings.Repeat("a", 6)), presentationOf(2, "aa", "bbb", "abAB"), presentationOf(3, "aB", "bC", "abcabc")},
		{withRelators(2), presentationOf(3, "abc"), presentationOf(3, "cBA", "")},
	} {
		want := checkRecursion(t, group[0])
		for _, p := range group[1:] {
			got := checkRecursion(t, p)
			if n := min(len(got), len(want)); n < 3 || !slices.Equal(got[:n], want[:n]) {
				t.Error(p, got, want)
			}
		}
	}
}

// guardedImages is guardedPresentation for images.
func guardedImages(t *testing.T, images [][]int64) ([][]int64, func()) {
	t.Helper()
	p, check := guardedPresentation(t, withRelators(0, images...))
	return p.Relators, check
}

// TestRepresentationArgumentsAreKept overwrites all results, which share no memory with an argument,
// and calls each function twice.
func TestRepresentationArgumentsAreKept(t *testing.T) {
	for _, p := range append(validPresentations(), presentationOf(2, "aa", "", "abAB"), withRelators(3), withRelators(1, []int64{2})) {
		for n := int64(0); n <= 5; n++ {
			for _, f := range [][]int64{identityList(n), cycle(max(n, 1)), append([]int64{1, 0}, identityList(max(n, 2))[2:]...), {0, 0}} {
				checkKept(t, p, n, slices.Repeat([][]int64{f}, int(min(max(p.Generators, 0), 30))))
			}
		}
	}
}

func checkKept(t *testing.T, p impl.Presentation, n int64, images [][]int64) {
	t.Helper()
	g, check := guardedPresentation(t, p)
	copies, checkImages := guardedImages(t, images)
	word, checkWord := guarded(t, impl.Matrix{Entries: []int64{1, -1, 1}})
	call := func() ([]int64, [][]int64, [][]int64, impl.Presentation, []int64) {
		action, _ := impl.WordAction(n, copies, word.Entries)
		first, _ := impl.RepresentationAt(g, n, 1)
		stabilizer, _ := impl.StabilizerPresentation(g, n, copies)
		numbers := []int64{}
		for _, f := range []func(impl.Presentation, int64) (int64, int64){impl.RepresentationCount, impl.TransitiveCount, impl.SubgroupCount} {
			count, code := f(g, n)
			numbers = append(numbers, count, code)
		}
		if impl.IsRepresentation(g, n, copies) {
			numbers = append(numbers, 1)
		}
		return action, impl.OrbitsOf(n, copies), first, stabilizer, numbers
	}
	action, orbits, first, stabilizer, numbers := call()
	kept := slices.Clone(action)
	keptOrbits, keptFirst, keptStabilizer := clonedLists(orbits), clonedLists(first), withRelators(stabilizer.Generators, clonedLists(stabilizer.Relators)...)
	overwrite(action)
	spoil(t, withRelators(0, orbits...))
	spoil(t, withRelators(0, first...))
	spoil(t, stabilizer)
	check()
	checkImages()
	checkWord()
	action, orbits, first, stabilizer, again := call()
	if !slices.Equal(action, kept) || !sameLists(orbits, keptOrbits) || !sameLists(first, keptFirst) || !samePresentation(stabilizer, keptStabilizer) || !slices.Equal(numbers, again) {
		t.Fatal("a call depends on an earlier one", p, n, images)
	}
}

func clonedLists(lists [][]int64) [][]int64 {
	var clones [][]int64
	for _, list := range lists {
		clones = append(clones, slices.Clone(list))
	}
	return clones
}
