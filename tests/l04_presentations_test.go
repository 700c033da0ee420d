package tests

import (
	"slices"
	"strings"
	"testing"

	"loop.example/g00870/impl"
)

// presentationOf returns a presentation whose relators are given as texts.
func presentationOf(generators int64, relators ...string) impl.Presentation {
	return textGroup{generators: generators, relators: relators}.presentation()
}

// withRelators returns a presentation, valid or not, with any lists as relators.
func withRelators(generators int64, relators ...[]int64) impl.Presentation {
	return impl.Presentation{Generators: generators, Relators: relators}
}

// powers returns n relators, which are the powers of a with the exponents 1 to n.
func powers(n int) []string {
	var list []string
	for k := range n {
		list = append(list, strings.Repeat("a", k+1))
	}
	return list
}

func samePresentation(p impl.Presentation, q impl.Presentation) bool {
	return p.Generators == q.Generators && slices.EqualFunc(p.Relators, q.Relators, slices.Equal)
}

func isZeroPresentation(p impl.Presentation) bool {
	return samePresentation(p, impl.Presentation{})
}

func validPresentations() []impl.Presentation {
	return []impl.Presentation{
		{}, {Relators: [][]int64{}}, withRelators(1), withRelators(24), withRelators(0, nil), withRelators(0, []int64{}, nil, []int64{}),
		presentationOf(1, "aa"), presentationOf(1, "A"), presentationOf(2, "abAB"), presentationOf(2, "bAA", "bb"), presentationOf(24, "x", "X", "aXa"),
		presentationOf(3, "abc", "", "cba", "abc"), presentationOf(2, "abA", "baB"), presentationOf(24, slices.Repeat([]string{"ax"}, 48)...), presentationOf(0, make([]string, 48)...),
		presentationOf(1, powers(48)...), withRelators(1, repeated(1, 120)), withRelators(24, repeated(-24, 120), repeated(24, 119)), withRelators(2, slices.Repeat([]int64{1, -2}, 60)),
	}
}

func invalidPresentations() []impl.Presentation {
	return []impl.Presentation{
		withRelators(-1), withRelators(25), withRelators(minInt), withRelators(maxInt), withRelators(-1, nil), withRelators(25, []int64{1}),
		withRelators(-1, []int64{1}), withRelators(minInt, []int64{minInt}), withRelators(maxInt, []int64{maxInt}),
		withRelators(1, []int64{2}), withRelators(1, []int64{-2}), withRelators(0, []int64{1}), withRelators(0, []int64{-1}), withRelators(23, []int64{24}), withRelators(23, []int64{1}, []int64{-24}), withRelators(24, []int64{25}), withRelators(24, []int64{-25}),
		withRelators(2, []int64{0}), withRelators(2, []int64{1, 0}), withRelators(2, []int64{1}, []int64{0, 2}), withRelators(0, []int64{0}),
		withRelators(2, []int64{minInt}), withRelators(2, []int64{1, maxInt}), withRelators(2, []int64{minInt, minInt}), withRelators(2, []int64{maxInt, -maxInt}), withRelators(24, []int64{1, minInt, 1}),
		withRelators(1, []int64{1, -1}), withRelators(1, []int64{-1, 1}), withRelators(2, []int64{1, 2, -2}), withRelators(2, []int64{2, 1, -1, 2}), withRelators(2, []int64{1, 2}, []int64{1, 2, -2, 1}), withRelators(24, []int64{24, -24}),
		withRelators(1, repeated(1, 121)), withRelators(2, []int64{2}, repeated(-1, 121)), withRelators(1, repeated(1, 100000)), withRelators(1, append(repeated(1, 119), -1)),
		withRelators(0, make([][]int64, 49)...), withRelators(1, slices.Repeat([][]int64{{1}}, 49)...), withRelators(24, make([][]int64, 100000)...),
	}
}

func TestIsPresentation(t *testing.T) {
	for _, p := range validPresentations() {
		if !impl.IsPresentation(p) {
			t.Error("not accepted:", p)
		}
	}
	for _, p := range invalidPresentations() {
		if impl.IsPresentation(p) {
			t.Error("accepted:", p.Generators, len(p.Relators))
		}
	}
}

// TestIsPresentationOfAllLists tries all short lists, with all numbers of generators that matter to
// them, as the last one of several relators.
func TestIsPresentationOfAllLists(t *testing.T) {
	for generators := int64(-2); generators <= 4; generators++ {
		for a := int64(-4); a <= 4; a++ {
			for b := int64(-4); b <= 4; b++ {
				size := max(a, -a, b, -b)
				want := generators >= size && a != 0 && b != 0 && a != -b
				if impl.IsPresentation(withRelators(generators, nil, nil, []int64{a, b})) != want {
					t.Fatal(generators, a, b)
				}
			}
		}
	}
	for generators := int64(-30); generators <= 60; generators++ {
		for n := range 60 {
			want := generators >= 0 && generators <= 24 && n <= 48
			if impl.IsPresentation(withRelators(generators, make([][]int64, n)...)) != want {
				t.Fatal(generators, n)
			}
		}
	}
}

// cyclicPowers is a cyclic group of order e^n: each generator is the power of the one before it with
// the exponent e.
func cyclicPowers(n int, e int) impl.Presentation {
	var relators []string
	for i := range n {
		relator := strings.Repeat(string(rune('a'+i)), e)
		if i+1 < n {
			relator += string(rune('A' + i + 1))
		}
		relators = append(relators, relator)
	}
	return presentationOf(int64(n), relators...)
}

func TestAbelianizationsKnown(t *testing.T) {
	rows := []struct {
		p    impl.Presentation
		want impl.AbelianGroup
	}{
		{impl.Presentation{}, groupOf(0)},
		{withRelators(0, nil, nil), groupOf(0)},
		{withRelators(24), groupOf(24)},
		{withRelators(3, nil, nil), groupOf(3)},
		{presentationOf(1, "a"), groupOf(0)},
		{presentationOf(1, "A"), groupOf(0)},
		{presentationOf(1, "AA"), groupOf(0, 2)},
		{presentationOf(1, "aaaa", "aaaaaa"), groupOf(0, 2)},
		{presentationOf(2, "abAB"), groupOf(2)},
		{presentationOf(2, "abaB"), groupOf(1, 2)},
		{presentationOf(2, "aba", "bbb"), groupOf(0, 6)},
		{presentationOf(2, "bAA", "bb"), groupOf(0, 4)},
		{presentationOf(3, "bb", "ccc"), groupOf(1, 6)},
		{presentationOf(2, "aa", "bbbb"), groupOf(0, 2, 4)},
		// The symmetric group of three numbers, the quaternions, the trefoil knot, the dodecahedron's
		// space and a surface with two handles.
		{presentationOf(2, "aa", "bb", "ababab"), groupOf(0, 2)},
		{presentationOf(2, "abaB", "babA"), groupOf(0, 2, 2)},
		{presentationOf(2, "abaBAB"), groupOf(1)},
		{presentationOf(2, "aaaBABA", "bbbbABA"), groupOf(0)},
		{presentationOf(4, "abABcdCD"), groupOf(4)},
		{withRelators(24, repeated(24, 120)), groupOf(23, 120)},
		{withRelators(24, repeated(-1, 120), repeated(2, 119)), groupOf(22, 14280)},
		{presentationOf(24, slices.Repeat([]string{"xx"}, 48)...), groupOf(23, 2)},
		{cyclicPowers(5, 60), groupOf(0, 60*60*60*60*60)},
		{cyclicPowers(6, 100), groupOf(0, impl.MaxEntry)},
	}
	for _, row := range rows {
		if g, code := impl.AbelianizationOf(row.p); code != impl.ErrNone || !sameGroup(g, row.want) {
			t.Error(row, g, code)
		}
	}
}

func TestAbelianizationErrors(t *testing.T) {
	for _, p := range invalidPresentations() {
		if g, code := impl.AbelianizationOf(p); code != impl.ErrInvalid || !isZeroGroup(g) {
			t.Error(p.Generators, len(p.Relators), g, code)
		}
	}
	// The order of the group exceeds MaxEntry.
	for _, p := range []impl.Presentation{cyclicPowers(6, 101), cyclicPowers(7, 60), cyclicPowers(24, 119)} {
		if g, code := impl.AbelianizationOf(p); code != impl.ErrLimit || !isZeroGroup(g) {
			t.Error(p, g, code)
		}
	}
}

// presentation returns a presentation with relators of up to n letters.
func (s *numbers) presentation(generators int64, relators int64, n int64) impl.Presentation {
	p := withRelators(generators)
	for range relators {
		w := []int64{}
		if generators > 0 {
			w = s.word(s.next(0, n), generators)
		}
		p.Relators = append(p.Relators, wordOf(reducedText(textOf(w))))
	}
	return p
}

// TestAbelianizationIsACokernel takes the matrix from the texts of the relators.
func TestAbelianizationIsACokernel(t *testing.T) {
	seed, limits := numbers(61), 0
	list := validPresentations()
	for range 800 {
		list = append(list, seed.presentation(seed.next(0, 5), seed.next(0, 6), 12), seed.presentation(seed.next(0, 24), seed.next(0, 48), 120))
	}
	for _, p := range list {
		m := matrixOf(p.Generators, int64(len(p.Relators)))
		for g := range p.Generators {
			for _, w := range p.Relators {
				text, letter := textOf(w), textOf([]int64{g + 1})
				m.Entries = append(m.Entries, int64(strings.Count(text, letter)-strings.Count(text, strings.ToUpper(letter))))
			}
		}
		want, wanted := impl.CokernelOf(m)
		if got, code := impl.AbelianizationOf(p); code != wanted || !sameGroup(got, want) {
			t.Fatal(p, got, code, want, wanted)
		}
		if wanted == impl.ErrLimit {
			limits++
		}
	}
	if limits < 20 {
		t.Fatal("the limit is rarely met:", limits)
	}
}

// guardedPresentation returns a copy of p with room behind the relators and behind their letters,
// and a check that nothing of it has been written.
func guardedPresentation(t *testing.T, p impl.Presentation) (impl.Presentation, func()) {
	t.Helper()
	whole := make([][]int64, 0, len(p.Relators)+4)
	var checks []func()
	for _, w := range p.Relators {
		m, check := guarded(t, impl.Matrix{Entries: w})
		whole, checks = append(whole, m.Entries), append(checks, check)
	}
	n := len(whole)
	before := slices.Clone(whole)
	whole = append(whole, []int64{spareMark}, []int64{spareMark}, []int64{spareMark}, []int64{spareMark})
	return withRelators(p.Generators, whole[:n]...), func() {
		t.Helper()
		for _, check := range checks {
			check()
		}
		for i, w := range before {
			if len(whole[i]) != len(w) || len(w) > 0 && &whole[i][0] != &w[0] {
				t.Fatal("a relator was replaced in an argument")
			}
		}
		for _, w := range whole[n:] {
			if !slices.Equal(w, []int64{spareMark}) {
				t.Fatal("the room behind the relators was changed")
			}
		}
	}
}

// spoil overwrites a result, and sees whether two of its relators share memory.
func spoil(t *testing.T, p impl.Presentation) {
	t.Helper()
	for i, w := range p.Relators {
		for j, v := range p.Relators {
			before := slices.Clone(v)
			if overwrite(w); i != j && !slices.Equal(v, before) {
				t.Fatal("two relators of a result share memory")
			}
		}
	}
	whole := p.Relators[:cap(p.Relators)]
	for i := range whole {
		whole[i] = nil
	}
}

// TestPresentationArgumentsAreKept overwrites all results, which share no memory with an argument
// even where they are equal to it.
func TestPresentationArgumentsAreKept(t *testing.T) {
	list := append(validPresentations(), presentationOf(2, "", "ab", "BA", "", "bAA"), presentationOf(3, "b", "abc", "ca"), withRelators(1, []int64{2}))
	for _, p := range list {
		g, check := guardedPresentation(t, p)
		word, checkWord := guarded(t, impl.Matrix{Entries: []int64{1, 1}})
		for _, m := range movesOf(p, word.Entries, []int64{}) {
			result, _ := impl.ApplyTietze(g, m)
			spoil(t, result)
		}
		result, moves, _ := impl.SimplifyPresentation(g)
		spoil(t, result)
		for _, m := range moves {
			overwrite(m.Word)
		}
		impl.IsPresentation(g)
		group, _ := impl.AbelianizationOf(g)
		overwrite(group.Torsion)
		check()
		checkWord()
	}
}
