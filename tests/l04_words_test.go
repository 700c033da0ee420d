package tests

import (
	"slices"
	"testing"

	"loop.example/g00870/impl"
)

func validWords() [][]int64 {
	return [][]int64{
		nil, {}, {1}, {-1}, {24}, {-24}, {24, -24}, {1, 1}, {1, 2, -2, 3}, {-24, 24, 24, -24}, {1, 2, -1}, {2, -1, -2, 1},
		repeated(1, 119), repeated(1, 120), repeated(-24, 120), slices.Repeat([]int64{24, -24}, 60), slices.Repeat([]int64{1, -2, 3}, 40),
	}
}

func invalidWords() [][]int64 {
	return [][]int64{
		{0}, {1, 0}, {0, 1}, {1, 0, -1}, {25}, {-25}, {1, 25}, {-25, 1}, {1, -25, 2}, {100}, {-100},
		{minInt}, {maxInt}, {1, minInt}, {minInt, 1}, {minInt, minInt}, {maxInt, -maxInt}, {-maxInt}, {minInt + 1, maxInt},
		repeated(1, 121), repeated(-24, 121), slices.Repeat([]int64{1, -1}, 61), repeated(1, 100000), slices.Repeat([]int64{1, -1}, 100000),
		append(repeated(1, 119), 0), append(repeated(1, 119), 25), append(repeated(1, 120), 0), append(repeated(1, 120), minInt), repeated(0, 121), repeated(25, 120),
	}
}

// allWords returns all lists of n letters up to most or their negatives.
func allWords(n int, most int64) [][]int64 {
	list := [][]int64{{}}
	for range n {
		var longer [][]int64
		for _, w := range list {
			for x := -most; x <= most; x++ {
				if x != 0 {
					longer = append(longer, append(slices.Clone(w), x))
				}
			}
		}
		list = longer
	}
	return list
}

// shortWords returns all words of at most n letters up to most or their negatives.
func shortWords(n int, most int64) [][]int64 {
	var list [][]int64
	for k := range n + 1 {
		list = append(list, allWords(k, most)...)
	}
	return list
}

// word returns a word of n letters up to most or their negatives, in which many neighbors are
// negatives of each other if most is small.
func (s *numbers) word(n int64, most int64) []int64 {
	w := []int64{}
	for range n {
		w = append(w, s.sign()*s.next(1, most))
	}
	return w
}

// collapsing returns a word of n letters, in which long parts collapse when it is reduced.
func (s *numbers) collapsing(n int64, most int64) []int64 {
	w := []int64{}
	for int64(len(w)) < n {
		part := s.word(s.next(0, 5), most)
		at := s.next(0, int64(len(w)))
		w = slices.Insert(w, int(at), slices.Concat(part, negatedBack(part))...)
		at = s.next(0, int64(len(w)))
		w = slices.Insert(w, int(at), s.word(s.next(0, 2), most)...)
	}
	return w[:n]
}

// negatedBack is the inverse of a word, by the model.
func negatedBack(w []int64) []int64 {
	return wordOf(invertedText(textOf(w)))
}

func ordinaryWords() [][]int64 {
	seed := numbers(51)
	list := append(validWords(), shortWords(5, 2)...)
	for range 3000 {
		n, most := []int64{3, 10, 40, 120}[seed.next(0, 3)], []int64{1, 2, 3, 24}[seed.next(0, 3)]
		list = append(list, seed.word(seed.next(0, n), most), seed.collapsing(n, most))
	}
	return list
}

func isReducedList(w []int64) bool {
	for i := 1; i < len(w); i++ {
		if w[i] == -w[i-1] {
			return false
		}
	}
	return true
}

func TestWordConstants(t *testing.T) {
	limits := []int64{impl.MaxGenerators, impl.MaxWord, impl.MaxRelators, impl.MaxTietze}
	kinds := []int64{impl.TietzeInvert, impl.TietzeRotate, impl.TietzeMultiply, impl.TietzeDrop, impl.TietzeRemove, impl.TietzeAdd}
	if !slices.Equal(limits, []int64{24, 120, 48, 200}) || !slices.Equal(kinds, []int64{1, 2, 3, 4, 5, 6}) {
		t.Fatal(limits, kinds)
	}
}

func TestIsWord(t *testing.T) {
	for _, w := range validWords() {
		if !impl.IsWord(w) {
			t.Error("not accepted:", w)
		}
	}
	for _, w := range invalidWords() {
		if impl.IsWord(w) {
			t.Error("accepted:", w[:min(len(w), 122)])
		}
	}
	for x := int64(-300); x <= 300; x++ {
		if want := x != 0 && x >= -24 && x <= 24; impl.IsWord([]int64{x}) != want || impl.IsWord([]int64{1, x, 1}) != want {
			t.Error(x)
		}
	}
	for n := range 300 {
		if impl.IsWord(repeated(-7, n)) != (n <= 120) {
			t.Error(n)
		}
	}
}

func TestInvalidWordsHaveNoForms(t *testing.T) {
	for _, w := range invalidWords() {
		for _, f := range []func([]int64) []int64{impl.FreeReduce, impl.InvertWord, impl.CyclicReduce} {
			if got := f(w); got != nil {
				t.Error(w[:min(len(w), 122)], got)
			}
		}
	}
}

type wordRow struct{ w, want []int64 }

func checkWords(t *testing.T, f func([]int64) []int64, rows []wordRow) {
	t.Helper()
	for _, row := range rows {
		if got := f(row.w); !slices.Equal(got, row.want) {
			t.Error(row, got)
		}
	}
}

func TestFreeReduceByHand(t *testing.T) {
	checkWords(t, impl.FreeReduce, []wordRow{
		{[]int64{1, 2, -2, 3}, []int64{1, 3}},
		{nil, nil},
		{[]int64{5}, []int64{5}},
		{[]int64{1, -1}, nil},
		{[]int64{-1, 1}, nil},
		{[]int64{1, 1}, []int64{1, 1}},
		{[]int64{1, -2}, []int64{1, -2}},
		{[]int64{1, 2, -2, -1}, nil},
		{[]int64{1, 2, -2, -1, 3}, []int64{3}},
		{[]int64{1, -1, 1}, []int64{1}},
		{[]int64{1, 2, -1, -2}, []int64{1, 2, -1, -2}},
		{[]int64{1, 2, -1}, []int64{1, 2, -1}},
		{[]int64{24, -24, -23, 23, 7}, []int64{7}},
		{slices.Repeat([]int64{24, -24}, 60), nil},
		{append(repeated(3, 60), repeated(-3, 60)...), nil},
		{append(repeated(3, 61), repeated(-3, 59)...), []int64{3, 3}},
		{repeated(3, 120), repeated(3, 120)},
	})
}

// TestFreeReduce compares with the model, which removes pairs in another order.
func TestFreeReduce(t *testing.T) {
	for _, w := range ordinaryWords() {
		got := impl.FreeReduce(w)
		if !isReducedList(got) || !slices.Equal(got, wordOf(reducedText(textOf(w)))) || !slices.Equal(impl.FreeReduce(got), got) {
			t.Fatal(w, got)
		}
	}
}

// TestReducedFormIsUnique inserts pairs anywhere, which the reduction removes.
func TestReducedFormIsUnique(t *testing.T) {
	seed := numbers(52)
	for range 3000 {
		w := seed.word(seed.next(0, 60), 3)
		longer := slices.Clone(w)
		for range seed.next(1, 30) {
			x := seed.sign() * seed.next(1, 3)
			longer = slices.Insert(longer, int(seed.next(0, int64(len(longer)))), x, -x)
		}
		if got, want := impl.FreeReduce(longer), impl.FreeReduce(w); !slices.Equal(got, want) {
			t.Fatal(w, longer, got, want)
		}
	}
}

func TestInvertWord(t *testing.T) {
	checkWords(t, impl.InvertWord, []wordRow{
		{[]int64{1, -2}, []int64{2, -1}},
		{nil, nil},
		{[]int64{24}, []int64{-24}},
		{[]int64{1, -1}, []int64{1, -1}},
		{[]int64{1, 2, 3}, []int64{-3, -2, -1}},
		{[]int64{1, 1, -1, 2}, []int64{-2, 1, -1, -1}},
		{repeated(-24, 120), repeated(24, 120)},
	})
	for _, w := range ordinaryWords() {
		got := impl.InvertWord(w)
		if !slices.Equal(got, negatedBack(w)) || !slices.Equal(impl.InvertWord(got), w) {
			t.Fatal(w, got)
		}
	}
}

// TestWordTimesInverse: the product of a word and its inverse, on either side, is reduced to
// nothing.
func TestWordTimesInverse(t *testing.T) {
	tried := 0
	for _, w := range ordinaryWords() {
		if len(w) > 60 {
			continue
		}
		tried++
		inverse := impl.InvertWord(w)
		for _, p := range [][]int64{slices.Concat(w, inverse), slices.Concat(inverse, w)} {
			if got := impl.FreeReduce(p); len(got) != 0 {
				t.Fatal(w, got)
			}
		}
		if got, want := impl.FreeReduce(inverse), impl.InvertWord(impl.FreeReduce(w)); !slices.Equal(got, want) {
			t.Fatal(w, got, want)
		}
	}
	if tried < 2000 {
		t.Fatal(tried)
	}
}

func TestCyclicReduceByHand(t *testing.T) {
	checkWords(t, impl.CyclicReduce, []wordRow{
		{[]int64{1, 2, -1}, []int64{2}},
		{nil, nil},
		{[]int64{1}, []int64{1}},
		{[]int64{-24}, []int64{-24}},
		{[]int64{1, -1}, nil},
		{[]int64{1, 1}, []int64{1, 1}},
		{[]int64{1, 2, 1}, []int64{1, 2, 1}},
		{[]int64{1, 2, -2, -1}, nil},
		{[]int64{1, 2, 3, -2, -1}, []int64{3}},
		{[]int64{1, 2, 3, 3, -2, -1}, []int64{3, 3}},
		{[]int64{1, 2, -1, -2}, []int64{1, 2, -1, -2}},
		{[]int64{1, 2, 2, -1, 1, -1}, []int64{2, 2}},
		{[]int64{-2, 2, 1, 2, -1}, []int64{2}},
		{[]int64{1, -2, 3, -1}, []int64{-2, 3}},
		{[]int64{1, -1, 2}, []int64{2}},
		{slices.Concat(repeated(3, 59), []int64{5, 6}, repeated(-3, 59)), []int64{5, 6}},
		{slices.Concat(repeated(3, 59), []int64{5}, repeated(-3, 60)), []int64{5, -3}},
		{repeated(3, 120), repeated(3, 120)},
	})
}

// TestCyclicReduce: the reduced form is a conjugate of the cyclically reduced one, by the letters
// that were removed.
func TestCyclicReduce(t *testing.T) {
	shorter := 0
	for _, w := range ordinaryWords() {
		reduced, got := impl.FreeReduce(w), impl.CyclicReduce(w)
		n := len(got)
		if !isReducedList(got) || n > 1 && got[0] == -got[n-1] || (len(reduced)-n)%2 != 0 {
			t.Fatal(w, got)
		}
		outer := reduced[:(len(reduced)-n)/2]
		if !slices.Equal(slices.Concat(outer, got, negatedBack(outer)), reduced) {
			t.Fatal(w, got, reduced)
		}
		if len(outer) > 0 {
			shorter++
		}
	}
	if shorter < 500 {
		t.Fatal(shorter)
	}
}

// isRotation reports whether one list of letters results from the other by rotation.
func isRotation(a []int64, b []int64) bool {
	if len(a) != len(b) {
		return false
	}
	for k := range len(a) + 1 {
		if slices.Equal(slices.Concat(a[k:], a[:k]), b) {
			return true
		}
	}
	return false
}

// TestConjugates: conjugates have cyclically reduced forms of the same length, which are rotations
// of each other.
func TestConjugates(t *testing.T) {
	seed := numbers(53)
	for range 4000 {
		most := seed.next(1, 4)
		w, by := seed.word(seed.next(0, 60), most), seed.word(seed.next(0, 30), most)
		conjugate := slices.Concat(by, w, impl.InvertWord(by))
		a, b := impl.CyclicReduce(w), impl.CyclicReduce(conjugate)
		if len(a) != len(b) || !isRotation(a, b) {
			t.Fatal(w, by, a, b)
		}
	}
	for _, w := range shortWords(4, 2) {
		for _, by := range shortWords(2, 2) {
			conjugate := slices.Concat(by, w, negatedBack(by))
			if a, b := impl.CyclicReduce(w), impl.CyclicReduce(conjugate); !isRotation(a, b) {
				t.Fatal(w, by, a, b)
			}
		}
	}
}

// TestWordArgumentsAreKept overwrites all results, which share no memory with the argument even
// where they are equal to it.
func TestWordArgumentsAreKept(t *testing.T) {
	for _, w := range append(validWords(), []int64{0}, []int64{3, minInt}, repeated(1, 121)) {
		m, check := guarded(t, impl.Matrix{Entries: w})
		impl.IsWord(m.Entries)
		for _, f := range []func([]int64) []int64{impl.FreeReduce, impl.InvertWord, impl.CyclicReduce} {
			overwrite(f(m.Entries))
			check()
		}
	}
}
