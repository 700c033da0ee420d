package tests

import (
	"slices"
	"testing"

	"loop.example/g00870/impl"
)

// An action is modelled by composing whole permutations, and a list of representations by trying all
// tuples of permutations in order. The model knows no limits.

func identityList(n int64) []int64 {
	list := []int64{}
	for x := range n {
		list = append(list, x)
	}
	return list
}

func isPermutationList(n int64, list []int64) bool {
	return slices.Equal(slices.Sorted(slices.Values(list)), identityList(n))
}

// permutationLists counts through all lists of n numbers, in order, and keeps the permutations.
func permutationLists(n int64) [][]int64 {
	lists := [][]int64{{}}
	for range n {
		var longer [][]int64
		for _, list := range lists {
			for x := range n {
				longer = append(longer, append(slices.Clone(list), x))
			}
		}
		lists = longer
	}
	return slices.DeleteFunc(lists, func(list []int64) bool { return !isPermutationList(n, list) })
}

// composedLists returns the permutation that maps by f first, and then by g.
func composedLists(f []int64, g []int64) []int64 {
	list := []int64{}
	for _, y := range f {
		list = append(list, g[y])
	}
	return list
}

func inverseList(f []int64) []int64 {
	list := make([]int64, len(f))
	for x, y := range f {
		list[y] = int64(x)
	}
	return list
}

// actionOf returns the permutation by which a word acts.
func actionOf(n int64, images [][]int64, w []int64) []int64 {
	action := identityList(n)
	for _, letter := range w {
		if letter > 0 {
			action = composedLists(action, images[letter-1])
		} else {
			action = composedLists(action, inverseList(images[-letter-1]))
		}
	}
	return action
}

func areRelatorsTrivial(p impl.Presentation, n int64, images [][]int64) bool {
	one := identityList(n)
	return !slices.ContainsFunc(p.Relators, func(w []int64) bool { return !slices.Equal(actionOf(n, images, w), one) })
}

// tuplesOf returns all tuples of permutations of degree n, in order.
func tuplesOf(n int64, generators int64) [][][]int64 {
	lists := permutationLists(n)
	tuples := [][][]int64{{}}
	for range generators {
		var longer [][][]int64
		for _, tuple := range tuples {
			for _, list := range lists {
				longer = append(longer, append(slices.Clone(tuple), list))
			}
		}
		tuples = longer
	}
	return tuples
}

// representationsOf returns the representations of p of degree n, in order.
func representationsOf(p impl.Presentation, n int64) [][][]int64 {
	return slices.DeleteFunc(tuplesOf(n, p.Generators), func(images [][]int64) bool { return !areRelatorsTrivial(p, n, images) })
}

// setsOf returns the orbits: each number begins in a set of its own, and sets are joined as long as
// a permutation leads from one to another.
func setsOf(n int64, images [][]int64) [][]int64 {
	label := identityList(n)
	for range n {
		for _, f := range images {
			for x, y := range f {
				low := min(label[x], label[y])
				label[x], label[y] = low, low
			}
		}
	}
	var sets [][]int64
	for first := range n {
		var set []int64
		for x := range n {
			if label[x] == first {
				set = append(set, x)
			}
		}
		if set != nil {
			sets = append(sets, set)
		}
	}
	return sets
}

func isTransitiveTuple(n int64, images [][]int64) bool {
	return len(setsOf(n, images)) == 1
}

func transitiveOf(p impl.Presentation, n int64) [][][]int64 {
	return slices.DeleteFunc(representationsOf(p, n), func(images [][]int64) bool { return !isTransitiveTuple(n, images) })
}

func sameLists(a [][]int64, b [][]int64) bool {
	return slices.EqualFunc(a, b, slices.Equal)
}

func compareTuples(a [][]int64, b [][]int64) int {
	return slices.CompareFunc(a, b, slices.Compare)
}

func factorialOf(n int64) int64 {
	product := int64(1)
	for k := int64(2); k <= n; k++ {
		product *= k
	}
	return product
}

// mostGenerators has, for each degree, the number of generators up to which the choices of
// permutations do not exceed MaxSearch: 2^17 = 131072, 6^6 = 46656 and 24^3 = 13824. No power of
// these is exactly MaxSearch.
var mostGenerators = [5]int64{0, 24, 17, 6, 3}

// badDegrees are no degrees.
var badDegrees = []int64{minInt, minInt + 1, -4, -1, 0, 5, 6, 24, 1 << 32, maxInt}

// badPermutations returns lists that are not permutations of degree n.
func badPermutations(n int64) [][]int64 {
	one := identityList(n)
	list := [][]int64{nil, one[1:], one[:n-1], append(slices.Clone(one), n), append(slices.Clone(one), 0), slices.Concat(one, one), identityList(100000), repeated(0, 100000)}
	if n == 1 {
		list = list[3:]
		list = append(list, nil, []int64{1})
	}
	for i := range one {
		for _, x := range []int64{minInt, minInt + 1, -n, -1, n, n + 1, 1 << 32, maxInt} {
			changed := slices.Clone(one)
			changed[i] = x
			list = append(list, changed)
		}
		if n > 1 {
			twice := slices.Clone(one)
			twice[i] = (twice[i] + 1) % n
			list = append(list, twice)
		}
	}
	return list
}

// permutation returns some permutation of degree n.
func (s *numbers) permutation(n int64) []int64 {
	list := identityList(n)
	for i := range list {
		j := s.next(int64(i), n-1)
		list[i], list[j] = list[j], list[i]
	}
	return list
}

func (s *numbers) images(n int64, generators int64) [][]int64 {
	images := [][]int64{}
	for range generators {
		images = append(images, s.permutation(n))
	}
	return images
}

func TestModelOfActions(t *testing.T) {
	for n, want := range []int{1, 1, 2, 6, 24} {
		lists := permutationLists(int64(n))
		if len(lists) != want || !slices.IsSortedFunc(lists, slices.Compare) {
			t.Fatal(n, lists)
		}
		for _, bad := range badPermutations(max(1, int64(n))) {
			if isPermutationList(max(1, int64(n)), bad) {
				t.Fatal(n, bad)
			}
		}
	}
	if !slices.Equal(permutationLists(3)[3], []int64{1, 2, 0}) || len(tuplesOf(3, 2)) != 36 || len(representationsOf(presentationOf(1, "aaa"), 3)) != 3 {
		t.Fatal("the model is wrong")
	}
	if sets := setsOf(4, [][]int64{{3, 1, 2, 0}, {0, 1, 2, 3}, {0, 2, 1, 3}}); !sameLists(sets, [][]int64{{0, 3}, {1, 2}}) {
		t.Fatal(sets)
	}
	for n := int64(1); n <= 4; n++ {
		choices := func(generators int64) int64 {
			product := int64(1)
			for range generators {
				product *= factorialOf(n)
			}
			return product
		}
		if most := mostGenerators[n]; choices(most) > impl.MaxSearch || n > 1 && choices(most+1) <= impl.MaxSearch {
			t.Fatal(n, most)
		}
	}
}
