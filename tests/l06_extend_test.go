package tests

import (
	"slices"
	"testing"

	"loop.example/g00870/impl"
)

// extensionOf tries all permutations in the order of their indices.
func extensionOf(from []int64, to []int64) (int64, bool) {
	if len(from) != len(to) {
		return 0, false
	}
	isOther := func(k int64) bool { return k < 0 || k > 3 }
	if slices.ContainsFunc(from, isOther) || slices.ContainsFunc(to, isOther) {
		return 0, false
	}
	for p, images := range allOfFour {
		if slices.EqualFunc(from, to, func(k int64, image int64) bool { return images[k] == image }) {
			return int64(p), true
		}
	}
	return 0, false
}

// allOfFour is made once, since the tests ask for very many extensions.
var allOfFour = permutationLists(4)

// checkExtension compares with the model, and returns whether there is an extension.
func checkExtension(t *testing.T, from []int64, to []int64) bool {
	t.Helper()
	want, wantOk := extensionOf(from, to)
	got, ok := impl.ExtendPerm4(from, to)
	if got != want || ok != wantOk {
		t.Fatal(len(from), len(to), from[:min(len(from), 20)], to[:min(len(to), 20)], got, ok, want, wantOk)
	}
	return ok
}

func checkNoExtension(t *testing.T, from []int64, to []int64) {
	t.Helper()
	if p, ok := impl.ExtendPerm4(from, to); ok || p != 0 {
		t.Error(len(from), len(to), from[:min(len(from), 20)], to[:min(len(to), 20)], p, ok)
	}
}

func TestExtendPerm4ByHand(t *testing.T) {
	rows := []struct{ from, to, want []int64 }{
		{nil, nil, []int64{0, 1, 2, 3}},
		{[]int64{}, nil, []int64{0, 1, 2, 3}},
		{nil, []int64{}, []int64{0, 1, 2, 3}},
		{[]int64{}, []int64{}, []int64{0, 1, 2, 3}},
		{[]int64{2}, []int64{2}, []int64{0, 1, 2, 3}},
		{[]int64{0}, []int64{3}, []int64{3, 0, 1, 2}},
		{[]int64{3}, []int64{0}, []int64{1, 2, 3, 0}},
		{[]int64{2}, []int64{0}, []int64{1, 2, 0, 3}},
		{[]int64{2}, []int64{1}, []int64{0, 2, 1, 3}},
		{[]int64{2}, []int64{3}, []int64{0, 1, 3, 2}},
		{[]int64{0, 1}, []int64{2, 3}, []int64{2, 3, 0, 1}},
		{[]int64{1, 0}, []int64{3, 2}, []int64{2, 3, 0, 1}},
		{[]int64{1, 0}, []int64{2, 3}, []int64{3, 2, 0, 1}},
		{[]int64{3, 1}, []int64{0, 3}, []int64{1, 3, 2, 0}},
		{[]int64{0, 1, 2}, []int64{3, 2, 1}, []int64{3, 2, 1, 0}},
		{[]int64{3, 2, 1, 0}, []int64{0, 1, 2, 3}, []int64{3, 2, 1, 0}},
		{[]int64{0, 1, 2, 3}, []int64{1, 2, 3, 0}, []int64{1, 2, 3, 0}},
		{[]int64{1, 1}, []int64{2, 2}, []int64{0, 2, 1, 3}},
		{[]int64{1, 1, 1, 1, 1}, []int64{2, 2, 2, 2, 2}, []int64{0, 2, 1, 3}},
		{[]int64{0, 1, 0, 1, 0, 1}, []int64{2, 3, 2, 3, 2, 3}, []int64{2, 3, 0, 1}},
		{[]int64{0, 1, 2, 3, 3, 2, 1, 0}, []int64{1, 2, 3, 0, 0, 3, 2, 1}, []int64{1, 2, 3, 0}},
	}
	for _, row := range rows {
		if p, ok := impl.ExtendPerm4(row.from, row.to); !ok || !slices.Equal(impl.Perm4(p), row.want) {
			t.Error(row, p, ok)
		}
	}
}

func TestNoExtensionByHand(t *testing.T) {
	rows := []struct{ from, to []int64 }{
		// Elements are repeated on one side only.
		{[]int64{0, 1}, []int64{2, 2}},
		{[]int64{0, 0}, []int64{1, 2}},
		{[]int64{0, 1, 2, 3}, []int64{0, 1, 2, 0}},
		{[]int64{0, 1, 2, 0}, []int64{0, 1, 2, 3}},
		// Images contradict each other, although the same elements are repeated on both sides.
		{[]int64{0, 0, 1}, []int64{1, 2, 2}},
		{[]int64{0, 0, 1, 1}, []int64{0, 1, 0, 1}},
		{[]int64{0, 1, 2, 3, 0}, []int64{0, 1, 2, 3, 1}},
		{[]int64{0, 1, 2, 3, 3}, []int64{3, 2, 1, 0, 3}},
		// The lengths differ.
		{nil, []int64{0}},
		{[]int64{0}, nil},
		{[]int64{0, 1}, []int64{0}},
		{[]int64{0}, []int64{0, 1}},
		{[]int64{0, 1, 2, 3}, []int64{0, 1, 2}},
		{[]int64{0, 0}, []int64{0}},
		{[]int64{0}, []int64{0, 0}},
		// Elements are no numbers from 0 to 3, also after an end that does not match.
		{[]int64{4}, []int64{4}},
		{[]int64{-1}, []int64{-1}},
		{[]int64{4}, []int64{0}},
		{[]int64{0}, []int64{4}},
		{[]int64{0, 0, 4}, []int64{0, 1, 4}},
		{[]int64{0, 1, 2, 3, 4}, []int64{0, 1, 2, 3, 4}},
		{[]int64{0, 1, minInt}, []int64{0, 1}},
		{[]int64{maxInt}, []int64{minInt}},
	}
	for _, row := range rows {
		checkNoExtension(t, row.from, row.to)
	}
}

// TestExtendPerm4OfAllLists sees all pairs of lists of 0 to 4 numbers, of the same length or not.
func TestExtendPerm4OfAllLists(t *testing.T) {
	var lists [][]int64
	for n := range 5 {
		lists = append(lists, listsOf(n, 0, 3)...)
	}
	count := 0
	for _, from := range lists {
		for _, to := range lists {
			if checkExtension(t, from, to) {
				count++
			}
		}
	}
	// For each length, the products of the number of lists with 1, 2, .. different elements and of the
	// number of lists to which these can be mapped.
	if want := 1 + 4*4 + (4*4 + 12*12) + (4*4 + 36*12 + 24*24) + (4*4 + 84*12 + 144*24 + 24*24); count != want {
		t.Error(count, want)
	}
}

// TestExtendedPermIsTheSmallest finds, for each permutation and each set of numbers, the smallest
// permutation that agrees with it there.
func TestExtendedPermIsTheSmallest(t *testing.T) {
	for p := range int64(24) {
		for set := range 16 {
			var from, to []int64
			for k := range int64(4) {
				if set>>k&1 == 1 {
					from, to = append(from, k), append(to, impl.ApplyPerm4(p, k))
				}
			}
			got, ok := impl.ExtendPerm4(from, to)
			if !ok || got > p || got < 0 {
				t.Fatal(p, from, to, got, ok)
			}
			for q := range got + 1 {
				agrees := true
				for i, k := range from {
					agrees = agrees && impl.ApplyPerm4(q, k) == to[i]
				}
				if agrees != (q == got) {
					t.Fatal(p, from, to, got, q)
				}
			}
		}
	}
}

func TestExtendPerm4OfInvalidElements(t *testing.T) {
	elements := append([]int64{0, 3}, badVertices...)
	for _, x := range elements {
		for _, y := range elements {
			checkExtension(t, []int64{x}, []int64{y})
			for _, z := range elements {
				checkExtension(t, []int64{x, y}, []int64{z, 1})
				checkExtension(t, []int64{1, x}, []int64{y, z})
				checkExtension(t, []int64{x, 2, y}, []int64{z, 2})
				checkExtension(t, []int64{x}, []int64{z, 2, y})
			}
		}
	}
	for _, images := range allOfFour {
		for i := range 4 {
			for _, bad := range badVertices {
				from, to := identityList(4), slices.Clone(images)
				from[i] = bad
				checkNoExtension(t, from, to)
				to[i] = bad
				checkNoExtension(t, from, to)
				from[i] = int64(i)
				checkNoExtension(t, from, to)
			}
			for _, cut := range []int64{1 << 8, 1 << 16, 1 << 32, minInt, -1 << 8} {
				changed := slices.Clone(images)
				changed[i] += cut
				checkNoExtension(t, identityList(4), changed)
				checkNoExtension(t, changed, identityList(4))
			}
		}
	}
}

// mappedList returns the images of numbers under the permutation p in the model.
func mappedList(p int64, from []int64) []int64 {
	to := []int64{}
	for _, k := range from {
		to = append(to, allOfFour[p][k])
	}
	return to
}

// TestExtendPerm4OfRepetitions has lists of more than four numbers, whose repetitions agree, or
// agree but for one element.
func TestExtendPerm4OfRepetitions(t *testing.T) {
	seed, yes, no := numbers(61), 0, 0
	for p := range int64(24) {
		for n := 5; n <= 14; n++ {
			for range 10 {
				most, from := seed.next(0, 3), []int64{}
				for range n {
					from = append(from, seed.next(0, most))
				}
				to := mappedList(p, from)
				if !checkExtension(t, from, to) {
					t.Fatal(p, from, to)
				}
				to[seed.next(0, int64(n)-1)] = seed.next(-1, 4)
				if checkExtension(t, from, to) {
					yes++
				} else {
					no++
				}
				checkNoExtension(t, from, to[1:])
				checkNoExtension(t, from[1:], to)
			}
		}
	}
	if yes < 100 || no < 100 {
		t.Error(yes, no)
	}
}

func TestExtendPerm4OfLongLists(t *testing.T) {
	const n = 1000000
	for p := range int64(24) {
		from := slices.Repeat([]int64{3, 0, 2, 1}, n/4)
		to := mappedList(p, from)
		if got, ok := impl.ExtendPerm4(from, to); !ok || got != p {
			t.Fatal(p, got, ok)
		}
		checkNoExtension(t, from, to[:n-1])
		checkNoExtension(t, from[:n-1], to)
		last := to[n-1]
		for _, x := range []int64{(last + 1) % 4, -1, 4, minInt, maxInt} {
			to[n-1] = x
			checkNoExtension(t, from, to)
		}
		to[n-1] = last
		for _, x := range []int64{0, 2, 3, -1, 4, minInt, maxInt} {
			from[n-1] = x
			checkNoExtension(t, from, to)
		}
	}
	if got, ok := impl.ExtendPerm4(repeated(2, n), repeated(0, n)); !ok || got != 8 {
		t.Error(got, ok)
	}
	checkNoExtension(t, repeated(4, n), repeated(4, n))
	checkNoExtension(t, nil, repeated(0, n))
	checkNoExtension(t, repeated(0, n), nil)
}

func TestExtendPerm4KeepsItsArguments(t *testing.T) {
	lists := [][]int64{nil, {0}, {4}, {3, 1}, {1, 1}, {3, 1, 2}, {3, 2, 1, 0}, {0, 1, 2, 3, 3, 2}}
	for _, from := range lists {
		for _, to := range lists {
			a, checkFrom := guarded(t, impl.Matrix{Entries: from})
			b, checkTo := guarded(t, impl.Matrix{Entries: to})
			checkExtension(t, a.Entries, b.Entries)
			checkExtension(t, a.Entries, b.Entries)
			checkFrom()
			checkTo()
		}
	}
}
