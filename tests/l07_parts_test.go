package tests

import (
	"slices"
	"testing"

	"loop.example/g00870/impl"
)

// componentsOf lowers the labels of tetrahedra that are glued to the lesser one until nothing changes,
// and numbers the labels in the order in which they occur.
func componentsOf(tri impl.Triangulation) []int64 {
	label := identityList(int64(len(tri.Tets)))
	for range tri.Tets {
		for a, faces := range tri.Tets {
			for _, face := range faces {
				if face.Tet >= 0 {
					low := min(label[a], label[face.Tet])
					label[a], label[face.Tet] = low, low
				}
			}
		}
	}
	var seen, components []int64
	for _, x := range label {
		if !slices.Contains(seen, x) {
			seen = append(seen, x)
		}
		components = append(components, int64(slices.Index(seen, x)))
	}
	return components
}

// pairsOf glues tetrahedra, pair by pair, at the first faces that are free.
func pairsOf(tets int, pairs ...int64) impl.Triangulation {
	tri := unglued(tets)
	for i := 0; i < len(pairs); i += 2 {
		free := freeFaces(tri)
		take := func(tet int64) []int64 {
			at := slices.IndexFunc(free, func(pair []int64) bool { return pair[0] == tet })
			pair := free[at]
			free = slices.Delete(free, at, at+1)
			return pair
		}
		here := take(pairs[i])
		glueFaces(tri, here, take(pairs[i+1]), identityList(4))
	}
	return tri
}

func TestTetComponentsByHand(t *testing.T) {
	rows := []struct {
		tri  impl.Triangulation
		want []int64
	}{
		{unglued(0), nil},
		{unglued(1), []int64{0}},
		{unglued(2), []int64{0, 1}},
		{unglued(8), identityList(8)},
		{pairsOf(1, 0, 0), []int64{0}},
		{pairsOf(2, 0, 1), []int64{0, 0}},
		{pairsOf(2, 0, 0, 1, 1), []int64{0, 1}},
		{pairsOf(3, 0, 2), []int64{0, 1, 0}},
		{pairsOf(3, 1, 2), []int64{0, 1, 1}},
		{pairsOf(4, 0, 3, 1, 2), []int64{0, 1, 1, 0}},
		{pairsOf(5, 2, 4, 1, 3), []int64{0, 1, 2, 1, 2}},
		{pairsOf(8, 7, 1, 1, 6, 6, 2), []int64{0, 1, 1, 2, 3, 4, 1, 1}},
		{pairsOf(8, 0, 7, 7, 1, 1, 6, 6, 2, 2, 5, 5, 3, 3, 4), repeated(0, 8)},
		{pairsOf(8, 7, 6, 6, 5, 5, 4, 3, 2, 2, 1, 1, 0), []int64{0, 0, 0, 0, 1, 1, 1, 1}},
		{pairsOf(8, 4, 5, 4, 6, 4, 7, 4, 3), []int64{0, 1, 2, 3, 3, 3, 3, 3}},
	}
	for _, row := range rows {
		if got := impl.TetComponents(row.tri); !slices.Equal(got, row.want) {
			t.Error(row.tri, got, row.want)
		}
	}
}

func TestTetComponentsOfSamples(t *testing.T) {
	seed := numbers(75)
	list := sampleTriangulations()
	for range 400 {
		tets := seed.next(2, 8)
		list = append(list, seed.triangulation(tets, seed.next(0, tets)))
	}
	for _, tri := range list {
		g, check := guardedTriangulation(t, tri)
		got := impl.TetComponents(g)
		if want := componentsOf(tri); !slices.Equal(got, want) {
			t.Fatal(tri, got, want)
		}
		overwrite(got[:cap(got)])
		check()
		if got := impl.TetComponents(g); !slices.Equal(got, componentsOf(tri)) {
			t.Fatal(tri, got)
		}
	}
	for _, bad := range badTriangulations() {
		if got := impl.TetComponents(bad); got != nil {
			t.Fatal(bad, got)
		}
	}
}

// checkUnion compares each face of a union with the one from which it comes.
func checkUnion(t *testing.T, a impl.Triangulation, b impl.Triangulation) {
	t.Helper()
	got, code := impl.UnionTriangulations(a, b)
	n := len(a.Tets)
	if n+len(b.Tets) > 8 {
		if code != impl.ErrLimit || !isZeroTriangulation(got) {
			t.Fatal(a, b, got, code)
		}
		return
	}
	if code != impl.ErrNone || len(got.Tets) != n+len(b.Tets) || !sameTriangulation(impl.Triangulation{Tets: got.Tets[:n]}, a) {
		t.Fatal(a, b, got, code)
	}
	for i, faces := range b.Tets {
		for f, face := range faces {
			if face.Tet >= 0 {
				face.Tet += int64(n)
			}
			if got.Tets[n+i][f] != face {
				t.Fatal(a, b, got, i, f)
			}
		}
	}
	if !isModelTriangulation(got) || len(freeFaces(got)) != len(freeFaces(a))+len(freeFaces(b)) {
		t.Fatal(a, b, got)
	}
	components, more := componentsOf(a), componentsOf(b)
	for i := range more {
		more[i] += slices.Max(append(components, -1)) + 1
	}
	if all := impl.TetComponents(got); !slices.Equal(all, append(components[:n:n], more...)) {
		t.Fatal(a, b, got, all)
	}
}

func TestUnionOfSamples(t *testing.T) {
	list := irregularTriangulations()
	list = append(list, unglued(0), unglued(1), unglued(4), unglued(8), pairsOf(1, 0, 0))
	limits := 0
	for _, a := range list {
		for _, b := range list {
			checkUnion(t, a, b)
			if len(a.Tets)+len(b.Tets) > 8 {
				limits++
			}
		}
	}
	if limits == 0 || limits == len(list)*len(list) {
		t.Error(limits)
	}
}

func TestUnionWithTheEmptyTriangulation(t *testing.T) {
	for _, tri := range sampleTriangulations() {
		for _, empty := range []impl.Triangulation{{}, {Tets: [][]impl.Face{}}} {
			if got, code := impl.UnionTriangulations(tri, empty); code != impl.ErrNone || !sameTriangulation(got, tri) {
				t.Fatal(tri, got, code)
			}
			if got, code := impl.UnionTriangulations(empty, tri); code != impl.ErrNone || !sameTriangulation(got, tri) {
				t.Fatal(tri, got, code)
			}
		}
	}
}

func TestUnionOfThree(t *testing.T) {
	seed := numbers(76)
	for range 200 {
		parts := []impl.Triangulation{seed.triangulation(seed.next(0, 3), 3), seed.triangulation(seed.next(0, 3), 2), seed.triangulation(seed.next(0, 2), 4)}
		left, _ := impl.UnionTriangulations(parts[0], parts[1])
		left, code := impl.UnionTriangulations(left, parts[2])
		right, _ := impl.UnionTriangulations(parts[1], parts[2])
		right, other := impl.UnionTriangulations(parts[0], right)
		if code != impl.ErrNone || other != impl.ErrNone || !sameTriangulation(left, right) {
			t.Fatal(parts, left, right)
		}
	}
}

func TestUnionCodes(t *testing.T) {
	check := func(a impl.Triangulation, b impl.Triangulation, want int64) {
		t.Helper()
		got, code := impl.UnionTriangulations(a, b)
		if code != want || code != impl.ErrNone && !isZeroTriangulation(got) {
			t.Error(a, b, got, code)
		}
	}
	check(unglued(8), unglued(0), impl.ErrNone)
	check(unglued(0), unglued(8), impl.ErrNone)
	check(unglued(7), unglued(1), impl.ErrNone)
	check(unglued(1), unglued(7), impl.ErrNone)
	check(unglued(8), unglued(1), impl.ErrLimit)
	check(unglued(1), unglued(8), impl.ErrLimit)
	check(unglued(5), unglued(4), impl.ErrLimit)
	check(unglued(8), unglued(8), impl.ErrLimit)
	check(unglued(9), unglued(0), impl.ErrInvalid)
	check(unglued(0), unglued(9), impl.ErrInvalid)
	for _, bad := range badTriangulations() {
		for _, other := range []impl.Triangulation{unglued(0), unglued(1), unglued(8), bad} {
			check(bad, other, impl.ErrInvalid)
			check(other, bad, impl.ErrInvalid)
		}
	}
}

// checkRelabelling follows each vertex of each face, in the old and in the new numbers, and relabels
// back.
func checkRelabelling(t *testing.T, tri impl.Triangulation, tets []int64, perms []int64) impl.Triangulation {
	t.Helper()
	got, code := impl.RelabelTriangulation(tri, tets, perms)
	if code != impl.ErrNone || !isModelTriangulation(got) || len(got.Tets) != len(tri.Tets) {
		t.Fatal(tri, tets, perms, got, code)
	}
	for a, faces := range tri.Tets {
		for f, face := range faces {
			moved := got.Tets[tets[a]][allOfFour[perms[a]][f]]
			if face.Tet < 0 {
				if moved != face {
					t.Fatal(tri, tets, perms, got, a, f)
				}
				continue
			}
			if moved.Tet != tets[face.Tet] {
				t.Fatal(tri, tets, perms, got, a, f)
			}
			for v := range 4 {
				image := allOfFour[moved.Perm][allOfFour[perms[a]][v]]
				if image != allOfFour[perms[face.Tet]][allOfFour[face.Perm][v]] {
					t.Fatal(tri, tets, perms, got, a, f, v)
				}
			}
		}
	}
	backTets := inverseList(tets)
	backPerms := make([]int64, len(perms))
	for i, p := range perms {
		backPerms[tets[i]] = impl.InvertPerm4(p)
	}
	back, code := impl.RelabelTriangulation(got, backTets, backPerms)
	if code != impl.ErrNone || !sameTriangulation(back, tri) {
		t.Fatal("not undone", tri, tets, perms, back, code)
	}
	return got
}

func (s *numbers) perms(n int64) []int64 {
	list := []int64{}
	for range n {
		list = append(list, s.next(0, 23))
	}
	return list
}

func TestRelabelTriangulationByHand(t *testing.T) {
	two := pairsOf(2, 0, 1)
	if text := impl.TriangulationText(two); text != "1:0123 - - -;0:0123 - - -;" {
		t.Fatal(text)
	}
	rows := []struct {
		tets  []int64
		perms []int64
		want  string
	}{
		{[]int64{0, 1}, []int64{0, 0}, "1:0123 - - -;0:0123 - - -;"},
		{[]int64{1, 0}, []int64{0, 0}, "1:0123 - - -;0:0123 - - -;"},
		{[]int64{0, 1}, []int64{6, 0}, "- 1:1023 - -;0:1023 - - -;"},
		{[]int64{1, 0}, []int64{6, 0}, "1:1023 - - -;- 0:1023 - -;"},
		{[]int64{0, 1}, []int64{9, 0}, "- 1:3012 - -;0:1230 - - -;"},
		{[]int64{0, 1}, []int64{0, 18}, "1:3012 - - -;- - - 0:1230;"},
	}
	for _, row := range rows {
		if text := impl.TriangulationText(checkRelabelling(t, two, row.tets, row.perms)); text != row.want {
			t.Error(row, text)
		}
	}
	// Three tetrahedra in a row: tets[i] is the new number of i, and not the old number of the new i.
	row := pairsOf(3, 0, 1, 1, 2)
	moved := checkRelabelling(t, row, []int64{1, 2, 0}, []int64{0, 0, 0})
	if text := impl.TriangulationText(moved); text != "2:1023 - - -;2:0123 - - -;1:0123 0:1023 - -;" {
		t.Error(impl.TriangulationText(row), text)
	}
}

func TestRelabelSamples(t *testing.T) {
	seed := numbers(77)
	for _, tri := range sampleTriangulations() {
		n := int64(len(tri.Tets))
		if got, code := impl.RelabelTriangulation(tri, identityList(n), repeated(0, int(n))); code != impl.ErrNone || !sameTriangulation(got, tri) {
			t.Fatal(tri, got, code)
		}
		for range 6 {
			tets := seed.permutation(n)
			got := checkRelabelling(t, tri, tets, seed.perms(n))
			if len(impl.BoundaryFaces(got)) != len(freeFaces(tri)) || impl.IsClosed(got) != impl.IsClosed(tri) {
				t.Fatal(tri, got)
			}
			before, after := componentsOf(tri), impl.TetComponents(got)
			for i := range n {
				for j := range n {
					if (before[i] == before[j]) != (after[tets[i]] == after[tets[j]]) {
						t.Fatal("other components", tri, got, i, j)
					}
				}
			}
		}
	}
}

// TestRelabelOneInAllWays sees that the 24 numberings of one tetrahedron keep the set of all 145
// triangulations.
func TestRelabelOneInAllWays(t *testing.T) {
	ones := oneTetTriangulations()
	for perm := range int64(24) {
		texts := map[string]bool{}
		for _, tri := range ones {
			texts[modelText(checkRelabelling(t, tri, []int64{0}, []int64{perm}))] = true
		}
		if len(texts) != len(ones) {
			t.Error(perm, len(texts))
		}
	}
}

// TestRelabelTwice has the same result as relabelling by both numberings at once.
func TestRelabelTwice(t *testing.T) {
	seed := numbers(78)
	for range 300 {
		n := seed.next(1, 8)
		tri := seed.triangulation(n, seed.next(0, 2*n))
		tets, more, perms, morePerms := seed.permutation(n), seed.permutation(n), seed.perms(n), seed.perms(n)
		twice := checkRelabelling(t, checkRelabelling(t, tri, tets, perms), more, morePerms)
		both := make([]int64, n)
		for i := range both {
			both[i] = impl.ComposePerm4(perms[i], morePerms[tets[i]])
		}
		if once := checkRelabelling(t, tri, composedLists(tets, more), both); !sameTriangulation(once, twice) {
			t.Fatal(tri, tets, more, perms, morePerms)
		}
	}
}

func TestRelabelCodes(t *testing.T) {
	check := func(tri impl.Triangulation, tets []int64, perms []int64, want int64) {
		t.Helper()
		got, code := impl.RelabelTriangulation(tri, tets, perms)
		if code != want || !isZeroTriangulation(got) {
			t.Fatal(tri, len(tets), len(perms), got, code)
		}
	}
	seed := numbers(79)
	for n := int64(1); n <= 8; n++ {
		tri := seed.triangulation(n, seed.next(0, 2*n))
		one, zeros := identityList(n), repeated(0, int(n))
		for _, bad := range badPermutations(n) {
			check(tri, bad, zeros, impl.ErrRange)
			check(tri, bad, nil, impl.ErrRange)
			check(tri, bad, repeated(24, int(n)), impl.ErrRange)
		}
		for _, bad := range [][]int64{nil, {}, zeros[1:], append(repeated(0, int(n)), 0), repeated(0, 100000)} {
			check(tri, one, bad, impl.ErrRange)
		}
		for i := range n {
			for _, bad := range badPerms {
				perms := seed.perms(n)
				perms[i] = bad
				check(tri, one, perms, impl.ErrRange)
				check(tri, seed.permutation(n), perms, impl.ErrRange)
			}
		}
	}
	check(unglued(0), []int64{0}, nil, impl.ErrRange)
	check(unglued(0), nil, []int64{0}, impl.ErrRange)
	check(unglued(0), []int64{0}, []int64{0}, impl.ErrRange)
	for _, bad := range badTriangulations() {
		n := int64(min(len(bad.Tets), 9))
		check(bad, identityList(n), repeated(0, int(n)), impl.ErrInvalid)
		check(bad, nil, nil, impl.ErrInvalid)
		check(bad, []int64{-1}, []int64{24}, impl.ErrInvalid)
		check(bad, identityList(n), repeated(24, int(n)), impl.ErrInvalid)
	}
}

func TestRelabelKeepsItsLists(t *testing.T) {
	seed := numbers(80)
	for n := int64(0); n <= 8; n++ {
		tri := seed.triangulation(n, 2*n)
		for _, last := range []int64{0, 23, 24} {
			tets, checkTets := guarded(t, impl.Matrix{Entries: seed.permutation(n)})
			perms, checkPerms := guarded(t, impl.Matrix{Entries: append(seed.perms(max(n, 1)-1), last)[:n]})
			impl.RelabelTriangulation(tri, tets.Entries, perms.Entries)
			checkTets()
			checkPerms()
		}
	}
}
