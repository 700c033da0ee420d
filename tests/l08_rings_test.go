package tests

import (
	"slices"
	"testing"

	"loop.example/g00870/impl"
)

// checkEdgeRing compares a ring, or the code where there is none, with the model.
func checkEdgeRing(t *testing.T, tri impl.Triangulation, class int64) []impl.Corner {
	t.Helper()
	got, code := impl.EdgeRing(tri, class)
	reversed := reversedClasses(tri)
	wantCode := int64(impl.ErrNone)
	switch {
	case class < 0 || class >= int64(len(reversed)):
		wantCode = impl.ErrRange
	case reversed[class]:
		wantCode = impl.ErrState
	}
	var want []impl.Corner
	if wantCode == impl.ErrNone {
		want = ringOf(tri, class)
	}
	if code != wantCode || !slices.Equal(got, want) {
		t.Fatal(tri, class, got, code, want, wantCode)
	}
	return got
}

func cornersBy(tets []int64, images ...[]int64) []impl.Corner {
	var corners []impl.Corner
	for i, tet := range tets {
		corners = append(corners, impl.Corner{Tet: tet, Perm: permWith(images[i])})
	}
	return corners
}

func TestRingsByHand(t *testing.T) {
	rows := []struct {
		text  string
		class int64
		want  []impl.Corner
	}{
		{"- - - -;", 0, cornersBy([]int64{0}, []int64{0, 1, 2, 3})},
		{"- - - -;", 1, cornersBy([]int64{0}, []int64{0, 2, 1, 3})},
		{"- - - -;", 4, cornersBy([]int64{0}, []int64{1, 3, 0, 2})},
		{"- - - -;", 5, cornersBy([]int64{0}, []int64{2, 3, 0, 1})},
		{"- - - -;- - - -;", 11, cornersBy([]int64{1}, []int64{2, 3, 0, 1})},
		// The ring begins at a boundary face, on whichever side of the edge it is.
		{"1:0123 - - -;0:0123 - - -;", 5, cornersBy([]int64{0, 1}, []int64{2, 3, 0, 1}, []int64{2, 3, 1, 0})},
		{"1:0123 - - -;0:0123 - - -;", 3, cornersBy([]int64{0, 1}, []int64{1, 2, 0, 3}, []int64{1, 2, 3, 0})},
		{"1:0123 - - -;0:0123 - - -;", 0, cornersBy([]int64{0}, []int64{0, 1, 2, 3})},
		{"- - - 1:0123;- - - 0:0123;", 0, cornersBy([]int64{0, 1}, []int64{0, 1, 3, 2}, []int64{0, 1, 2, 3})},
		{"- - 1:0123 -;- - 0:0123 -;", 0, cornersBy([]int64{0, 1}, []int64{0, 1, 2, 3}, []int64{0, 1, 3, 2})},
		// The first tetrahedron has the first edge of the class, but no boundary face at it.
		{"- - 1:0123 2:0123;- - 0:0123 -;- - - 0:0123;", 0, cornersBy([]int64{1, 0, 2}, []int64{0, 1, 2, 3}, []int64{0, 1, 3, 2}, []int64{0, 1, 2, 3})},
		{"0:1203 0:2013 - -;", 0, cornersBy([]int64{0}, []int64{0, 1, 2, 3})},
		{"0:1203 0:2013 - -;", 1, cornersBy([]int64{0, 0}, []int64{0, 2, 1, 3}, []int64{2, 1, 3, 0})},
		{"0:1203 0:2013 - -;", 2, cornersBy([]int64{0, 0, 0}, []int64{0, 3, 1, 2}, []int64{2, 3, 1, 0}, []int64{1, 3, 2, 0})},
		// A sphere of three dimensions.
		{"0:1023 0:1023 0:0132 0:0132;", 0, cornersBy([]int64{0}, []int64{0, 1, 2, 3})},
		{"0:1023 0:1023 0:0132 0:0132;", 1, cornersBy([]int64{0, 0, 0, 0}, []int64{0, 2, 1, 3}, []int64{1, 2, 3, 0}, []int64{1, 3, 0, 2}, []int64{0, 3, 2, 1})},
		{"0:1023 0:1023 0:0132 0:0132;", 2, cornersBy([]int64{0}, []int64{2, 3, 0, 1})},
		// The double of a tetrahedron, also with other numbers.
		{"1:0123 1:0123 1:0123 1:0123;0:0123 0:0123 0:0123 0:0123;", 1, cornersBy([]int64{0, 1}, []int64{0, 2, 1, 3}, []int64{0, 2, 3, 1})},
		{"1:1032 1:1032 1:1032 1:1032;0:1032 0:1032 0:1032 0:1032;", 0, cornersBy([]int64{0, 1}, []int64{0, 1, 2, 3}, []int64{1, 0, 2, 3})},
	}
	for _, row := range rows {
		tri, ok := impl.ReadTriangulation(row.text)
		if !ok {
			t.Fatal(row.text)
		}
		if got := checkEdgeRing(t, tri, row.class); !slices.Equal(got, row.want) {
			t.Error(row.text, row.class, got, row.want)
		}
	}
}

// checkBounds sees where a ring begins and ends.
func checkBounds(t *testing.T, tri impl.Triangulation, class int64, ring []impl.Corner) {
	t.Helper()
	_, edges, _ := impl.BoundaryClasses(tri)
	first, last := ring[0], ring[len(ring)-1]
	if !slices.Contains(edges, class) {
		if first != cornerAtFirstEdge(tri, class) || cornerAfter(tri, last) != first {
			t.Fatal(tri, class, ring)
		}
		return
	}
	if first != firstBoundaryCorner(tri, class) || !isAtBoundary(tri, first, 3) || !isAtBoundary(tri, last, 2) {
		t.Fatal(tri, class, ring)
	}
	for _, c := range ring[:len(ring)-1] {
		if isAtBoundary(tri, c, 2) {
			t.Fatal(tri, class, ring)
		}
	}
}

// checkSteps sees that each corner is the one after the previous one, and that none comes twice.
func checkSteps(t *testing.T, tri impl.Triangulation, ring []impl.Corner) {
	t.Helper()
	for i, c := range ring {
		if slices.Contains(ring[:i], c) || i > 0 && c != cornerAfter(tri, ring[i-1]) {
			t.Fatal(tri, ring, i)
		}
	}
}

// checkRings checks the rings of all classes, and returns their edges: 6 times the tetrahedron, plus
// the number.
func checkRings(t *testing.T, tri impl.Triangulation) []int64 {
	t.Helper()
	s, _ := impl.SkeletonOf(tri)
	counts := impl.ClassCounts(tri)
	signs, _ := impl.EdgeSigns(tri)
	var edges []int64
	for class := range counts[1] {
		ring := checkEdgeRing(t, tri, class)
		if impl.IsReversedEdge(tri, class) {
			continue
		}
		checkBounds(t, tri, class, ring)
		checkSteps(t, tri, ring)
		direction := int64(0)
		for i, c := range ring {
			e := edgeOf(c)
			edges = append(edges, 6*c.Tet+e)
			sign := signs[c.Tet][e]
			if images := imagesOf(c); images[0] > images[1] {
				sign = -sign
			}
			if i == 0 {
				direction = sign
			}
			if s.Edges[c.Tet][e] != class || sign != direction {
				t.Fatal(tri, class, ring, i)
			}
		}
	}
	for _, bad := range badClassesFor(int(counts[1])) {
		checkEdgeRing(t, tri, bad)
	}
	return edges
}

// TestRingsOfSamples sees that the rings contain each edge once whose class is not reversed.
func TestRingsOfSamples(t *testing.T) {
	for _, tri := range skeletonSamples() {
		var want []int64
		reversed := reversedClasses(tri)
		classes, _ := classesIn(tri, edgeCells)
		for place, class := range slices.Concat(classes...) {
			if !reversed[class] {
				want = append(want, int64(place))
			}
		}
		if got := slices.Sorted(slices.Values(checkRings(t, tri))); !slices.Equal(got, want) {
			t.Fatal(tri, got, want)
		}
	}
}

func TestRingCodes(t *testing.T) {
	check := func(tri impl.Triangulation, class int64, want int64) {
		t.Helper()
		if ring, code := impl.EdgeRing(tri, class); code != want || len(ring) != 0 {
			t.Fatal(tri, class, ring, code)
		}
	}
	reversed, _ := impl.ReadTriangulation("- - 0:1032 0:1032;")
	check(reversed, 0, impl.ErrState)
	for _, bad := range badClassesFor(4) {
		check(reversed, bad, impl.ErrRange)
	}
	for _, empty := range []impl.Triangulation{{}, {Tets: [][]impl.Face{}}} {
		for _, bad := range badClassesFor(0) {
			check(empty, bad, impl.ErrRange)
		}
	}
	for _, bad := range badTriangulations() {
		for _, class := range append(badClassesFor(6), 0, 1, 5) {
			check(bad, class, impl.ErrInvalid)
		}
	}
	// The class 0 is reversed in the first tetrahedron, and the other one is not valid.
	half := unglued(2)
	glueModel(half, 0, 2, 0, 7)
	check(half, 0, impl.ErrState)
	half.Tets[1][3].Perm = 1
	check(half, 0, impl.ErrInvalid)
	check(half, 1, impl.ErrInvalid)
	check(half, 100, impl.ErrInvalid)
}
