package tests

import (
	"slices"
	"testing"

	"loop.example/g00870/impl"
)

func TestEdgesByHand(t *testing.T) {
	for e, ends := range [][]int64{{0, 1}, {0, 2}, {0, 3}, {1, 2}, {1, 3}, {2, 3}} {
		if a, b := impl.EdgeEnds(int64(e)); a != ends[0] || b != ends[1] {
			t.Error(e, a, b)
		}
		if x, y := impl.EdgeBetween(ends[0], ends[1]), impl.EdgeBetween(ends[1], ends[0]); x != int64(e) || y != int64(e) {
			t.Error(ends, x, y)
		}
	}
}

// badEdges are no numbers of edges; some of them would be if their upper bits were cut off.
var badEdges = []int64{minInt, minInt + 1, -1 << 32, -256, -6, -2, -1, 6, 7, 8, 23, 255, 256, 261, 1 << 16, 1<<32 + 5, maxInt - 1, maxInt}

func TestEdgesThatDoNotExist(t *testing.T) {
	for _, e := range badEdges {
		if a, b := impl.EdgeEnds(e); a != -1 || b != -1 {
			t.Error(e, a, b)
		}
	}
	for v := range int64(4) {
		if e := impl.EdgeBetween(v, v); e != -1 {
			t.Error(v, e)
		}
		for _, bad := range badVertices {
			if x, y := impl.EdgeBetween(v, bad), impl.EdgeBetween(bad, v); x != -1 || y != -1 {
				t.Error(v, bad, x, y)
			}
		}
	}
	for _, a := range badVertices {
		for _, b := range badVertices {
			if e := impl.EdgeBetween(a, b); e != -1 {
				t.Error(a, b, e)
			}
		}
	}
}

func sameSkeleton(a impl.Skeleton, b impl.Skeleton) bool {
	return sameLists(a.Vertices, b.Vertices) && sameLists(a.Edges, b.Edges) && sameLists(a.Faces, b.Faces)
}

func isZeroSkeleton(s impl.Skeleton) bool {
	return len(s.Vertices) == 0 && len(s.Edges) == 0 && len(s.Faces) == 0
}

func alternatingSum(counts []int64) int64 {
	return counts[0] - counts[1] + counts[2] - counts[3]
}

// badClassesFor are no numbers of n classes; some of them would be if their upper bits were cut off.
func badClassesFor(n int) []int64 {
	return []int64{minInt, minInt + 1, -1 << 32, -1<<32 + 1, -256, -48, -2, -1, int64(n), int64(n) + 1, 48, 49, 256, 1 << 16, 1 << 32, 1<<32 + 1, maxInt - 1, maxInt}
}

// checkSkeleton compares with the model what is said about classes.
func checkSkeleton(t *testing.T, tri impl.Triangulation) impl.Skeleton {
	t.Helper()
	var want impl.Skeleton
	var vertexOrbits, edgeOrbits, faceOrbits [][]simplex
	want.Vertices, vertexOrbits = classesIn(tri, vertexCells)
	want.Edges, edgeOrbits = classesIn(tri, edgeCells)
	want.Faces, faceOrbits = classesIn(tri, faceCells)
	got, code := impl.SkeletonOf(tri)
	if code != impl.ErrNone || !sameSkeleton(got, want) {
		t.Fatal("SkeletonOf", tri, got, code, want)
	}
	wantCounts := []int64{int64(len(vertexOrbits)), int64(len(edgeOrbits)), int64(len(faceOrbits)), int64(len(tri.Tets))}
	if counts := impl.ClassCounts(tri); !slices.Equal(counts, wantCounts) {
		t.Fatal("ClassCounts", tri, counts, wantCounts)
	}
	if euler, code := impl.EulerOf(tri); code != impl.ErrNone || euler != alternatingSum(wantCounts) {
		t.Fatal("EulerOf", tri, euler, code, wantCounts)
	}
	if signs, code := impl.EdgeSigns(tri); code != impl.ErrNone || !sameLists(signs, signsOf(tri)) {
		t.Fatal("EdgeSigns", tri, signs, code, signsOf(tri))
	}
	for class, reversed := range reversedClasses(tri) {
		if impl.IsReversedEdge(tri, int64(class)) != reversed {
			t.Fatal("IsReversedEdge", tri, class, reversed)
		}
	}
	for _, bad := range badClassesFor(len(edgeOrbits)) {
		if impl.IsReversedEdge(tri, bad) {
			t.Fatal("IsReversedEdge", tri, bad)
		}
	}
	vertices, edges, faces := impl.BoundaryClasses(tri)
	if !slices.Equal(vertices, boundaryIn(tri, vertexCells)) || !slices.Equal(edges, boundaryIn(tri, edgeCells)) || !slices.Equal(faces, boundaryIn(tri, faceCells)) {
		t.Fatal("BoundaryClasses", tri, vertices, edges, faces)
	}
	return got
}

// skeletonRow has what is written down by hand.
type skeletonRow struct {
	text                   string
	vertices, edges, faces [][]int64
	signs                  [][]int64
	boundary               [3][]int64
	euler                  int64
}

func (row skeletonRow) check(t *testing.T) {
	t.Helper()
	tri, ok := impl.ReadTriangulation(row.text)
	if !ok {
		t.Fatal(row.text)
	}
	checkSkeleton(t, tri)
	want := impl.Skeleton{Vertices: row.vertices, Edges: row.edges, Faces: row.faces}
	if got, code := impl.SkeletonOf(tri); code != impl.ErrNone || !sameSkeleton(got, want) {
		t.Error(row.text, got, code)
	}
	if signs, code := impl.EdgeSigns(tri); code != impl.ErrNone || !sameLists(signs, row.signs) {
		t.Error(row.text, signs, code)
	}
	if euler, code := impl.EulerOf(tri); code != impl.ErrNone || euler != row.euler {
		t.Error(row.text, euler, code)
	}
	vertices, edges, faces := impl.BoundaryClasses(tri)
	if !slices.Equal(vertices, row.boundary[0]) || !slices.Equal(edges, row.boundary[1]) || !slices.Equal(faces, row.boundary[2]) {
		t.Error(row.text, vertices, edges, faces)
	}
}

func TestSkeletonsByHand(t *testing.T) {
	agreeing := repeated(1, 6)
	rows := []skeletonRow{
		{text: ""},
		{
			text:     "- - - -;",
			vertices: [][]int64{{0, 1, 2, 3}}, edges: [][]int64{{0, 1, 2, 3, 4, 5}}, faces: [][]int64{{0, 1, 2, 3}},
			signs: [][]int64{agreeing}, euler: 1,
			boundary: [3][]int64{{0, 1, 2, 3}, {0, 1, 2, 3, 4, 5}, {0, 1, 2, 3}},
		},
		{
			text:     "- - - -;- - - -;",
			vertices: [][]int64{{0, 1, 2, 3}, {4, 5, 6, 7}}, edges: [][]int64{{0, 1, 2, 3, 4, 5}, {6, 7, 8, 9, 10, 11}}, faces: [][]int64{{0, 1, 2, 3}, {4, 5, 6, 7}},
			signs: [][]int64{agreeing, agreeing}, euler: 2,
			boundary: [3][]int64{identityList(8), identityList(12), identityList(8)},
		},
		{ // The edges 01 and 02 of the second tetrahedron are 31 and 32 of the first one.
			text:     "1:3120 - - -;- - - 0:3120;",
			vertices: [][]int64{{0, 1, 2, 3}, {3, 1, 2, 4}}, edges: [][]int64{{0, 1, 2, 3, 4, 5}, {4, 5, 6, 3, 7, 8}}, faces: [][]int64{{0, 1, 2, 3}, {4, 5, 6, 0}},
			signs: [][]int64{agreeing, {-1, -1, 1, 1, 1, 1}}, euler: 1,
			boundary: [3][]int64{identityList(5), identityList(9), identityList(7)[1:]},
		},
		{ // The edge 12 is identified with 20, 13 with 23, and 23 with 03.
			text:     "0:1203 0:2013 - -;",
			vertices: [][]int64{{0, 0, 0, 1}}, edges: [][]int64{{0, 1, 2, 1, 2, 2}}, faces: [][]int64{{0, 0, 1, 2}},
			signs: [][]int64{{1, 1, 1, -1, 1, 1}}, euler: 1,
			boundary: [3][]int64{{0, 1}, {0, 1, 2}, {1, 2}},
		},
		{ // The edge 01 is reversed, and in no boundary face.
			text:     "- - 0:1032 0:1032;",
			vertices: [][]int64{{0, 0, 1, 1}}, edges: [][]int64{{0, 1, 2, 2, 1, 3}}, faces: [][]int64{{0, 1, 2, 2}},
			signs: [][]int64{{0, 1, 1, 1, 1, 1}}, euler: 0,
			boundary: [3][]int64{{0, 1}, {1, 2, 3}, {0, 1}},
		},
		{ // A sphere of three dimensions.
			text:     "0:1023 0:1023 0:0132 0:0132;",
			vertices: [][]int64{{0, 0, 1, 1}}, edges: [][]int64{{0, 1, 1, 1, 1, 2}}, faces: [][]int64{{0, 0, 1, 1}},
			signs: [][]int64{agreeing}, euler: 0,
		},
		{ // The double of a tetrahedron.
			text:     "1:0123 1:0123 1:0123 1:0123;0:0123 0:0123 0:0123 0:0123;",
			vertices: [][]int64{{0, 1, 2, 3}, {0, 1, 2, 3}}, edges: [][]int64{{0, 1, 2, 3, 4, 5}, {0, 1, 2, 3, 4, 5}}, faces: [][]int64{{0, 1, 2, 3}, {0, 1, 2, 3}},
			signs: [][]int64{agreeing, agreeing}, euler: 0,
		},
		{ // The vertices of the second tetrahedron are 1, 0, 3, 2 of the first one.
			text:     "1:1032 1:1032 1:1032 1:1032;0:1032 0:1032 0:1032 0:1032;",
			vertices: [][]int64{{0, 1, 2, 3}, {1, 0, 3, 2}}, edges: [][]int64{{0, 1, 2, 3, 4, 5}, {0, 4, 3, 2, 1, 5}}, faces: [][]int64{{0, 1, 2, 3}, {1, 0, 3, 2}},
			signs: [][]int64{agreeing, {-1, 1, 1, 1, 1, -1}}, euler: 0,
		},
	}
	for _, row := range rows {
		row.check(t)
	}
}

func TestEmptySkeleton(t *testing.T) {
	for _, empty := range []impl.Triangulation{{}, {Tets: [][]impl.Face{}}} {
		if s, code := impl.SkeletonOf(empty); code != impl.ErrNone || !isZeroSkeleton(s) {
			t.Error(s, code)
		}
		if counts := impl.ClassCounts(empty); !slices.Equal(counts, repeated(0, 4)) {
			t.Error(counts)
		}
		if euler, code := impl.EulerOf(empty); code != impl.ErrNone || euler != 0 {
			t.Error(euler, code)
		}
		if signs, code := impl.EdgeSigns(empty); code != impl.ErrNone || len(signs) != 0 {
			t.Error(signs, code)
		}
		if v, e, f := impl.BoundaryClasses(empty); len(v)+len(e)+len(f) != 0 {
			t.Error(v, e, f)
		}
		for _, class := range badClassesFor(0) {
			if impl.IsReversedEdge(empty, class) {
				t.Error(class)
			}
		}
	}
}

func TestSkeletonsOfSamples(t *testing.T) {
	for _, tri := range skeletonSamples() {
		checkSkeleton(t, tri)
	}
}

// checkFirstElements sees that numbers are used in order, each new one being the next.
func checkFirstElements(t *testing.T, lists [][]int64, count int64) {
	t.Helper()
	next := int64(0)
	for _, class := range slices.Concat(lists...) {
		if class < 0 || class > next {
			t.Fatal(lists)
		}
		if class == next {
			next++
		}
	}
	if next != count {
		t.Fatal(lists, count)
	}
}

func TestClassesInOrder(t *testing.T) {
	for _, tri := range skeletonSamples() {
		s, _ := impl.SkeletonOf(tri)
		counts := impl.ClassCounts(tri)
		checkFirstElements(t, s.Vertices, counts[0])
		checkFirstElements(t, s.Edges, counts[1])
		checkFirstElements(t, s.Faces, counts[2])
		if counts[2] != 4*counts[3]-int64(4*len(tri.Tets)-len(freeFaces(tri)))/2 {
			t.Fatal(tri, counts)
		}
	}
}

// checkEdgeGluing compares the signs of an edge on both sides of a glued face.
func checkEdgeGluing(t *testing.T, tri impl.Triangulation, signs [][]int64, tet int, e int, f int64) {
	t.Helper()
	face := tri.Tets[tet][f]
	if face.Tet < 0 || slices.Contains(edgeCells[e], f) {
		return
	}
	images := mappedList(face.Perm, edgeCells[e])
	there := signs[face.Tet][numberIn(edgeCells, images)]
	if images[0] > images[1] {
		there = -there
	}
	if signs[tet][e] != there {
		t.Fatal(tri, signs, tet, e, f)
	}
}

// TestSignsAgreeWithGluings sees that no other signs are possible: the first one of each class is 1,
// the others agree through each face, and a class with a sign 0 has no other one.
func TestSignsAgreeWithGluings(t *testing.T) {
	for _, tri := range skeletonSamples() {
		signs, _ := impl.EdgeSigns(tri)
		s, _ := impl.SkeletonOf(tri)
		seen := map[int64]int64{}
		for tet, list := range signs {
			for e, sign := range list {
				class := s.Edges[tet][e]
				first, isSeen := seen[class]
				if !isSeen {
					seen[class] = sign
					first = sign
				}
				if first < 0 || first != sign*sign || (first == 0) != impl.IsReversedEdge(tri, class) {
					t.Fatal(tri, signs, tet, e)
				}
				for f := range int64(4) {
					checkEdgeGluing(t, tri, signs, tet, e, f)
				}
			}
		}
	}
}

// shifted has every number of the lists increased.
func shifted(lists [][]int64, by int64) [][]int64 {
	lists = clonedLists(lists)
	for _, list := range lists {
		for i := range list {
			list[i] += by
		}
	}
	return lists
}

// TestSkeletonsOfUnions sees that a union has the classes of both parts, one after the other.
func TestSkeletonsOfUnions(t *testing.T) {
	seed := numbers(81)
	for range 200 {
		m, n := seed.next(0, 4), seed.next(0, 4)
		a, b := seed.triangulation(m, seed.next(0, 2*m)), seed.orientedTriangulation(n, seed.next(0, 2*n))
		union, _ := impl.UnionTriangulations(a, b)
		sa, _ := impl.SkeletonOf(a)
		sb, _ := impl.SkeletonOf(b)
		counts, more := impl.ClassCounts(a), impl.ClassCounts(b)
		want := impl.Skeleton{
			Vertices: append(sa.Vertices, shifted(sb.Vertices, counts[0])...),
			Edges:    append(sa.Edges, shifted(sb.Edges, counts[1])...),
			Faces:    append(sa.Faces, shifted(sb.Faces, counts[2])...),
		}
		if got := checkSkeleton(t, union); !sameSkeleton(got, want) {
			t.Fatal(a, b, got, want)
		}
		for i, count := range impl.ClassCounts(union) {
			if count != counts[i]+more[i] {
				t.Fatal(a, b, i, count)
			}
		}
	}
}

func TestSkeletonsOfInvalidTriangulations(t *testing.T) {
	for _, bad := range badTriangulations() {
		if s, code := impl.SkeletonOf(bad); code != impl.ErrInvalid || !isZeroSkeleton(s) {
			t.Fatal(bad, s, code)
		}
		if counts := impl.ClassCounts(bad); counts != nil {
			t.Fatal(bad, counts)
		}
		if euler, code := impl.EulerOf(bad); code != impl.ErrInvalid || euler != 0 {
			t.Fatal(bad, euler, code)
		}
		if signs, code := impl.EdgeSigns(bad); code != impl.ErrInvalid || signs != nil {
			t.Fatal(bad, signs, code)
		}
		if v, e, f := impl.BoundaryClasses(bad); v != nil || e != nil || f != nil {
			t.Fatal(bad, v, e, f)
		}
		for _, class := range append(badClassesFor(6), 0, 1, 2, 3, 4, 5) {
			if impl.IsReversedEdge(bad, class) {
				t.Fatal(bad, class)
			}
		}
	}
	// One of two tetrahedra has a reversed edge, and the other one is not valid.
	bad := unglued(2)
	glueModel(bad, 0, 2, 0, 7)
	if !impl.IsReversedEdge(bad, 0) {
		t.Fatal(bad)
	}
	bad.Tets[1][3].Perm = 1
	if impl.IsReversedEdge(bad, 0) {
		t.Fatal(bad)
	}
}
