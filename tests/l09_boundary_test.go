package tests

import (
	"maps"
	"slices"
	"testing"

	"loop.example/g00870/impl"
)

// checkBoundary compares the boundary surface with the model.
func checkBoundary(t *testing.T, tri impl.Triangulation) {
	t.Helper()
	want := boundaryOf(tri)
	if components := impl.BoundaryComponents(tri); !sameLists(components, want.components) {
		t.Fatal("BoundaryComponents", tri, components, want.components)
	}
	if eulers := impl.BoundaryEuler(tri); !slices.Equal(eulers, want.eulers()) {
		t.Fatal("BoundaryEuler", tri, eulers, want.eulers())
	}
}

func TestBoundaryByHand(t *testing.T) {
	rows := []struct {
		text       string
		components [][]int64
		eulers     []int64
	}{
		{"", nil, nil},
		{"- - - -;", [][]int64{{0, 1, 2, 3}}, []int64{2}},
		{"- - - -;- - - -;", [][]int64{{0, 1, 2, 3}, {4, 5, 6, 7}}, []int64{2, 2}},
		{"1:0123 - - -;0:0123 - - -;", [][]int64{{0, 1, 2, 3, 4, 5}}, []int64{2}},
		{"1:0123 1:0123 1:0123 -;0:0123 0:0123 0:0123 -;", [][]int64{{0, 1}}, []int64{2}},
		// The component of the tetrahedra 0 and 2 has faces on both sides of the other one.
		{"- - - 2:0123;- - - -;- - - 0:0123;", [][]int64{{0, 1, 2, 7, 8, 9}, {3, 4, 5, 6}}, []int64{2, 2}},
		{"- - - -;1:1230 1:3012 - -;", [][]int64{{0, 1, 2, 3}, {4, 5}}, []int64{2, 0}},
		{"0:1230 0:3012 - -;- - - -;", [][]int64{{0, 1}, {2, 3, 4, 5}}, []int64{0, 2}},
		// Each of two faces is glued to itself along two edges, and to the other one along the third.
		{"0:1023 0:1023 - -;", [][]int64{{0, 1}}, []int64{2}},
		{"- - 0:0132 0:0132;", [][]int64{{0, 1}}, []int64{2}},
		{"- 0:0213 0:0213 -;- - - -;", [][]int64{{0, 1}, {2, 3, 4, 5}}, []int64{2, 2}},
		// Two corners, at a vertex whose link is a Moebius band, and a reversed edge inside.
		{"0:1203 0:2013 - -;", [][]int64{{0, 1}}, []int64{1}},
		{"- - 0:1032 0:1032;", [][]int64{{0, 1}}, []int64{1}},
		{"0:1230 0:3012 - -;", [][]int64{{0, 1}}, []int64{0}},
		// One vertex class, but two or three corners of the surface.
		{"2:3120 - - 1:2031;2:0231 0:1302 2:1023 -;1:0312 - 1:1023 0:3120;", [][]int64{{0, 1, 2, 3}}, []int64{0}},
		{"- 1:1023 - 1:2031;0:1023 0:1302 1:2031 1:1302;", [][]int64{{0, 1}}, []int64{2}},
		// Two components of a connected triangulation.
		{"- 0:1320 1:1032 0:3021;- 2:2310 - 0:1032;- 2:1203 2:2013 1:3201;", [][]int64{{0, 3}, {1, 2}}, []int64{2, 0}},
		// Prisms over the two triangles of a sphere: its upper and its lower side.
		{"3:0123 3:0123 1:0123 -;4:0123 2:0123 0:0123 4:0123;- 1:0123 5:0123 5:0123;0:0123 0:0123 4:0123 -;1:0123 5:0123 3:0123 1:0123;- 4:0123 2:0123 2:0123;", [][]int64{{0, 2}, {1, 3}}, []int64{2, 2}},
		// Prisms over the two triangles of a torus.
		{"4:3012 3:0123 1:0123 -;5:3012 2:0123 0:0123 3:1230;- 1:0123 5:0123 4:1230;1:3012 0:0123 4:0123 -;2:3012 5:0123 3:0123 0:1230;- 4:0123 2:0123 1:1230;", [][]int64{{0, 2}, {1, 3}}, []int64{0, 0}},
		{"1:0123 1:0123 1:0123 1:0123;0:0123 0:0123 0:0123 0:0123;", nil, nil},
		{"0:1203 0:2013 0:0231 0:0312;", nil, nil},
	}
	for _, row := range rows {
		tri, ok := impl.ReadTriangulation(row.text)
		if !ok {
			t.Fatal(row.text)
		}
		checkBoundary(t, tri)
		if components := impl.BoundaryComponents(tri); !sameLists(components, row.components) {
			t.Error(row.text, components)
		}
		if eulers := impl.BoundaryEuler(tri); !slices.Equal(eulers, row.eulers) {
			t.Error(row.text, eulers)
		}
	}
}

func TestBoundaryOfSamples(t *testing.T) {
	for _, tri := range linkSamples() {
		checkBoundary(t, tri)
	}
}

// TestBoundaryOfRings glues faces along the edges as the rings of chapter 8 say.
func TestBoundaryOfRings(t *testing.T) {
	for _, tri := range linkSamples() {
		pairs := impl.BoundaryFaces(tri)
		indexOf := func(tet int64, face int64) int64 {
			return int64(slices.IndexFunc(pairs, func(pair []int64) bool { return slices.Equal(pair, []int64{tet, face}) }))
		}
		first := identityList(int64(len(pairs)))
		_, edges, _ := impl.BoundaryClasses(tri)
		for range pairs {
			for _, class := range edges {
				ring, code := impl.EdgeRing(tri, class)
				if code != impl.ErrNone {
					t.Fatal(tri, class, code)
				}
				begin, end := ring[0], ring[len(ring)-1]
				i, j := indexOf(begin.Tet, imagesOf(begin)[3]), indexOf(end.Tet, imagesOf(end)[2])
				low := min(first[i], first[j])
				first[i], first[j] = low, low
			}
		}
		for _, component := range impl.BoundaryComponents(tri) {
			for _, i := range component {
				if first[i] != component[0] {
					t.Fatal(tri, component, first)
				}
			}
		}
	}
}

// TestBoundaryIsOrdered sees that each face is in one component, and that lists are in order.
func TestBoundaryIsOrdered(t *testing.T) {
	for _, tri := range linkSamples() {
		components := impl.BoundaryComponents(tri)
		all := slices.Sorted(slices.Values(slices.Concat(components...)))
		if !slices.Equal(all, identityList(int64(len(freeFaces(tri))))) || len(impl.BoundaryEuler(tri)) != len(components) {
			t.Fatal(tri, components)
		}
		for i, component := range components {
			if !slices.IsSorted(component) || i > 0 && components[i-1][0] >= component[0] {
				t.Fatal(tri, components)
			}
		}
	}
}

func TestBoundaryOfUnions(t *testing.T) {
	seed := numbers(92)
	for range 200 {
		m, n := seed.next(0, 4), seed.next(0, 4)
		a, b := seed.triangulation(m, seed.next(0, 2*m)), seed.orientedTriangulation(n, seed.next(0, 2*n))
		union, _ := impl.UnionTriangulations(a, b)
		checkBoundary(t, union)
		components := append(impl.BoundaryComponents(a), shifted(impl.BoundaryComponents(b), int64(len(freeFaces(a))))...)
		if got := impl.BoundaryComponents(union); !sameLists(got, components) {
			t.Fatal(a, b, got, components)
		}
		eulers := append(impl.BoundaryEuler(a), impl.BoundaryEuler(b)...)
		if got := impl.BoundaryEuler(union); !slices.Equal(got, eulers) {
			t.Fatal(a, b, got, eulers)
		}
	}
}

func TestNoBoundary(t *testing.T) {
	list := []impl.Triangulation{{}, {Tets: [][]impl.Face{}}}
	for _, tri := range linkSamples() {
		if impl.IsClosed(tri) {
			list = append(list, tri)
		}
	}
	for _, tri := range append(list, badTriangulations()...) {
		if components, eulers := impl.BoundaryComponents(tri), impl.BoundaryEuler(tri); len(components) != 0 || len(eulers) != 0 {
			t.Fatal(tri, components, eulers)
		}
	}
	if len(list) < 100 {
		t.Error(len(list))
	}
}

// cornersOfComponents adds up how many corners of each component remain different: its Euler
// characteristic, plus three edges for each two faces, minus the faces.
func cornersOfComponents(tri impl.Triangulation) []int64 {
	var corners []int64
	eulers := impl.BoundaryEuler(tri)
	for i, component := range impl.BoundaryComponents(tri) {
		faces := int64(len(component))
		corners = append(corners, eulers[i]+3*faces/2-faces)
	}
	return corners
}

// classesAtFaces returns the vertex classes of these boundary faces, each once.
func classesAtFaces(tri impl.Triangulation, component []int64) []int64 {
	s, _ := impl.SkeletonOf(tri)
	pairs := impl.BoundaryFaces(tri)
	var classes []int64
	for _, i := range component {
		for v, class := range s.Vertices[pairs[i][0]] {
			if int64(v) != pairs[i][1] {
				classes = append(classes, class)
			}
		}
	}
	slices.Sort(classes)
	return slices.Compact(classes)
}

// TestCornersOfManifolds sees that a component of the boundary of a manifold has as many corners as
// vertex classes, and that no class lies in two of them. In other triangulations both occur.
func TestCornersOfManifolds(t *testing.T) {
	manifolds, pinched, shared := 0, 0, 0
	for _, tri := range linkSamples() {
		isManifold := impl.IsManifold(tri)
		var all []int64
		corners := cornersOfComponents(tri)
		for i, component := range impl.BoundaryComponents(tri) {
			classes := classesAtFaces(tri, component)
			all = append(all, classes...)
			if isManifold {
				manifolds++
			}
			if corners[i] != int64(len(classes)) {
				pinched++
				if isManifold || corners[i] < int64(len(classes)) {
					t.Fatal(tri, i, corners, classes)
				}
			}
		}
		slices.Sort(all)
		if bounded, _, _ := impl.BoundaryClasses(tri); !slices.Equal(all, bounded) {
			shared++
			if isManifold {
				t.Fatal(tri, all, bounded)
			}
		}
	}
	if manifolds < 200 || pinched < 50 || shared == 0 {
		t.Error(manifolds, pinched, shared)
	}
}

func sumOf(list []int64) int64 {
	sum := int64(0)
	for _, x := range list {
		sum += x
	}
	return sum
}

// TestEulerOfManifolds sees that the Euler characteristic of a manifold is half of that of its boundary,
// so that it is 0 if the manifold is closed; and that of a closed ideal triangulation is the number of
// its vertex classes.
func TestEulerOfManifolds(t *testing.T) {
	closed, bounded, ideal, others := 0, 0, 0, 0
	for _, tri := range linkSamples() {
		euler, _ := impl.EulerOf(tri)
		switch {
		case impl.IsManifold(tri):
			if 2*euler != sumOf(impl.BoundaryEuler(tri)) {
				t.Fatal(tri, euler, impl.BoundaryEuler(tri))
			}
			if impl.IsClosed(tri) {
				closed++
				if euler != 0 {
					t.Fatal(tri, euler)
				}
			} else {
				bounded++
			}
		case impl.IsIdeal(tri):
			ideal++
			if euler != impl.ClassCounts(tri)[0] {
				t.Fatal(tri, euler)
			}
		case impl.IsClosed(tri) && euler != 0:
			others++
		}
	}
	if closed < 50 || bounded < 100 || ideal < 20 || others < 50 {
		t.Error(closed, bounded, ideal, others)
	}
}

// TestEulerOfAllLinks counts the cells at all vertices: twice the vertex classes, minus the sum over the
// links, the reversed classes and half of the boundary faces, is twice the Euler characteristic.
func TestEulerOfAllLinks(t *testing.T) {
	for _, tri := range linkSamples() {
		counts := impl.ClassCounts(tri)
		sum := 2*counts[0] - int64(len(impl.BoundaryFaces(tri)))/2
		for class := range counts[0] {
			euler, _ := impl.LinkEuler(tri, class)
			sum -= euler
		}
		for class := range counts[1] {
			if impl.IsReversedEdge(tri, class) {
				sum--
			}
		}
		if euler, _ := impl.EulerOf(tri); 2*euler != sum {
			t.Fatal(tri, euler, sum)
		}
	}
}

// relabelledTexts returns the texts of a triangulation in all numberings.
func relabelledTexts(tri impl.Triangulation) map[string]bool {
	n := int64(len(tri.Tets))
	texts := map[string]bool{}
	for _, tets := range permutationLists(n) {
		for _, perms := range listsOf(int(n), 0, 23) {
			moved, _ := impl.RelabelTriangulation(tri, tets, perms)
			texts[modelText(moved)] = true
		}
	}
	return texts
}

// countedTriangulations returns the closed connected manifolds and the ideal triangulations with one and
// two tetrahedra: one of all that only differ by their numberings.
func countedTriangulations() []impl.Triangulation {
	var list []impl.Triangulation
	seen := map[string]bool{}
	for _, tri := range append(oneTetTriangulations(), closedTwos()...) {
		if seen[modelText(tri)] || !impl.IsClosed(tri) || !impl.IsManifold(tri) && !impl.IsIdeal(tri) {
			continue
		}
		list = append(list, tri)
		maps.Copy(seen, relabelledTexts(tri))
	}
	return list
}

// TestCountedTriangulations counts closed connected manifolds and ideal triangulations that do not only
// differ by their numberings: with one tetrahedron there are 4 and 1, with two tetrahedra 17 and 18.
func TestCountedTriangulations(t *testing.T) {
	manifolds, ideal := map[int]int{}, map[int]int{}
	for _, tri := range countedTriangulations() {
		if impl.IsIdeal(tri) {
			ideal[len(tri.Tets)]++
		} else {
			manifolds[len(tri.Tets)]++
		}
	}
	if manifolds[1] != 4 || manifolds[2] != 17 || ideal[1] != 1 || ideal[2] != 18 {
		t.Error(manifolds, ideal)
	}
}
