package tests

import (
	"slices"
	"testing"

	"loop.example/g00870/impl"
)

// movedPairs has the new numbers of pairs of a tetrahedron and a vertex of it, or a face, in order.
func (r renumbering) movedPairs(pairs [][]int64) [][]int64 {
	var moved [][]int64
	for _, pair := range pairs {
		moved = append(moved, []int64{r.tets[pair[0]], allOfFour[r.perms[pair[0]]][pair[1]]})
	}
	slices.SortFunc(moved, slices.Compare)
	return moved
}

// checkSameLink compares a link with the one that it becomes.
func checkSameLink(t *testing.T, tri impl.Triangulation, moved impl.Triangulation, r renumbering, class int64, to int64) {
	t.Helper()
	corners, _ := impl.LinkCorners(tri, class)
	if got, _ := impl.LinkCorners(moved, to); !sameLists(got, r.movedPairs(corners)) {
		t.Fatal(tri, r, class, to, got, corners)
	}
	euler, _ := impl.LinkEuler(tri, class)
	if got, _ := impl.LinkEuler(moved, to); got != euler {
		t.Fatal(tri, r, class, to, got, euler)
	}
	isClosed, isOrientable, kind := impl.LinkIsClosed(moved, to), impl.LinkIsOrientable(moved, to), impl.LinkKind(moved, to)
	if isClosed != impl.LinkIsClosed(tri, class) || isOrientable != impl.LinkIsOrientable(tri, class) || kind != impl.LinkKind(tri, class) {
		t.Fatal(tri, r, class, to, isClosed, isOrientable, kind)
	}
}

// boundaryParts has for each component of the boundary its faces as pairs, and its Euler characteristic.
func boundaryParts(tri impl.Triangulation) ([][][]int64, []int64) {
	pairs := impl.BoundaryFaces(tri)
	var parts [][][]int64
	for _, component := range impl.BoundaryComponents(tri) {
		var part [][]int64
		for _, i := range component {
			part = append(part, pairs[i])
		}
		parts = append(parts, part)
	}
	return parts, impl.BoundaryEuler(tri)
}

func checkSameBoundary(t *testing.T, tri impl.Triangulation, moved impl.Triangulation, r renumbering) {
	t.Helper()
	parts, eulers := boundaryParts(tri)
	after, movedEulers := boundaryParts(moved)
	if len(parts) != len(after) {
		t.Fatal(tri, r, parts, after)
	}
	for i, part := range parts {
		want := r.movedPairs(part)
		to := slices.IndexFunc(after, func(other [][]int64) bool { return sameLists(other, want) })
		if to < 0 || movedEulers[to] != eulers[i] {
			t.Fatal(tri, r, i, parts, after, eulers, movedEulers)
		}
	}
}

// checkRelabelledLinks sees that links and boundary do not depend on the numbering.
func checkRelabelledLinks(t *testing.T, tri impl.Triangulation, r renumbering) {
	t.Helper()
	moved, code := impl.RelabelTriangulation(tri, r.tets, r.perms)
	if code != impl.ErrNone {
		t.Fatal(tri, r, code)
	}
	if impl.IsManifold(moved) != impl.IsManifold(tri) || impl.IsIdeal(moved) != impl.IsIdeal(tri) {
		t.Fatal(tri, r)
	}
	before, _ := impl.SkeletonOf(tri)
	after, _ := impl.SkeletonOf(moved)
	for class, to := range checkSamePartition(t, r, vertexCells, before.Vertices, after.Vertices, impl.ClassCounts(tri)[0]) {
		checkSameLink(t, tri, moved, r, int64(class), to)
	}
	checkSameBoundary(t, tri, moved, r)
}

func TestLinksOfRelabelledSamples(t *testing.T) {
	seed := numbers(93)
	for _, tri := range linkSamples() {
		checkRelabelledLinks(t, tri, seed.renumbering(int64(len(tri.Tets))))
	}
}

// TestLinksOfOneRelabelledInAllWays has all triangulations with one tetrahedron.
func TestLinksOfOneRelabelledInAllWays(t *testing.T) {
	for _, tri := range oneTetTriangulations() {
		for perm := range int64(24) {
			checkRelabelledLinks(t, tri, renumbering{tets: []int64{0}, perms: []int64{perm}})
		}
	}
}

// linkResults has all results of the functions of the chapter.
type linkResults struct {
	corners    [][][]int64
	components [][]int64
	eulers     []int64
	numbers    []int64
	answers    []bool
}

// linkResultsOf asks also for some classes that do not exist.
func linkResultsOf(tri impl.Triangulation) linkResults {
	var r linkResults
	count := int64(0)
	if counts := impl.ClassCounts(tri); len(counts) > 0 {
		count = counts[0]
	}
	for class := int64(-1); class <= count; class++ {
		corners, code := impl.LinkCorners(tri, class)
		euler, other := impl.LinkEuler(tri, class)
		r.corners = append(r.corners, corners)
		r.numbers = append(r.numbers, code, euler, other, impl.LinkKind(tri, class))
		r.answers = append(r.answers, impl.LinkIsClosed(tri, class), impl.LinkIsOrientable(tri, class))
	}
	r.answers = append(r.answers, impl.IsManifold(tri), impl.IsIdeal(tri))
	r.components, r.eulers = impl.BoundaryComponents(tri), impl.BoundaryEuler(tri)
	return r
}

func sameLinkResults(a linkResults, b linkResults) bool {
	return slices.EqualFunc(a.corners, b.corners, sameLists) && sameLists(a.components, b.components) &&
		slices.Equal(a.eulers, b.eulers) && slices.Equal(a.numbers, b.numbers) && slices.Equal(a.answers, b.answers)
}

// spoil overwrites all the memory of the results, and finds lists that share some.
func (r linkResults) spoil(t *testing.T) {
	t.Helper()
	tables := append(r.corners, r.components)
	spoilLists(t, append(slices.Concat(tables...), r.eulers))
	for i, table := range tables {
		clear(table[:cap(table)])
		for _, list := range slices.Concat(tables[i+1:]...) {
			if list == nil {
				t.Fatal("two tables share memory", i)
			}
		}
	}
}

// TestLinksKeepTheirArguments overwrites all results: arguments, and later results, stay as they are.
func TestLinksKeepTheirArguments(t *testing.T) {
	for _, tri := range append(slices.Clone(linkSamples()), badTriangulations()...) {
		if len(tri.Tets) > 9 {
			continue
		}
		g, check := guardedTriangulation(t, tri)
		first, second, want := linkResultsOf(g), linkResultsOf(g), linkResultsOf(clonedTriangulation(tri))
		check()
		if !sameLinkResults(first, want) {
			t.Fatal("the same arguments have other results", tri)
		}
		first.spoil(t)
		check()
		if !sameLinkResults(second, want) {
			t.Fatal("results of two calls share memory", tri)
		}
	}
}

// TestLinksAgainAndAgain asks for different triangulations in turn, so that maps are ranged over in many
// orders, and so that anything kept from one call would show in another one.
func TestLinksAgainAndAgain(t *testing.T) {
	var list []impl.Triangulation
	for i, tri := range append(slices.Clone(linkSamples()), badTriangulations()[:8]...) {
		if i%9 == 0 || len(tri.Tets) == 8 && i%3 == 0 {
			list = append(list, tri)
		}
	}
	var want []linkResults
	for _, tri := range list {
		want = append(want, linkResultsOf(tri))
	}
	for range 12 {
		for i, tri := range list {
			if !sameLinkResults(linkResultsOf(tri), want[i]) {
				t.Fatal("the same call has another result", tri)
			}
		}
	}
}
