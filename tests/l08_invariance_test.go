package tests

import (
	"slices"
	"testing"

	"loop.example/g00870/impl"
)

// renumbering has the lists with which a triangulation is relabelled.
type renumbering struct {
	tets  []int64
	perms []int64
}

func (s *numbers) renumbering(tets int64) renumbering {
	return renumbering{tets: s.permutation(tets), perms: s.perms(tets)}
}

// cell returns where a cell comes, and whether its first and last vertex keep their order there.
func (r renumbering) cell(cells [][]int64, tet int64, number int64) (int64, int64, bool) {
	images := mappedList(r.perms[tet], cells[number])
	return r.tets[tet], numberIn(cells, images), images[0] <= images[len(images)-1]
}

// checkSamePartition sees that the cells of a class lie together in one class of the relabelled
// triangulation, and returns the number of this class for each class.
func checkSamePartition(t *testing.T, r renumbering, cells [][]int64, before [][]int64, after [][]int64, count int64) []int64 {
	t.Helper()
	classes := repeated(-1, int(count))
	for tet, list := range before {
		for number, class := range list {
			toTet, to, _ := r.cell(cells, int64(tet), int64(number))
			moved := after[toTet][to]
			if classes[class] < 0 {
				if slices.Contains(classes, moved) {
					t.Fatal("two classes become one", before, after, r)
				}
				classes[class] = moved
			}
			if classes[class] != moved {
				t.Fatal("one class becomes two", before, after, r)
			}
		}
	}
	return classes
}

// movedList has the new numbers of classes, in order.
func movedList(list []int64, classes []int64) []int64 {
	var moved []int64
	for _, class := range list {
		moved = append(moved, classes[class])
	}
	slices.Sort(moved)
	return moved
}

// checkSameSigns compares, for each class of edges, the directions of its edges with the one of its
// first edge.
func checkSameSigns(t *testing.T, tri impl.Triangulation, moved impl.Triangulation, r renumbering, edges [][]int64) {
	t.Helper()
	before, _ := impl.EdgeSigns(tri)
	after, _ := impl.EdgeSigns(moved)
	factors := map[int64]int64{}
	for tet, list := range edges {
		for e, class := range list {
			toTet, to, isKept := r.cell(edgeCells, int64(tet), int64(e))
			factor := before[tet][e] * after[toTet][to]
			if !isKept {
				factor = -factor
			}
			if _, ok := factors[class]; !ok {
				factors[class] = factor
			}
			if factors[class] != factor || (factor == 0) != impl.IsReversedEdge(tri, class) {
				t.Fatal(tri, r, tet, e)
			}
		}
	}
}

// roundOf has the edges of a ring: 6 times the tetrahedron, plus the number.
func roundOf(ring []impl.Corner) []int64 {
	var round []int64
	for _, c := range ring {
		round = append(round, 6*c.Tet+edgeOf(c))
	}
	return round
}

// isSameRound tells whether both lists have the same order, from the other end if need be, and around
// if it is closed.
func isSameRound(a []int64, b []int64, isClosed bool) bool {
	back := slices.Clone(b)
	slices.Reverse(back)
	if !isClosed {
		return slices.Equal(a, b) || slices.Equal(a, back)
	}
	return isRotation(a, b) || isRotation(a, back)
}

func checkSameRing(t *testing.T, tri impl.Triangulation, moved impl.Triangulation, r renumbering, class int64, to int64) {
	t.Helper()
	before, code := impl.EdgeRing(tri, class)
	after, other := impl.EdgeRing(moved, to)
	if code != other || impl.IsReversedEdge(tri, class) != impl.IsReversedEdge(moved, to) {
		t.Fatal(tri, r, class, to, code, other)
	}
	var want []int64
	for _, c := range before {
		toTet, number, _ := r.cell(edgeCells, c.Tet, edgeOf(c))
		want = append(want, 6*toTet+number)
	}
	_, edges, _ := impl.BoundaryClasses(tri)
	if !isSameRound(roundOf(after), want, !slices.Contains(edges, class)) {
		t.Fatal(tri, r, class, to, before, after)
	}
}

// checkRelabelledSkeleton sees that classes and rings do not depend on the numbering.
func checkRelabelledSkeleton(t *testing.T, tri impl.Triangulation, r renumbering) {
	t.Helper()
	moved, code := impl.RelabelTriangulation(tri, r.tets, r.perms)
	if code != impl.ErrNone {
		t.Fatal(tri, r, code)
	}
	counts := impl.ClassCounts(tri)
	if got := impl.ClassCounts(moved); !slices.Equal(got, counts) {
		t.Fatal(tri, r, got, counts)
	}
	before, _ := impl.SkeletonOf(tri)
	after, _ := impl.SkeletonOf(moved)
	vertices := checkSamePartition(t, r, vertexCells, before.Vertices, after.Vertices, counts[0])
	edges := checkSamePartition(t, r, edgeCells, before.Edges, after.Edges, counts[1])
	faces := checkSamePartition(t, r, faceCells, before.Faces, after.Faces, counts[2])
	v, e, f := impl.BoundaryClasses(tri)
	toV, toE, toF := impl.BoundaryClasses(moved)
	if !slices.Equal(toV, movedList(v, vertices)) || !slices.Equal(toE, movedList(e, edges)) || !slices.Equal(toF, movedList(f, faces)) {
		t.Fatal(tri, r, toV, toE, toF)
	}
	checkSameSigns(t, tri, moved, r, before.Edges)
	for class, to := range edges {
		checkSameRing(t, tri, moved, r, int64(class), to)
	}
}

func TestSkeletonsOfRelabelledSamples(t *testing.T) {
	seed := numbers(82)
	for _, tri := range skeletonSamples() {
		for range 5 {
			checkRelabelledSkeleton(t, tri, seed.renumbering(int64(len(tri.Tets))))
		}
	}
}

// TestSkeletonsOfOneRelabelledInAllWays has all triangulations with one tetrahedron.
func TestSkeletonsOfOneRelabelledInAllWays(t *testing.T) {
	for _, tri := range oneTetTriangulations() {
		for perm := range int64(24) {
			checkRelabelledSkeleton(t, tri, renumbering{tets: []int64{0}, perms: []int64{perm}})
		}
	}
}

// skeletonResults has all results of the functions of the chapter.
type skeletonResults struct {
	skeleton impl.Skeleton
	signs    [][]int64
	lists    [][]int64
	rings    [][]impl.Corner
	reversed []bool
	euler    int64
}

func skeletonResultsOf(tri impl.Triangulation) skeletonResults {
	var r skeletonResults
	r.skeleton, _ = impl.SkeletonOf(tri)
	r.signs, _ = impl.EdgeSigns(tri)
	v, e, f := impl.BoundaryClasses(tri)
	r.lists = [][]int64{impl.ClassCounts(tri), v, e, f}
	for class := range int64(50) {
		ring, _ := impl.EdgeRing(tri, class-1)
		r.rings = append(r.rings, ring)
		r.reversed = append(r.reversed, impl.IsReversedEdge(tri, class-1))
	}
	r.euler, _ = impl.EulerOf(tri)
	return r
}

// groups has the lists of lists of the results.
func (r skeletonResults) groups() [][][]int64 {
	return [][][]int64{r.skeleton.Vertices, r.skeleton.Edges, r.skeleton.Faces, r.signs, r.lists}
}

func sameSkeletonResults(a skeletonResults, b skeletonResults) bool {
	return slices.EqualFunc(a.groups(), b.groups(), sameLists) && slices.EqualFunc(a.rings, b.rings, slices.Equal) &&
		slices.Equal(a.reversed, b.reversed) && a.euler == b.euler
}

// spoil overwrites all the memory of the results, and finds lists that share some.
func (r skeletonResults) spoil(t *testing.T) {
	t.Helper()
	spoilLists(t, slices.Concat(r.groups()...))
	for i, ring := range r.rings {
		copy(ring[:cap(ring)], slices.Repeat([]impl.Corner{{Tet: int64(i), Perm: spareMark}}, cap(ring)))
	}
	for i, ring := range r.rings {
		if !slices.Equal(ring[:cap(ring)], slices.Repeat([]impl.Corner{{Tet: int64(i), Perm: spareMark}}, cap(ring))) {
			t.Fatal("two rings share memory", i)
		}
	}
	tables := [][][]int64{r.skeleton.Vertices, r.skeleton.Edges, r.skeleton.Faces, r.signs}
	for i, table := range tables {
		clear(table[:cap(table)])
		for _, list := range slices.Concat(tables[i+1:]...) {
			if list == nil {
				t.Fatal("two tables share memory", i)
			}
		}
	}
}

// TestSkeletonsKeepTheirArguments overwrites all results: arguments, and later results, stay as they
// are.
func TestSkeletonsKeepTheirArguments(t *testing.T) {
	for _, tri := range append(skeletonSamples(), badTriangulations()...) {
		if len(tri.Tets) > 9 {
			continue
		}
		g, check := guardedTriangulation(t, tri)
		first, second, want := skeletonResultsOf(g), skeletonResultsOf(g), skeletonResultsOf(clonedTriangulation(tri))
		check()
		if !sameSkeletonResults(first, want) {
			t.Fatal("the same arguments have other results", tri)
		}
		first.spoil(t)
		check()
		if !sameSkeletonResults(second, want) || !sameSkeletonResults(skeletonResultsOf(g), want) {
			t.Fatal("results of two calls share memory", tri)
		}
	}
}
