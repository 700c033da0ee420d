package tests

import (
	"slices"
	"testing"

	"loop.example/g00870/impl"
)

// movedSigns has the signs in the new numbers: a sign changes where an odd permutation numbers the
// vertices anew, and all signs of a component change if its first one is not 1.
func (r renumbering) movedSigns(signs []int64, components []int64) []int64 {
	moved := make([]int64, len(signs))
	for a, sign := range signs {
		moved[r.tets[a]] = sign * signsOfFour()[r.perms[a]]
	}
	firsts := slices.Clone(moved)
	for a, component := range components {
		moved[a] *= firsts[slices.Index(components, component)]
	}
	return moved
}

// movedPath has the new numbers of faces, in the same order.
func (r renumbering) movedPath(path [][]int64) [][]int64 {
	var moved [][]int64
	for _, pair := range path {
		moved = append(moved, r.movedPairs([][]int64{pair})...)
	}
	return moved
}

// ofCover numbers the tetrahedra of the double cover: both copies of one are exchanged if an odd
// permutation numbers its vertices anew.
func (r renumbering) ofCover() renumbering {
	n := len(r.tets)
	cover := renumbering{tets: make([]int64, 2*n), perms: append(slices.Clone(r.perms), r.perms...)}
	for a, to := range r.tets {
		cover.tets[a], cover.tets[a+n] = to, to+int64(n)
		if signsOfFour()[r.perms[a]] == -1 {
			cover.tets[a], cover.tets[a+n] = to+int64(n), to
		}
	}
	return cover
}

// checkRelabelledOrientation sees that it does not depend on the numbering whether a triangulation is
// orientable, nor how long a path is that reverses the orientation.
func checkRelabelledOrientation(t *testing.T, tri impl.Triangulation, r renumbering) {
	t.Helper()
	moved, code := impl.RelabelTriangulation(tri, r.tets, r.perms)
	if code != impl.ErrNone {
		t.Fatal(tri, r, code)
	}
	signs, code := impl.OrientationOf(tri)
	movedSigns, movedCode := impl.OrientationOf(moved)
	if code != movedCode || impl.IsOrientable(tri) != impl.IsOrientable(moved) {
		t.Fatal(tri, r, code, movedCode)
	}
	if code == impl.ErrNone && !slices.Equal(movedSigns, r.movedSigns(signs, componentsOf(moved))) {
		t.Fatal(tri, r, signs, movedSigns)
	}
	path, ok := impl.OrientationPath(tri)
	movedPath, isThere := impl.OrientationPath(moved)
	if ok != isThere || len(path) != len(movedPath) {
		t.Fatal(tri, r, path, movedPath)
	}
	if ok {
		if isReversing, code := impl.ReversesOrientation(moved, r.movedPath(path)); !isReversing || code != impl.ErrNone {
			t.Fatal(tri, r, path, code)
		}
	}
	if len(tri.Tets) <= 4 {
		cover, _ := impl.DoubleCover(tri)
		r := r.ofCover()
		want, _ := impl.RelabelTriangulation(cover, r.tets, r.perms)
		if movedCover, code := impl.DoubleCover(moved); code != impl.ErrNone || !sameTriangulation(movedCover, want) {
			t.Fatal(tri, r, cover, movedCover)
		}
	}
}

func TestOrientationsOfRelabelledSamples(t *testing.T) {
	seed := numbers(105)
	for _, tri := range orientationSamples() {
		for range 4 {
			checkRelabelledOrientation(t, tri, seed.renumbering(int64(len(tri.Tets))))
		}
	}
}

// TestOrientationsOfOneRelabelledInAllWays has all triangulations with one tetrahedron.
func TestOrientationsOfOneRelabelledInAllWays(t *testing.T) {
	for _, tri := range oneTetTriangulations() {
		for perm := range int64(24) {
			checkRelabelledOrientation(t, tri, renumbering{tets: []int64{0}, perms: []int64{perm}})
		}
	}
}

// TestPathsOfRelabelledSamples sees that relabelling changes nothing that is said about drawn paths.
func TestPathsOfRelabelledSamples(t *testing.T) {
	seed := numbers(106)
	for _, tri := range orientationSamples() {
		if len(tri.Tets) == 0 {
			continue
		}
		for length := range int64(10) {
			r, path := seed.renumbering(int64(len(tri.Tets))), seed.walk(tri, length)
			moved, _ := impl.RelabelTriangulation(tri, r.tets, r.perms)
			isReversing, code := impl.ReversesOrientation(tri, path)
			movedReversing, movedCode := impl.ReversesOrientation(moved, r.movedPath(path))
			if isReversing != movedReversing || code != movedCode {
				t.Fatal(tri, r, path, isReversing, code, movedReversing, movedCode)
			}
		}
	}
}

// orientationResults has all results of the functions of the chapter.
type orientationResults struct {
	signs          []int64
	path           [][]int64
	triangulations []impl.Triangulation
	codes          []int64
	answers        []bool
}

// orientationResultsOf asks also about some paths, whatever tetrahedra there are.
func orientationResultsOf(t *testing.T, tri impl.Triangulation) orientationResults {
	t.Helper()
	var r orientationResults
	keep := func(result impl.Triangulation, code int64) {
		r.triangulations = append(r.triangulations, result)
		r.codes = append(r.codes, code)
	}
	signs, code := impl.OrientationOf(tri)
	path, ok := impl.OrientationPath(tri)
	r.signs, r.path, r.codes = signs, path, []int64{code}
	keep(impl.OrientedForm(tri))
	keep(impl.MirrorForm(tri))
	keep(impl.DoubleCover(tri))
	r.answers = []bool{ok, impl.IsOrientable(tri), impl.IsOriented(tri)}
	for _, way := range [][][]int64{clonedLists(path), pairsOfNumbers(0, 0), pairsOfNumbers(0, 0, 0, 1), pairsOfNumbers(7, 3), {{0}, nil}} {
		g, check := guardedImages(t, way)
		isReversing, code := impl.ReversesOrientation(tri, g)
		check()
		if !sameLists(g, way) {
			t.Fatal("a path was changed", tri, way)
		}
		r.answers, r.codes = append(r.answers, isReversing), append(r.codes, code)
	}
	return r
}

func sameOrientationResults(a orientationResults, b orientationResults) bool {
	return slices.Equal(a.signs, b.signs) && sameLists(a.path, b.path) && slices.EqualFunc(a.triangulations, b.triangulations, sameTriangulation) &&
		slices.Equal(a.codes, b.codes) && slices.Equal(a.answers, b.answers)
}

// spoil overwrites all the memory of the results, and finds parts that share some.
func (r orientationResults) spoil(t *testing.T) {
	t.Helper()
	for i, result := range r.triangulations {
		var rest []impl.Triangulation
		for _, other := range r.triangulations[i+1:] {
			rest = append(rest, clonedTriangulation(other))
		}
		spoilTriangulation(t, result)
		if !slices.EqualFunc(r.triangulations[i+1:], rest, sameTriangulation) {
			t.Fatal("two triangulations share memory")
		}
	}
	spoilLists(t, append(slices.Clone(r.path), r.signs))
	clear(r.path[:cap(r.path)])
}

// TestOrientationsKeepTheirArguments overwrites all results: arguments, and later results, stay as they
// are.
func TestOrientationsKeepTheirArguments(t *testing.T) {
	for _, tri := range append(slices.Clone(orientationSamples()), badTriangulations()...) {
		if len(tri.Tets) > 9 {
			continue
		}
		g, check := guardedTriangulation(t, tri)
		first, second, want := orientationResultsOf(t, g), orientationResultsOf(t, g), orientationResultsOf(t, clonedTriangulation(tri))
		check()
		if !sameOrientationResults(first, want) {
			t.Fatal("the same arguments have other results", tri)
		}
		first.spoil(t)
		check()
		if !sameOrientationResults(second, want) {
			t.Fatal("results of two calls share memory", tri)
		}
	}
}

// TestOrientationsAgainAndAgain asks for different triangulations in turn, so that anything kept from one
// call would show in another one.
func TestOrientationsAgainAndAgain(t *testing.T) {
	var list []impl.Triangulation
	for i, tri := range append(slices.Clone(orientationSamples()), badTriangulations()[:8]...) {
		if i%9 == 0 || len(tri.Tets) == 8 {
			list = append(list, tri)
		}
	}
	var want []orientationResults
	for _, tri := range list {
		want = append(want, orientationResultsOf(t, tri))
	}
	for range 5 {
		for i, tri := range slices.Backward(list) {
			if !sameOrientationResults(orientationResultsOf(t, tri), want[i]) {
				t.Fatal("the same call has another result", tri)
			}
		}
	}
}
