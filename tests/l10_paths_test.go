package tests

import (
	"slices"
	"testing"

	"loop.example/g00870/impl"
)

// checkPath compares the path that reverses the orientation with the first one of all.
func checkPath(t *testing.T, tri impl.Triangulation) [][]int64 {
	t.Helper()
	want, isThere := firstReversingPath(tri, len(tri.Tets))
	path, ok := impl.OrientationPath(tri)
	if ok != isThere || !sameLists(path, want) || ok == impl.IsOrientable(tri) {
		t.Fatal("OrientationPath", tri, path, ok, want, isThere)
	}
	return path
}

// checkReversing compares with the model what is said about a path.
func checkReversing(t *testing.T, tri impl.Triangulation, path [][]int64) (bool, int64) {
	t.Helper()
	isReversing, code := impl.ReversesOrientation(tri, path)
	if want, wantCode := reversesInModel(tri, path); isReversing != want || code != wantCode {
		t.Fatal("ReversesOrientation", tri, path, isReversing, code, want, wantCode)
	}
	return isReversing, code
}

// checkWays goes the path that reverses the orientation from another tetrahedron on, backwards, and twice.
func checkWays(t *testing.T, tri impl.Triangulation, path [][]int64) {
	t.Helper()
	for i := range path {
		rotated := slices.Concat(path[i:], path[:i])
		for _, way := range [][][]int64{rotated, backwards(tri, rotated)} {
			if isReversing, code := checkReversing(t, tri, way); !isReversing || code != impl.ErrNone {
				t.Fatal(tri, path, way, code)
			}
			if isReversing, code := checkReversing(t, tri, slices.Concat(way, way)); isReversing || code != impl.ErrNone {
				t.Fatal(tri, path, way, code)
			}
		}
		if i > 0 {
			if isReversing, code := checkReversing(t, tri, path[:i]); isReversing || code != impl.ErrState {
				t.Fatal(tri, path, i, code)
			}
		}
	}
}

// backwards has the other side of each face, in the opposite order.
func backwards(tri impl.Triangulation, path [][]int64) [][]int64 {
	var back [][]int64
	for _, pair := range slices.Backward(path) {
		face := tri.Tets[pair[0]][pair[1]]
		back = append(back, []int64{face.Tet, allOfFour[face.Perm][pair[1]]})
	}
	return back
}

func TestOrientationPathsOfSamples(t *testing.T) {
	lengths := map[int]int{}
	for _, tri := range orientationSamples() {
		path := checkPath(t, tri)
		lengths[len(path)]++
		// A shorter path would come from a tetrahedron that is met twice.
		var tets []int64
		for _, pair := range path {
			tets = append(tets, pair[0])
		}
		if slices.Sort(tets); len(slices.Compact(tets)) != len(path) || len(path) > len(tri.Tets) {
			t.Fatal(tri, path)
		}
		checkWays(t, tri, path)
	}
	if len(lengths) != 9 {
		t.Error(lengths)
	}
}

func TestCountedOrientationPaths(t *testing.T) {
	lengths := map[int]int{}
	for _, tri := range slices.Concat(oneTetTriangulations(), closedTwos(), gluedTwos(1), gluedTwos(2)) {
		lengths[len(checkPath(t, tri))]++
	}
	// Of the one tetrahedron 99, of the closed ones 3240 - 405 are not orientable.
	if len(lengths) != 3 || lengths[1]+lengths[2] != 99+3240-405+12*3+42*27+168*18 {
		t.Error(lengths)
	}
}

// TestOrientationPathsByHand has several paths of the same length, and shorter ones behind longer ones.
func TestOrientationPathsByHand(t *testing.T) {
	rows := []struct {
		text string
		want [][]int64
	}{
		{"0:1032 0:1032 0:1032 0:1032;", pairsOfNumbers(0, 0)},
		{"1:0123 1:0123 1:1023 1:0123;0:0123 0:0123 0:1023 0:0123;", pairsOfNumbers(0, 0, 1, 2)},
		{"1:0213 1:2103 1:0123 1:0123;0:0213 0:2103 0:0123 0:0123;", pairsOfNumbers(0, 0, 1, 2)},
		{"1:0213 1:2103 1:1023 1:0123;0:0213 0:2103 0:1023 0:0123;", pairsOfNumbers(0, 0, 1, 3)},
		// The first tetrahedron is not on the circle.
		{"1:0123 - - -;0:0123 2:0123 2:1023 -;- 1:0123 1:1023 -;", pairsOfNumbers(1, 1, 2, 2)},
		// The circle through the face 1 is shorter than the one through the face 0.
		{"1:0123 3:0123 3:1023 2:0123;0:0123 2:0123 - -;- 1:0123 - 0:0123;- 0:0123 0:1023 -;", pairsOfNumbers(0, 1, 3, 2)},
	}
	for _, row := range rows {
		tri, ok := impl.ReadTriangulation(row.text)
		if path, isThere := impl.OrientationPath(tri); !ok || !isThere || !sameLists(path, row.want) {
			t.Error(row.text, path)
		}
		checkPath(t, tri)
	}
}

// walk returns a path with at most so many faces; it is shorter if it cannot go on.
func (s *numbers) walk(tri impl.Triangulation, length int64) [][]int64 {
	var path [][]int64
	here := s.next(0, int64(len(tri.Tets))-1)
	for range length {
		var faces []int64
		for f, face := range tri.Tets[here] {
			if face.Tet >= 0 {
				faces = append(faces, int64(f))
			}
		}
		if len(faces) == 0 {
			break
		}
		f := faces[s.next(0, int64(len(faces))-1)]
		path = append(path, []int64{here, f})
		here = tri.Tets[here][f].Tet
	}
	return path
}

// pathKinds counts what is said about paths.
type pathKinds struct {
	reversing, keeping, open, outside int
}

func (k *pathKinds) look(t *testing.T, tri impl.Triangulation, path [][]int64) {
	t.Helper()
	switch isReversing, code := checkReversing(t, tri, path); {
	case code == impl.ErrState:
		k.open++
	case code == impl.ErrRange:
		k.outside++
	case isReversing:
		k.reversing++
	default:
		k.keeping++
	}
}

// TestDrawnPaths has drawn paths, and paths of which one element is changed.
func TestDrawnPaths(t *testing.T) {
	seed := numbers(102)
	var whole, changed pathKinds
	for _, tri := range orientationSamples() {
		if len(tri.Tets) == 0 {
			continue
		}
		for length := range int64(20) {
			path := seed.walk(tri, length)
			whole.look(t, tri, path)
			if len(path) == 0 {
				continue
			}
			other := clonedLists(path)
			other[seed.next(0, int64(len(path))-1)][seed.next(0, 1)] = seed.next(-1, 8)
			changed.look(t, tri, other)
		}
	}
	if whole.reversing < 1000 || whole.keeping < 1000 || whole.open < 1000 || whole.outside < 1000 {
		t.Errorf("%+v", whole)
	}
	if changed.reversing < 500 || changed.keeping < 500 || changed.open < 1000 || changed.outside < 1000 {
		t.Errorf("%+v", changed)
	}
}

// TestReversingPathsOfOrientable sees that no closed path reverses an orientation that there is.
func TestReversingPathsOfOrientable(t *testing.T) {
	seed := numbers(103)
	closed := 0
	for _, tri := range orientationSamples() {
		if len(tri.Tets) == 0 || !impl.IsOrientable(tri) {
			continue
		}
		for range 40 {
			isReversing, code := impl.ReversesOrientation(tri, seed.walk(tri, seed.next(1, 16)))
			if isReversing {
				t.Fatal(tri)
			}
			if code == impl.ErrNone {
				closed++
			}
		}
	}
	if closed < 5000 {
		t.Error(closed)
	}
}

// TestCountedPaths has all lists of up to three faces.
func TestCountedPaths(t *testing.T) {
	list := oneTetTriangulations()
	for i, tri := range slices.Concat(closedTwos(), gluedTwos(2)) {
		if i%97 == 0 {
			list = append(list, tri)
		}
	}
	var kinds pathKinds
	for _, tri := range list {
		paths := [][][]int64{nil}
		for range 3 {
			var longer [][][]int64
			for _, path := range paths {
				for a := range int64(len(tri.Tets)) {
					for f := range int64(4) {
						longer = append(longer, append(slices.Clone(path), []int64{a, f}))
					}
				}
			}
			paths = longer
			for _, path := range paths {
				kinds.look(t, tri, path)
			}
		}
	}
	if kinds.reversing < 1000 || kinds.keeping < 1000 || kinds.open < 1000 || kinds.outside != 0 {
		t.Errorf("%+v", kinds)
	}
}

// checkPathCode sees that a path is refused, or accepted, by the program and by the model.
func checkPathCode(t *testing.T, tri impl.Triangulation, path [][]int64, want int64) {
	t.Helper()
	if _, code := checkReversing(t, tri, path); code != want {
		t.Fatal(tri, path, code, want)
	}
}

// TestPathLengths has paths of 2 * MaxTets faces, and of one more.
func TestPathLengths(t *testing.T) {
	tri, _ := impl.ReadTriangulation("0:1203 0:2013 0:0132 0:0132;")
	for length := range 40 {
		path := slices.Repeat(pairsOfNumbers(0, 0), length)
		isReversing, code := checkReversing(t, tri, path)
		switch {
		case length == 0 && code != impl.ErrState, length > 16 && code != impl.ErrRange:
			t.Error(length, code)
		case length >= 1 && length <= 16 && (code != impl.ErrNone || isReversing != (length%2 == 1)):
			t.Error(length, isReversing, code)
		}
	}
	// The last face of 16 decides.
	if isReversing, code := checkReversing(t, tri, append(slices.Repeat(pairsOfNumbers(0, 0), 15), []int64{0, 2})); !isReversing || code != impl.ErrNone {
		t.Error(isReversing, code)
	}
	seed := numbers(104)
	for tets := int64(1); tets <= 8; tets++ {
		tri := seed.necklace(tets, 0, false)
		path, _ := impl.OrientationPath(tri)
		for times := range 20 {
			way := slices.Repeat(path, times)
			wantReversing, want := times%2 == 1, int64(impl.ErrNone)
			if len(way) > 16 {
				wantReversing, want = false, impl.ErrRange
			} else if times == 0 {
				want = impl.ErrState
			}
			if isReversing, code := checkReversing(t, tri, way); isReversing != wantReversing || code != want {
				t.Fatal(tri, path, times, isReversing, code)
			}
		}
	}
	checkPathCode(t, tri, make([][]int64, 100000), impl.ErrRange)
	checkPathCode(t, tri, slices.Repeat(pairsOfNumbers(0, 0), 100000), impl.ErrRange)
}

// badElements are no pairs of a tetrahedron and a face.
func badElements(tets int) [][]int64 {
	list := [][]int64{nil, {}, {0}, {0, 0, 0}, {0, 0, -1}, {0, 0, 0, 0}, repeated(0, 1000)}
	for _, bad := range badTetsFor(tets) {
		list = append(list, []int64{bad, 0}, []int64{bad, bad})
	}
	for _, bad := range badVertices {
		list = append(list, []int64{0, bad}, []int64{-1, bad})
	}
	return list
}

// TestPathElements replaces each face of a path, closed or not, by something else: the whole path is
// looked through before it is followed.
func TestPathElements(t *testing.T) {
	texts := []string{"0:1203 0:2013 - -;", "1:0123 1:2103 - -;0:0123 0:2103 - -;", "- - - -;", "- - - -;1:1203 1:2013 - -;"}
	paths := [][][]int64{pairsOfNumbers(0, 0), pairsOfNumbers(0, 2), pairsOfNumbers(0, 0, 1, 1), pairsOfNumbers(1, 0, 1, 0), pairsOfNumbers(0, 3, 0, 0, 0, 3), slices.Repeat(pairsOfNumbers(0, 0), 16), slices.Repeat(pairsOfNumbers(0, 0), 17)}
	for _, text := range texts {
		tri, _ := impl.ReadTriangulation(text)
		for _, path := range paths {
			checkReversing(t, tri, path)
			for i := range path {
				for _, bad := range badElements(len(tri.Tets)) {
					changed := slices.Clone(path)
					changed[i] = bad
					checkPathCode(t, tri, changed, impl.ErrRange)
				}
			}
		}
	}
}

func TestPathsThatDoNotClose(t *testing.T) {
	// The tetrahedra 0, 1 and 2 are a row, and 3 is alone.
	tri, ok := impl.ReadTriangulation("1:0123 - 0:0132 0:0132;0:0123 2:0123 - -;- 1:0123 - -;- - - -;")
	if !ok {
		t.Fatal("the text")
	}
	rows := []struct {
		path [][]int64
		want int64
	}{
		{nil, impl.ErrState},
		{[][]int64{}, impl.ErrState},
		{pairsOfNumbers(0, 1), impl.ErrState},
		{pairsOfNumbers(3, 0), impl.ErrState},
		{pairsOfNumbers(0, 0), impl.ErrState},
		{pairsOfNumbers(0, 0, 1, 0), impl.ErrNone},
		{pairsOfNumbers(0, 0, 0, 0), impl.ErrState},
		{pairsOfNumbers(0, 0, 1, 1), impl.ErrState},
		{pairsOfNumbers(0, 0, 1, 1, 2, 1, 1, 0), impl.ErrNone},
		{pairsOfNumbers(0, 0, 1, 1, 2, 1), impl.ErrState},
		{pairsOfNumbers(0, 0, 1, 1, 1, 0), impl.ErrState},
		{pairsOfNumbers(0, 2), impl.ErrNone},
		{pairsOfNumbers(0, 2, 0, 1), impl.ErrState},
		{pairsOfNumbers(0, 1, 0, 2), impl.ErrState},
		{pairsOfNumbers(0, 2, 3, 0), impl.ErrState},
		{pairsOfNumbers(0, 2, 1, 0), impl.ErrState},
		{pairsOfNumbers(1, 0, 0, 2), impl.ErrState},
		{pairsOfNumbers(1, 0, 0, 2, 0, 3, 0, 0), impl.ErrNone},
	}
	for _, row := range rows {
		checkPathCode(t, tri, row.path, row.want)
	}
}

func TestPathsOfEmpty(t *testing.T) {
	for _, empty := range []impl.Triangulation{{}, {Tets: [][]impl.Face{}}} {
		checkPathCode(t, empty, nil, impl.ErrState)
		checkPathCode(t, empty, [][]int64{}, impl.ErrState)
		checkPathCode(t, empty, slices.Repeat(pairsOfNumbers(0, 0), 17), impl.ErrRange)
		for _, element := range append(badElements(0), []int64{0, 0}, []int64{0, 3}) {
			checkPathCode(t, empty, [][]int64{element}, impl.ErrRange)
		}
	}
}
