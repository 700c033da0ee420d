package tests

import (
	"slices"
	"testing"

	"loop.example/g00870/impl"
)

// exchangedWhere relabels a triangulation: the vertices 2 and 3 of the tetrahedra with the sign -1 are
// exchanged.
func exchangedWhere(t *testing.T, tri impl.Triangulation, signs []int64) impl.Triangulation {
	t.Helper()
	perms := []int64{}
	for _, sign := range signs {
		if sign == -1 {
			perms = append(perms, permWith([]int64{0, 1, 3, 2}))
		} else {
			perms = append(perms, 0)
		}
	}
	moved, code := impl.RelabelTriangulation(tri, identityList(int64(len(tri.Tets))), perms)
	if code != impl.ErrNone {
		t.Fatal(tri, signs, code)
	}
	return moved
}

// checkNoOrientation sees that there is no orientation, for this reason.
func checkNoOrientation(t *testing.T, tri impl.Triangulation, want int64) {
	t.Helper()
	if signs, code := impl.OrientationOf(tri); code != want || len(signs) != 0 {
		t.Fatal("OrientationOf", tri, signs, code, want)
	}
	if impl.IsOrientable(tri) || impl.IsOriented(tri) {
		t.Fatal("IsOrientable, IsOriented", tri)
	}
	if form, code := impl.OrientedForm(tri); code != want || !isZeroTriangulation(form) {
		t.Fatal("OrientedForm", tri, form, code, want)
	}
}

// checkOrientation compares with the signs what is said about a triangulation that has this orientation.
func checkOrientation(t *testing.T, tri impl.Triangulation, want []int64) {
	t.Helper()
	signs, code := impl.OrientationOf(tri)
	if code != impl.ErrNone || !slices.Equal(signs, want) || !isModelOrientation(tri, signs) || !beginsWithOnes(componentsOf(tri), signs) {
		t.Fatal("OrientationOf", tri, signs, code, want)
	}
	if !impl.IsOrientable(tri) {
		t.Fatal("IsOrientable", tri)
	}
	isOriented := isModelOrientation(tri, repeated(1, len(tri.Tets)))
	if got := impl.IsOriented(tri); got != isOriented || got == slices.Contains(want, -1) {
		t.Fatal("IsOriented", tri, got, isOriented)
	}
	form, code := impl.OrientedForm(tri)
	if code != impl.ErrNone || !sameTriangulation(form, exchangedWhere(t, tri, want)) || isOriented && !sameTriangulation(form, tri) {
		t.Fatal("OrientedForm", tri, form, code)
	}
	if !impl.IsOriented(form) || !isModelOrientation(form, repeated(1, len(tri.Tets))) {
		t.Fatal("IsOriented", tri, form)
	}
	if again, code := impl.OrientedForm(form); code != impl.ErrNone || !sameTriangulation(again, form) {
		t.Fatal("OrientedForm", form, again, code)
	}
}

// checkExactlyOne sees that there is an orientation or a path that reverses it, and not both.
func checkExactlyOne(t *testing.T, tri impl.Triangulation) bool {
	t.Helper()
	want, isOrientable := modelOrientation(tri)
	if isOrientable {
		checkOrientation(t, tri, want)
	} else {
		checkNoOrientation(t, tri, impl.ErrState)
	}
	path, ok := impl.OrientationPath(tri)
	if ok == isOrientable || ok != (len(path) > 0) {
		t.Fatal("OrientationPath", tri, path, ok)
	}
	if isOrientable {
		return true
	}
	if isReversing, code := reversesInModel(tri, path); !isReversing || code != impl.ErrNone {
		t.Fatal("OrientationPath", tri, path, code)
	}
	return false
}

func checkMirror(t *testing.T, tri impl.Triangulation) {
	t.Helper()
	mirror, code := impl.MirrorForm(tri)
	if code != impl.ErrNone || !sameTriangulation(mirror, exchangedWhere(t, tri, repeated(-1, len(tri.Tets)))) {
		t.Fatal("MirrorForm", tri, mirror, code)
	}
	if back, code := impl.MirrorForm(mirror); code != impl.ErrNone || !sameTriangulation(back, tri) {
		t.Fatal("MirrorForm", tri, mirror, back, code)
	}
	// All signs of permutations stay as they are, and so do the signs of the tetrahedra.
	signs, code := impl.OrientationOf(tri)
	mirrorSigns, mirrorCode := impl.OrientationOf(mirror)
	if code != mirrorCode || !slices.Equal(signs, mirrorSigns) || impl.IsOriented(tri) != impl.IsOriented(mirror) {
		t.Fatal("OrientationOf", tri, signs, mirrorSigns, code, mirrorCode)
	}
}

// orientationRow has a triangulation with its orientation and oriented form, or a path that reverses it.
type orientationRow struct {
	text   string
	signs  []int64
	path   [][]int64
	form   string
	mirror string
}

func orientationRows() []orientationRow {
	circle := "1:0123 1:2103 - -;0:0123 0:2103 - -;"
	mirrored := "1:0123 1:3120 - -;0:0123 0:3120 - -;"
	return []orientationRow{
		{},
		{"- - - -;", []int64{1}, nil, "- - - -;", "- - - -;"},
		{"- - - -;- - - -;", []int64{1, 1}, nil, "- - - -;- - - -;", "- - - -;- - - -;"},
		// A face that is glued to another one of the same tetrahedron.
		{"0:1023 0:1023 - -;", []int64{1}, nil, "0:1023 0:1023 - -;", "0:1023 0:1023 - -;"},
		{"0:1230 0:3012 - -;", []int64{1}, nil, "0:1230 0:3012 - -;", "0:1302 0:2031 - -;"},
		{"0:1203 0:2013 - -;", nil, pairsOfNumbers(0, 0), "", "0:1320 0:3021 - -;"},
		{"- - 0:1032 0:1032;", nil, pairsOfNumbers(0, 2), "", "- - 0:1032 0:1032;"},
		{"- 0:0321 - 0:0321;", []int64{1}, nil, "- 0:0321 - 0:0321;", "- 0:0213 0:0213 -;"},
		{"- 0:1320 - 0:3021;", nil, pairsOfNumbers(0, 1), "", "- 0:1203 0:2013 -;"},
		{"0:1023 0:1023 0:0132 0:0132;", []int64{1}, nil, "0:1023 0:1023 0:0132 0:0132;", "0:1023 0:1023 0:0132 0:0132;"},
		{"0:1023 0:1023 0:1032 0:1032;", nil, pairsOfNumbers(0, 2), "", "0:1023 0:1023 0:1032 0:1032;"},
		{"0:1032 0:1032 0:0132 0:0132;", nil, pairsOfNumbers(0, 0), "", "0:1032 0:1032 0:0132 0:0132;"},
		// Two tetrahedra: the same sign across an odd permutation, and different ones across an even one.
		{"1:0132 - - -;0:0132 - - -;", []int64{1, 1}, nil, "1:0132 - - -;0:0132 - - -;", "1:0132 - - -;0:0132 - - -;"},
		{"1:0123 - - -;0:0123 - - -;", []int64{1, -1}, nil, "1:0132 - - -;0:0132 - - -;", "1:0123 - - -;0:0123 - - -;"},
		{"1:0123 1:0123 - -;0:0123 0:0123 - -;", []int64{1, -1}, nil, "1:0132 1:0132 - -;0:0132 0:0132 - -;", "1:0123 1:0123 - -;0:0123 0:0123 - -;"},
		{circle, nil, pairsOfNumbers(0, 0, 1, 1), "", mirrored},
		{"1:0123 - - -;0:0123 - 1:1032 1:1032;", nil, pairsOfNumbers(1, 2), "", "1:0123 - - -;0:0123 - 1:1032 1:1032;"},
		// Several components, one of which may be around another one.
		{"2:0123 - - -;- - - -;0:0123 - - -;", []int64{1, 1, -1}, nil, "2:0132 - - -;- - - -;0:0132 - - -;", "2:0123 - - -;- - - -;0:0123 - - -;"},
		{"- - - -;1:1203 1:2013 - -;", nil, pairsOfNumbers(1, 0), "", "- - - -;1:1320 1:3021 - -;"},
		{"0:1203 0:2013 - -;- - - -;", nil, pairsOfNumbers(0, 0), "", "0:1320 0:3021 - -;- - - -;"},
		{circle + "2:1203 2:2013 - -;", nil, pairsOfNumbers(2, 0), "", mirrored + "2:1320 2:3021 - -;"},
		{circle + "3:0123 3:2103 - -;2:0123 2:2103 - -;", nil, pairsOfNumbers(0, 0, 1, 1), "", mirrored + "3:0123 3:3120 - -;2:0123 2:3120 - -;"},
		// Three and four tetrahedra around an edge.
		{"1:0123 - 2:0123 -;0:0123 2:0123 - -;- 1:0123 0:0123 -;", nil, pairsOfNumbers(0, 0, 1, 1, 2, 2), "",
			"1:0123 - - 2:0123;0:0123 2:0123 - -;- 1:0123 - 0:0123;"},
		{"1:0123 - - 3:0123;0:0123 2:0123 - -;- 1:0123 3:0123 -;- - 2:0123 0:0123;", []int64{1, -1, 1, -1}, nil,
			"1:0132 - - 3:0132;0:0132 2:0132 - -;- 1:0132 3:0132 -;- - 0:0132 2:0132;",
			"1:0123 - 3:0123 -;0:0123 2:0123 - -;- 1:0123 - 3:0123;- - 0:0123 2:0123;"},
	}
}

func (row orientationRow) check(t *testing.T) {
	t.Helper()
	tri, ok := impl.ReadTriangulation(row.text)
	if !ok {
		t.Fatal(row.text)
	}
	isOrientable := row.path == nil
	if checkExactlyOne(t, tri) != isOrientable {
		t.Error("orientable", row.text)
	}
	signs, code := impl.OrientationOf(tri)
	if !slices.Equal(signs, row.signs) || (code == impl.ErrNone) != isOrientable {
		t.Error("OrientationOf", row.text, signs, code)
	}
	if path, ok := impl.OrientationPath(tri); ok == isOrientable || !sameLists(path, row.path) {
		t.Error("OrientationPath", row.text, path, ok)
	}
	if isOriented := impl.IsOriented(tri); isOriented != (isOrientable && row.form == row.text) {
		t.Error("IsOriented", row.text, isOriented)
	}
	form, _ := impl.OrientedForm(tri)
	mirror, _ := impl.MirrorForm(tri)
	if modelText(form) != row.form || modelText(mirror) != row.mirror {
		t.Error("OrientedForm, MirrorForm", row.text, modelText(form), modelText(mirror))
	}
}

func TestOrientationsByHand(t *testing.T) {
	for _, row := range orientationRows() {
		row.check(t)
	}
}

func TestOrientationsOfSamples(t *testing.T) {
	for _, tri := range orientationSamples() {
		checkExactlyOne(t, tri)
		checkMirror(t, tri)
	}
}

// TestCountedOrientations counts orientable triangulations. If gluings join the tetrahedra, there are two
// choices of signs up to exchanging all; for each of them, three of the six permutations fit each gluing.
func TestCountedOrientations(t *testing.T) {
	rows := []struct {
		list []impl.Triangulation
		want int
	}{
		{oneTetTriangulations(), 1 + 6*3 + 3*3*3},
		{closedTwos(), 15 * 3 * 3 * 3},
		{gluedTwos(0), 1},
		{gluedTwos(1), 2*6*3 + 16*6},
		// Of the 210 pairs of gluings, 2 * 3 + 6 * 6 join no tetrahedra.
		{gluedTwos(2), 42*3*3 + 168*2*3*3},
	}
	for _, row := range rows {
		count := 0
		for _, tri := range row.list {
			if checkExactlyOne(t, tri) {
				count++
			}
			checkMirror(t, tri)
		}
		if count != row.want {
			t.Error(len(row.list), count, row.want)
		}
	}
}

// TestCountedManifolds counts manifolds that do not only differ by their numberings: of the 4 closed ones
// with one tetrahedron and the 17 with two, all but one are orientable.
func TestCountedManifolds(t *testing.T) {
	orientable, others := map[int]int{}, map[int]int{}
	for _, tri := range countedTriangulations() {
		switch {
		case impl.IsIdeal(tri):
			continue
		case impl.IsOrientable(tri):
			orientable[len(tri.Tets)]++
		default:
			others[len(tri.Tets)]++
		}
	}
	if orientable[1] != 4 || orientable[2] != 16 || others[1] != 0 || others[2] != 1 {
		t.Error(orientable, others)
	}
}

// TestOrientationsOfSurfaces sees that cones over surfaces, and their products with an interval and with
// a circle, are orientable exactly if the surfaces are.
func TestOrientationsOfSurfaces(t *testing.T) {
	counts := map[bool]int{}
	check := func(tri impl.Triangulation, s surface) {
		t.Helper()
		want := s.isOrientableWith(func(int64) bool { return true })
		if got := checkExactlyOne(t, tri); got != want {
			t.Fatal(s, tri, got)
		}
		counts[want]++
	}
	for _, s := range smallSurfaces() {
		check(coneOf(s), s)
		if s.triangles <= 4 {
			check(doubled(coneOf(s)), s)
		}
	}
	for _, s := range append(surfacesOf(1, false), surfacesOf(2, false)...) {
		check(thickened(s), s)
		check(bundleOf(s), s)
	}
	if counts[true] < 100 || counts[false] < 100 {
		t.Error(counts)
	}
}

// TestOrientationsAndLinks sees that in an orientable triangulation all links are orientable, and no edge
// is reversed.
func TestOrientationsAndLinks(t *testing.T) {
	links, edges := 0, 0
	for _, tri := range orientationSamples() {
		hasOther, hasReversed := false, slices.Contains(reversedClasses(tri), true)
		for class := range impl.ClassCounts(tri)[0] {
			hasOther = hasOther || !impl.LinkIsOrientable(tri, class)
		}
		if impl.IsOrientable(tri) && (hasOther || hasReversed) {
			t.Fatal(tri, hasOther, hasReversed)
		}
		if hasOther {
			links++
		}
		if hasReversed {
			edges++
		}
	}
	if links < 100 || edges < 100 {
		t.Error(links, edges)
	}
}

func TestOrientationOfEmpty(t *testing.T) {
	for _, empty := range []impl.Triangulation{{}, {Tets: [][]impl.Face{}}} {
		checkOrientation(t, empty, nil)
		checkMirror(t, empty)
		if path, ok := impl.OrientationPath(empty); ok || len(path) != 0 {
			t.Error("OrientationPath", path, ok)
		}
		if cover, code := impl.DoubleCover(empty); code != impl.ErrNone || !isZeroTriangulation(cover) {
			t.Error("DoubleCover", cover, code)
		}
	}
}

// checkNothing sees that nothing is said about a triangulation that is not valid.
func checkNothing(t *testing.T, bad impl.Triangulation) {
	t.Helper()
	checkNoOrientation(t, bad, impl.ErrInvalid)
	if mirror, code := impl.MirrorForm(bad); code != impl.ErrInvalid || !isZeroTriangulation(mirror) {
		t.Fatal("MirrorForm", bad, mirror, code)
	}
	if cover, code := impl.DoubleCover(bad); code != impl.ErrInvalid || !isZeroTriangulation(cover) {
		t.Fatal("DoubleCover", bad, cover, code)
	}
	if path, ok := impl.OrientationPath(bad); ok || len(path) != 0 {
		t.Fatal("OrientationPath", bad, path, ok)
	}
	tooLong := slices.Repeat(pairsOfNumbers(0, 0), 17)
	for _, path := range [][][]int64{nil, pairsOfNumbers(0, 0), pairsOfNumbers(0, 4), pairsOfNumbers(-1, 0), {{}}, tooLong} {
		if isReversing, code := impl.ReversesOrientation(bad, path); isReversing || code != impl.ErrInvalid {
			t.Fatal("ReversesOrientation", bad, path, isReversing, code)
		}
	}
}

func TestOrientationCodes(t *testing.T) {
	for _, bad := range badTriangulations() {
		checkNothing(t, bad)
	}
}

// TestOrientationsBesideInvalidTetrahedra has one change that makes a triangulation invalid, whether it
// is orientable or not, and whether its double cover would be too large or not.
func TestOrientationsBesideInvalidTetrahedra(t *testing.T) {
	for _, text := range []string{"- - - -;", "0:1023 0:1023 0:0132 0:0132;", "0:1203 0:2013 - -;", "1:0123 - - -;0:0123 - - -;"} {
		for _, more := range []int{1, 2, 3, 6} {
			tri, _ := impl.ReadTriangulation(text)
			for _, spoil := range []func(faces []impl.Face){
				func(faces []impl.Face) { faces[3].Perm = 1 },
				func(faces []impl.Face) { faces[3].Perm = minInt },
				func(faces []impl.Face) { faces[3].Tet = 0 },
				func(faces []impl.Face) { faces[0].Tet = maxInt },
				func(faces []impl.Face) { faces[0].Tet = minInt },
				func(faces []impl.Face) { faces[2] = impl.Face{Tet: 0, Perm: 0} },
			} {
				union, _ := impl.UnionTriangulations(tri, unglued(more))
				spoil(union.Tets[len(union.Tets)-1])
				checkNothing(t, union)
			}
		}
	}
}
