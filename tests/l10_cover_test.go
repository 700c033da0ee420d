package tests

import (
	"slices"
	"testing"

	"loop.example/g00870/impl"
)

// coverModel writes both tetrahedra over each one, face by face.
func coverModel(tri impl.Triangulation) impl.Triangulation {
	n := int64(len(tri.Tets))
	cover := unglued(int(2 * n))
	for a, faces := range tri.Tets {
		for f, face := range faces {
			if face.Tet < 0 {
				continue
			}
			here, there := face.Tet, face.Tet+n
			if signsOfFour()[face.Perm] == 1 {
				here, there = there, here
			}
			cover.Tets[a][f] = impl.Face{Tet: here, Perm: face.Perm}
			cover.Tets[int64(a)+n][f] = impl.Face{Tet: there, Perm: face.Perm}
		}
	}
	return cover
}

// partOf returns one component, whose tetrahedra keep their order.
func partOf(tri impl.Triangulation, component int64) impl.Triangulation {
	var numbers []int64
	for a, c := range componentsOf(tri) {
		if c == component {
			numbers = append(numbers, int64(a))
		}
	}
	part := impl.Triangulation{}
	for _, a := range numbers {
		faces := slices.Clone(tri.Tets[a])
		for f := range faces {
			if faces[f].Tet >= 0 {
				faces[f].Tet = int64(slices.Index(numbers, faces[f].Tet))
			}
		}
		part.Tets = append(part.Tets, faces)
	}
	return part
}

// checkCover compares the double cover with the model, and sees that it has two components over each
// orientable component, and one over each other one.
func checkCover(t *testing.T, tri impl.Triangulation) impl.Triangulation {
	t.Helper()
	cover, code := impl.DoubleCover(tri)
	if code != impl.ErrNone || !sameTriangulation(cover, coverModel(tri)) || !isModelTriangulation(cover) || !impl.IsTriangulation(cover) {
		t.Fatal("DoubleCover", tri, cover, code)
	}
	n := len(tri.Tets)
	if !impl.IsOrientable(cover) || !isModelOrientable(cover) || !isModelOrientation(cover, append(repeated(1, n), repeated(-1, n)...)) {
		t.Fatal("IsOrientable", tri, cover)
	}
	if path, ok := impl.OrientationPath(cover); ok || len(path) > 0 {
		t.Fatal("OrientationPath", tri, cover, path)
	}
	want := int64(0)
	for component := range countComponents(componentsOf(tri)) {
		want++
		if isModelOrientable(partOf(tri, component)) {
			want++
		}
	}
	if got := countComponents(impl.TetComponents(cover)); got != want || got != countComponents(componentsOf(cover)) {
		t.Fatal("TetComponents", tri, cover, got, want)
	}
	return cover
}

// coverSamples has the samples of which there are double covers.
func coverSamples() []impl.Triangulation {
	return slices.DeleteFunc(slices.Clone(orientationSamples()), func(tri impl.Triangulation) bool { return len(tri.Tets) > 4 })
}

func TestCoversByHand(t *testing.T) {
	rows := [][]string{
		{"", ""},
		{"- - - -;", "- - - -;- - - -;"},
		{"0:1023 0:1023 - -;", "0:1023 0:1023 - -;1:1023 1:1023 - -;"},
		{"0:1203 0:2013 - -;", "1:1203 1:2013 - -;0:1203 0:2013 - -;"},
		{"0:1023 0:1023 0:1032 0:1032;", "0:1023 0:1023 1:1032 1:1032;1:1023 1:1023 0:1032 0:1032;"},
		{"1:0132 - - -;0:0132 - - -;", "1:0132 - - -;0:0132 - - -;3:0132 - - -;2:0132 - - -;"},
		{"1:0123 - - -;0:0123 - - -;", "3:0123 - - -;2:0123 - - -;1:0123 - - -;0:0123 - - -;"},
		{"1:0123 1:2103 - -;0:0123 0:2103 - -;", "3:0123 1:2103 - -;2:0123 0:2103 - -;1:0123 3:2103 - -;0:0123 2:2103 - -;"},
		{"- - - -;1:1203 1:2013 - -;", "- - - -;3:1203 3:2013 - -;- - - -;1:1203 1:2013 - -;"},
	}
	for _, row := range rows {
		tri, ok := impl.ReadTriangulation(row[0])
		if !ok {
			t.Fatal(row)
		}
		if text := modelText(checkCover(t, tri)); text != row[1] {
			t.Error(row, text)
		}
	}
}

func TestCoversOfSamples(t *testing.T) {
	sizes := map[int]int{}
	for _, tri := range coverSamples() {
		checkCover(t, tri)
		sizes[len(tri.Tets)]++
	}
	if len(sizes) != 5 || sizes[4] < 50 {
		t.Error(sizes)
	}
	for _, tri := range slices.Concat(closedTwos(), gluedTwos(1), gluedTwos(2)) {
		checkCover(t, tri)
	}
}

// TestCoversOfOriented sees two copies of oriented triangulations, and in another numbering two copies of
// orientable ones.
func TestCoversOfOriented(t *testing.T) {
	oriented, orientable := 0, 0
	for _, tri := range coverSamples() {
		form, code := impl.OrientedForm(tri)
		if code != impl.ErrNone {
			continue
		}
		twice, _ := impl.UnionTriangulations(form, form)
		if cover := checkCover(t, form); !sameTriangulation(cover, twice) {
			t.Fatal(tri, form, cover)
		}
		orientable++
		if impl.IsOriented(tri) {
			oriented++
			continue
		}
		// A tetrahedron with the sign -1 has its two copies exchanged.
		n := int64(len(tri.Tets))
		signs, _ := impl.OrientationOf(tri)
		tets, perms := identityList(2*n), repeated(0, int(2*n))
		for a, sign := range signs {
			if sign == -1 {
				tets[a], tets[int64(a)+n] = int64(a)+n, int64(a)
				perms[a], perms[int64(a)+n] = 1, 1
			}
		}
		if moved, code := impl.RelabelTriangulation(checkCover(t, tri), tets, perms); code != impl.ErrNone || !sameTriangulation(moved, twice) {
			t.Fatal(tri, moved, twice)
		}
	}
	if oriented < 100 || orientable < oriented+100 {
		t.Error(oriented, orientable)
	}
}

// TestCopiesInCovers exchanges both copies of all tetrahedra: nothing changes.
func TestCopiesInCovers(t *testing.T) {
	for _, tri := range coverSamples() {
		cover := checkCover(t, tri)
		n := int64(len(tri.Tets))
		tets := append(identityList(2 * n)[n:], identityList(n)...)
		if moved, code := impl.RelabelTriangulation(cover, tets, repeated(0, int(2*n))); code != impl.ErrNone || !sameTriangulation(moved, cover) {
			t.Fatal(tri, cover, moved)
		}
	}
}

// TestCellsOfCovers counts cells: there are two over each one, but for a vertex class whose link is not
// orientable, and for a reversed edge class, which have one above them.
func TestCellsOfCovers(t *testing.T) {
	single, turned := 0, 0
	for _, tri := range coverSamples() {
		cover := checkCover(t, tri)
		counts := impl.ClassCounts(tri)
		want := []int64{2 * counts[0], 2 * counts[1], 2 * counts[2], 2 * counts[3]}
		for class := range counts[0] {
			if !impl.LinkIsOrientable(tri, class) {
				want[0]--
				single++
			}
		}
		for class := range counts[1] {
			if impl.IsReversedEdge(tri, class) {
				want[1]--
				turned++
			}
		}
		got := impl.ClassCounts(cover)
		if !slices.Equal(got, want) {
			t.Fatal(tri, cover, got, want)
		}
		for class := range got[0] {
			if !impl.LinkIsOrientable(cover, class) {
				t.Fatal("a link", tri, cover, class)
			}
		}
		for class := range got[1] {
			if impl.IsReversedEdge(cover, class) {
				t.Fatal("an edge", tri, cover, class)
			}
		}
	}
	if single < 50 || turned < 50 {
		t.Error(single, turned)
	}
}

// TestCoversOfCones sees that the double cover of a cone over a surface that is not orientable is the cone
// over the double cover of the surface: one over a sphere, if the surface is a projective plane.
func TestCoversOfCones(t *testing.T) {
	kinds := map[int64]int{}
	for _, s := range smallSurfaces() {
		if s.triangles > 4 {
			continue
		}
		cover := checkCover(t, coneOf(s))
		skeleton, _ := impl.SkeletonOf(cover)
		for a, facts := range s.facts() {
			want := surfaceFacts{euler: 2 * facts.euler, isClosed: facts.isClosed, orientable: true}
			if facts.orientable {
				want = facts
			}
			class, other := skeleton.Vertices[a][3], skeleton.Vertices[a+s.triangles][3]
			euler, _ := impl.LinkEuler(cover, class)
			if (class == other) == facts.orientable || euler != want.euler || impl.LinkKind(cover, class) != want.kind() || !impl.LinkIsOrientable(cover, class) {
				t.Fatal(s, cover, a, class, other, euler, want)
			}
			if !facts.orientable && facts.isClosed {
				kinds[want.kind()]++
			}
		}
	}
	if kinds[impl.LinkSphere] < 10 || kinds[impl.LinkTorus] < 5 || kinds[impl.LinkKlein] != 0 {
		t.Error(kinds)
	}
}

// TestCoverLimit has triangulations of all sizes, orientable or not, with and without gluings.
func TestCoverLimit(t *testing.T) {
	seed := numbers(101)
	for tets := int64(1); tets <= 8; tets++ {
		list := []impl.Triangulation{unglued(int(tets)), seed.necklace(tets, tets, true), seed.necklace(tets, 0, false), seed.triangulation(tets, 2*tets)}
		for _, tri := range list {
			if tets <= 4 {
				checkCover(t, tri)
				continue
			}
			if cover, code := impl.DoubleCover(tri); code != impl.ErrLimit || !isZeroTriangulation(cover) {
				t.Fatal(tri, cover, code)
			}
		}
	}
	for tets := 9; tets <= 20; tets++ {
		if cover, code := impl.DoubleCover(unglued(tets)); code != impl.ErrInvalid || !isZeroTriangulation(cover) {
			t.Fatal(tets, cover, code)
		}
	}
}
