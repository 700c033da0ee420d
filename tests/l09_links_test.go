package tests

import (
	"slices"
	"testing"

	"loop.example/g00870/impl"
)

func TestLinkConstants(t *testing.T) {
	if impl.LinkSphere != 0 || impl.LinkDisc != 1 || impl.LinkTorus != 2 || impl.LinkKlein != 3 || impl.LinkOther != 4 {
		t.Fatal("the kinds of links")
	}
}

// pairsOfNumbers returns pairs of numbers that follow each other.
func pairsOfNumbers(list ...int64) [][]int64 {
	var pairs [][]int64
	for pair := range slices.Chunk(list, 2) {
		pairs = append(pairs, pair)
	}
	return pairs
}

// linkRow has what is said about one link.
type linkRow struct {
	kind, euler          int64
	isClosed, orientable bool
	corners              [][]int64
}

func (row linkRow) check(t *testing.T, tri impl.Triangulation, class int64) {
	t.Helper()
	if corners, code := impl.LinkCorners(tri, class); code != impl.ErrNone || !sameLists(corners, row.corners) {
		t.Fatal("LinkCorners", tri, class, corners, code, row.corners)
	}
	if euler, code := impl.LinkEuler(tri, class); code != impl.ErrNone || euler != row.euler {
		t.Fatal("LinkEuler", tri, class, euler, code, row.euler)
	}
	if isClosed := impl.LinkIsClosed(tri, class); isClosed != row.isClosed {
		t.Fatal("LinkIsClosed", tri, class, isClosed)
	}
	if orientable := impl.LinkIsOrientable(tri, class); orientable != row.orientable {
		t.Fatal("LinkIsOrientable", tri, class, orientable)
	}
	if kind := impl.LinkKind(tri, class); kind != row.kind {
		t.Fatal("LinkKind", tri, class, kind, row.kind)
	}
}

// checkNoLink sees that there is no link, for this reason.
func checkNoLink(t *testing.T, tri impl.Triangulation, class int64, want int64) {
	t.Helper()
	if corners, code := impl.LinkCorners(tri, class); code != want || len(corners) != 0 {
		t.Fatal("LinkCorners", tri, class, corners, code, want)
	}
	if euler, code := impl.LinkEuler(tri, class); code != want || euler != 0 {
		t.Fatal("LinkEuler", tri, class, euler, code, want)
	}
	if impl.LinkIsClosed(tri, class) || impl.LinkIsOrientable(tri, class) {
		t.Fatal("LinkIsClosed, LinkIsOrientable", tri, class)
	}
	if kind := impl.LinkKind(tri, class); kind != -1 {
		t.Fatal("LinkKind", tri, class, kind)
	}
}

// checkLinks compares all links with the model.
func checkLinks(t *testing.T, tri impl.Triangulation) {
	t.Helper()
	links := linksOf(tri)
	for class, l := range links {
		linkRow{l.kind(), l.euler, l.isClosed(), l.orientable, l.corners}.check(t, tri, int64(class))
	}
	for _, bad := range badClassesFor(len(links)) {
		checkNoLink(t, tri, bad, impl.ErrRange)
	}
	if isManifold := impl.IsManifold(tri); isManifold != isModelManifold(tri) {
		t.Fatal("IsManifold", tri, isManifold)
	}
	if isIdeal := impl.IsIdeal(tri); isIdeal != isModelIdeal(tri) {
		t.Fatal("IsIdeal", tri, isIdeal)
	}
}

func TestLinksByHand(t *testing.T) {
	disc := func(corners ...int64) linkRow {
		return linkRow{impl.LinkDisc, 1, false, true, pairsOfNumbers(corners...)}
	}
	sphere := func(corners ...int64) linkRow {
		return linkRow{impl.LinkSphere, 2, true, true, pairsOfNumbers(corners...)}
	}
	torus := linkRow{impl.LinkTorus, 0, true, true, pairsOfNumbers(0, 0, 0, 1, 0, 2, 0, 3, 1, 0, 1, 1, 1, 2, 1, 3)}
	klein := linkRow{impl.LinkKlein, 0, true, false, pairsOfNumbers(0, 0, 0, 1, 0, 2, 0, 3)}
	other := func(euler int64, isClosed bool, orientable bool, corners ...int64) linkRow {
		return linkRow{impl.LinkOther, euler, isClosed, orientable, pairsOfNumbers(corners...)}
	}
	rows := []struct {
		text       string
		links      []linkRow
		isManifold bool
		isIdeal    bool
	}{
		{text: ""},
		{"- - - -;", []linkRow{disc(0, 0), disc(0, 1), disc(0, 2), disc(0, 3)}, true, false},
		{"- - - -;- - - -;", []linkRow{disc(0, 0), disc(0, 1), disc(0, 2), disc(0, 3), disc(1, 0), disc(1, 1), disc(1, 2), disc(1, 3)}, true, false},
		{"1:0123 - - -;0:0123 - - -;", []linkRow{disc(0, 0), disc(0, 1, 1, 1), disc(0, 2, 1, 2), disc(0, 3, 1, 3), disc(1, 0)}, true, false},
		{"1:0123 1:0123 1:0123 -;0:0123 0:0123 0:0123 -;", []linkRow{disc(0, 0, 1, 0), disc(0, 1, 1, 1), disc(0, 2, 1, 2), sphere(0, 3, 1, 3)}, true, false},
		{"1:0123 1:0123 1:0123 1:0123;0:0123 0:0123 0:0123 0:0123;", []linkRow{sphere(0, 0, 1, 0), sphere(0, 1, 1, 1), sphere(0, 2, 1, 2), sphere(0, 3, 1, 3)}, true, false},
		// Two sides of the triangles of 2 and 3 are glued to each other: these are cones.
		{"0:1023 0:1023 - -;", []linkRow{disc(0, 0, 0, 1), disc(0, 2), disc(0, 3)}, true, false},
		{"0:1023 0:1023 0:0132 0:0132;", []linkRow{sphere(0, 0, 0, 1), sphere(0, 2, 0, 3)}, true, false},
		// A solid torus.
		{"0:1230 0:3012 - -;", []linkRow{disc(0, 0, 0, 1, 0, 2, 0, 3)}, true, false},
		// A Moebius band, then the same one in a closed triangulation: a projective plane.
		{"0:1203 0:2013 - -;", []linkRow{disc(0, 0, 0, 1, 0, 2), other(0, false, false, 0, 3)}, false, false},
		{"0:1203 0:2013 0:0132 0:0132;", []linkRow{other(1, true, false, 0, 0, 0, 1, 0, 2, 0, 3)}, false, false},
		{"0:1203 0:2013 0:0231 0:0312;", []linkRow{klein}, false, true},
		{"1:0321 1:1302 1:0213 1:0132;0:0321 0:0213 0:0132 0:2031;", []linkRow{torus}, false, true},
		{"0:1203 0:2013 1:3120 1:1230;0:3012 1:0312 0:3120 1:0231;", []linkRow{
			{impl.LinkKlein, 0, true, false, pairsOfNumbers(0, 0, 0, 1, 0, 2, 1, 1, 1, 2, 1, 3)},
			{impl.LinkKlein, 0, true, false, pairsOfNumbers(0, 3, 1, 0)},
		}, false, true},
		// A surface of genus 2, around one edge class.
		{"1:2301 1:1320 1:1203 1:0231;0:2013 0:0312 0:2301 0:3021;", []linkRow{other(-2, true, true, 0, 0, 0, 1, 0, 2, 0, 3, 1, 0, 1, 1, 1, 2, 1, 3)}, false, false},
		// Reversed edge classes, with links that would do.
		{"- - 0:1032 0:1032;", []linkRow{disc(0, 0, 0, 1), disc(0, 2, 0, 3)}, false, false},
		{"0:1032 0:1032 0:1032 0:1032;", []linkRow{sphere(0, 0, 0, 1), sphere(0, 2, 0, 3)}, false, false},
		{"0:2301 0:0312 0:2301 0:0231;", []linkRow{klein}, false, false},
		// An annulus, and other links with boundary.
		{"2:3120 - - 1:2031;2:0231 0:1302 2:1023 -;1:0312 - 1:1023 0:3120;", []linkRow{other(0, false, true, 0, 0, 0, 1, 0, 2, 0, 3, 1, 0, 1, 1, 1, 2, 1, 3, 2, 0, 2, 1, 2, 2, 2, 3)}, false, false},
		{"- 1:1023 - 1:2031;0:1023 0:1302 1:2031 1:1302;", []linkRow{other(-1, false, true, 0, 0, 0, 1, 0, 2, 0, 3, 1, 0, 1, 1, 1, 2, 1, 3)}, false, false},
	}
	for _, row := range rows {
		tri, ok := impl.ReadTriangulation(row.text)
		if !ok {
			t.Fatal(row.text)
		}
		checkLinks(t, tri)
		for class, link := range row.links {
			link.check(t, tri, int64(class))
		}
		checkNoLink(t, tri, int64(len(row.links)), impl.ErrRange)
		if isManifold, isIdeal := impl.IsManifold(tri), impl.IsIdeal(tri); isManifold != row.isManifold || isIdeal != row.isIdeal {
			t.Error(row.text, isManifold, isIdeal)
		}
	}
}

func TestLinksOfSamples(t *testing.T) {
	for _, tri := range linkSamples() {
		checkLinks(t, tri)
	}
}

// TestLinkCornersAreClasses sees that the corners are the vertices of the class, in order.
func TestLinkCornersAreClasses(t *testing.T) {
	for _, tri := range linkSamples() {
		s, _ := impl.SkeletonOf(tri)
		want := make([][][]int64, impl.ClassCounts(tri)[0])
		for tet, classes := range s.Vertices {
			for v, class := range classes {
				want[class] = append(want[class], []int64{int64(tet), int64(v)})
			}
		}
		for class, corners := range want {
			if got, code := impl.LinkCorners(tri, int64(class)); code != impl.ErrNone || !sameLists(got, corners) {
				t.Fatal(tri, class, got, code, corners)
			}
		}
	}
}

// TestKindsFollowFromFacts sees that the kinds agree with the other functions.
func TestKindsFollowFromFacts(t *testing.T) {
	for _, tri := range linkSamples() {
		kinds := []int64{}
		for class := range impl.ClassCounts(tri)[0] {
			euler, _ := impl.LinkEuler(tri, class)
			free := int64(1)
			if impl.LinkIsClosed(tri, class) {
				free = 0
			}
			want := linkModel{euler: euler, free: free, orientable: impl.LinkIsOrientable(tri, class)}.kind()
			if kind := impl.LinkKind(tri, class); kind != want {
				t.Fatal(tri, class, kind, want)
			}
			kinds = append(kinds, want)
		}
		isReversed := false
		for class := range impl.ClassCounts(tri)[1] {
			isReversed = isReversed || impl.IsReversedEdge(tri, class)
		}
		isManifold := len(tri.Tets) > 0 && !isReversed && !slices.ContainsFunc(kinds, func(kind int64) bool { return kind > impl.LinkDisc })
		isIdeal := impl.IsClosed(tri) && !isReversed && !slices.ContainsFunc(kinds, func(kind int64) bool { return kind != impl.LinkTorus && kind != impl.LinkKlein })
		if impl.IsManifold(tri) != isManifold || impl.IsIdeal(tri) != isIdeal {
			t.Fatal(tri, kinds, isReversed, isManifold, isIdeal)
		}
	}
}

// TestLinksOfUnions puts parts of all sorts in front of each other and behind: one link or one edge that
// does not do is enough, wherever it is.
func TestLinksOfUnions(t *testing.T) {
	texts := []string{
		"",
		"- - - -;",
		"0:1230 0:3012 - -;",
		"0:1023 0:1023 0:0132 0:0132;",
		"0:1203 0:2013 - -;",
		"0:1203 0:2013 0:0132 0:0132;",
		"0:1203 0:2013 0:0231 0:0312;",
		"1:0321 1:1302 1:0213 1:0132;0:0321 0:0213 0:0132 0:2031;",
		"1:2301 1:1320 1:1203 1:0231;0:2013 0:0312 0:2301 0:3021;",
		"- - 0:1032 0:1032;",
		"0:1032 0:1032 0:1032 0:1032;",
		"0:2301 0:0312 0:2301 0:0231;",
	}
	for _, first := range texts {
		for _, second := range texts {
			a, _ := impl.ReadTriangulation(first)
			b, _ := impl.ReadTriangulation(second)
			union, _ := impl.UnionTriangulations(a, b)
			checkLinks(t, union)
			both := func(is func(impl.Triangulation) bool) bool {
				return (first == "" || is(a)) && (second == "" || is(b)) && first+second != ""
			}
			if impl.IsManifold(union) != both(impl.IsManifold) || impl.IsIdeal(union) != both(impl.IsIdeal) {
				t.Error(first, second)
			}
			shift := int64(len(linksOf(a)))
			for class := range int64(len(linksOf(b))) {
				if got, want := impl.LinkKind(union, shift+class), impl.LinkKind(b, class); got != want {
					t.Error(first, second, class, got, want)
				}
			}
		}
	}
}

func TestLinksOfEmpty(t *testing.T) {
	for _, empty := range []impl.Triangulation{{}, {Tets: [][]impl.Face{}}} {
		for _, class := range append(badClassesFor(0), 0, 1, 31, 32) {
			checkNoLink(t, empty, class, impl.ErrRange)
		}
		if impl.IsManifold(empty) || impl.IsIdeal(empty) {
			t.Error("the empty triangulation")
		}
	}
}

// TestLinkCodes sees that a triangulation that is not valid is found before a class that does not exist.
func TestLinkCodes(t *testing.T) {
	for _, bad := range badTriangulations() {
		for _, class := range append(badClassesFor(4), 0, 1, 2, 3, 31, 32) {
			checkNoLink(t, bad, class, impl.ErrInvalid)
		}
		if impl.IsManifold(bad) || impl.IsIdeal(bad) {
			t.Fatal("IsManifold, IsIdeal", bad)
		}
	}
	for n := 1; n <= 8; n++ {
		for _, class := range badClassesFor(4 * n) {
			checkNoLink(t, unglued(n), class, impl.ErrRange)
		}
		linkRow{impl.LinkDisc, 1, false, true, pairsOfNumbers(int64(n)-1, 3)}.check(t, unglued(n), int64(4*n)-1)
	}
}

// TestLinksBesideInvalidTetrahedra has one change that makes a manifold, or an ideal triangulation,
// invalid.
func TestLinksBesideInvalidTetrahedra(t *testing.T) {
	for _, text := range []string{"- - - -;", "0:1023 0:1023 0:0132 0:0132;", "0:1203 0:2013 0:0231 0:0312;", "- - 0:1032 0:1032;"} {
		tri, _ := impl.ReadTriangulation(text)
		for _, spoil := range []func(faces []impl.Face){
			func(faces []impl.Face) { faces[3].Perm = 1 },
			func(faces []impl.Face) { faces[3].Perm = minInt },
			func(faces []impl.Face) { faces[3].Tet = 1 },
			func(faces []impl.Face) { faces[0].Tet = maxInt },
			func(faces []impl.Face) { faces[2] = impl.Face{Tet: 0, Perm: 0} },
		} {
			union, _ := impl.UnionTriangulations(tri, unglued(1))
			spoil(union.Tets[1])
			for _, class := range []int64{minInt, -1, 0, 1, 4, 100, maxInt} {
				checkNoLink(t, union, class, impl.ErrInvalid)
			}
			if impl.IsManifold(union) || impl.IsIdeal(union) {
				t.Fatal(union)
			}
		}
	}
}
