package tests

import (
	"slices"
	"testing"

	"loop.example/g00870/impl"
)

func TestTriangulationConstants(t *testing.T) {
	if impl.MaxTets != 8 || impl.MaxTriangulationText != 400 {
		t.Error(impl.MaxTets, impl.MaxTriangulationText)
	}
}

// badTetsFor are no indices of n tetrahedra; some of them would be if their upper bits were cut off.
func badTetsFor(n int) []int64 {
	return []int64{minInt, minInt + 1, -1 << 32, -256, -2, -1, int64(n), int64(n) + 1, 8, 9, 255, 256, 1 << 16, 1 << 32, maxInt - 1, maxInt}
}

// checkValidity compares what is said about t with the model.
func checkValidity(t *testing.T, tri impl.Triangulation) bool {
	t.Helper()
	want := isModelTriangulation(tri)
	if got := impl.IsTriangulation(tri); got != want {
		t.Fatal("IsTriangulation", len(tri.Tets), tri.Tets[:min(len(tri.Tets), 8)], got, want)
	}
	var free [][]int64
	if want {
		free = freeFaces(tri)
	}
	if got := impl.BoundaryFaces(tri); !sameLists(got, free) || !want && got != nil {
		t.Fatal("BoundaryFaces", tri, got, free)
	}
	isClosed := want && len(tri.Tets) > 0 && len(free) == 0
	if got := impl.IsClosed(tri); got != isClosed {
		t.Fatal("IsClosed", tri, got, isClosed)
	}
	return want
}

func TestValidityByHand(t *testing.T) {
	none := impl.Face{Tet: -1}
	two := impl.Triangulation{Tets: [][]impl.Face{{{Tet: 1, Perm: 1}, none, none, none}, {{Tet: 0, Perm: 1}, none, none, none}}}
	turned := impl.Triangulation{Tets: [][]impl.Face{{{Tet: 0, Perm: 8}, {Tet: 0, Perm: 12}, none, none}}}
	if !impl.IsTriangulation(two) || !impl.IsTriangulation(turned) || impl.IsClosed(two) || impl.IsClosed(turned) {
		t.Error("two valid triangulations")
	}
	if got := impl.BoundaryFaces(two); !sameLists(got, [][]int64{{0, 1}, {0, 2}, {0, 3}, {1, 1}, {1, 2}, {1, 3}}) {
		t.Error(got)
	}
	if got := impl.BoundaryFaces(turned); !sameLists(got, [][]int64{{0, 2}, {0, 3}}) {
		t.Error(got)
	}
	if got := impl.BoundaryFaces(unglued(1)); !sameLists(got, [][]int64{{0, 0}, {0, 1}, {0, 2}, {0, 3}}) {
		t.Error(got)
	}
	closed := impl.Triangulation{Tets: [][]impl.Face{{{Tet: 0, Perm: 6}, {Tet: 0, Perm: 6}, {Tet: 0, Perm: 1}, {Tet: 0, Perm: 1}}}}
	if !impl.IsTriangulation(closed) || !impl.IsClosed(closed) || len(impl.BoundaryFaces(closed)) != 0 {
		t.Error("a closed triangulation")
	}
	for _, empty := range []impl.Triangulation{{}, {Tets: [][]impl.Face{}}} {
		if !impl.IsTriangulation(empty) || impl.IsClosed(empty) || len(impl.BoundaryFaces(empty)) != 0 {
			t.Error("the empty triangulation")
		}
	}
	for tets := range 10 {
		if impl.IsTriangulation(unglued(tets)) != (tets <= 8) {
			t.Error(tets)
		}
	}
}

// TestValidityOfOneTetrahedron sees all gluings of one tetrahedron that can be written.
func TestValidityOfOneTetrahedron(t *testing.T) {
	valid := 0
	forFacesOfOne(func(tri impl.Triangulation) {
		if checkValidity(t, tri) {
			valid++
		}
	})
	if valid != 145 {
		t.Error(valid)
	}
}

func TestValidityOfSamples(t *testing.T) {
	for _, tri := range sampleTriangulations() {
		if !checkValidity(t, tri) {
			t.Fatal(tri)
		}
	}
	for _, bad := range badTriangulations() {
		if checkValidity(t, bad) {
			t.Fatal(bad)
		}
	}
}

// TestValidityOfChanges replaces each face of a valid triangulation by each other description.
func TestValidityOfChanges(t *testing.T) {
	seed := numbers(71)
	for tets := int64(1); tets <= 8; tets++ {
		tri := seed.triangulation(tets, seed.next(tets, 2*tets))
		for a := range tri.Tets {
			for f := range 4 {
				changed := clonedTriangulation(tri)
				for tet := int64(-2); tet <= tets; tet++ {
					for perm := int64(-1); perm <= 24; perm++ {
						changed.Tets[a][f] = impl.Face{Tet: tet, Perm: perm}
						checkValidity(t, changed)
					}
				}
				// The difference is in one bit, whichever it is.
				for bit := range 64 {
					changed.Tets[a][f] = impl.Face{Tet: tri.Tets[a][f].Tet ^ 1<<bit, Perm: tri.Tets[a][f].Perm}
					checkValidity(t, changed)
					changed.Tets[a][f] = impl.Face{Tet: tri.Tets[a][f].Tet, Perm: tri.Tets[a][f].Perm ^ 1<<bit}
					checkValidity(t, changed)
				}
			}
			checkLengthsOfTet(t, tri, a)
		}
	}
}

func checkLengthsOfTet(t *testing.T, tri impl.Triangulation, a int) {
	t.Helper()
	changed := clonedTriangulation(tri)
	for length := range 4 {
		changed.Tets[a] = changed.Tets[a][:length]
		checkValidity(t, changed)
		changed.Tets[a] = slices.Clone(tri.Tets[a])
	}
	for _, face := range append(slices.Clone(tri.Tets[a]), impl.Face{Tet: -1}) {
		changed.Tets[a] = append(slices.Clone(tri.Tets[a]), face)
		checkValidity(t, changed)
	}
}

func TestAddTetrahedron(t *testing.T) {
	for _, tri := range sampleTriangulations() {
		got, code := impl.AddTetrahedron(tri)
		if len(tri.Tets) == 8 {
			if code != impl.ErrLimit || !isZeroTriangulation(got) {
				t.Fatal(tri, got, code)
			}
			continue
		}
		want := clonedTriangulation(tri)
		want.Tets = append(want.Tets, unglued(1).Tets...)
		if code != impl.ErrNone || !sameTriangulation(got, want) {
			t.Fatal(tri, got, code)
		}
	}
	tri := impl.Triangulation{}
	for tets := 1; tets <= 8; tets++ {
		var code int64
		if tri, code = impl.AddTetrahedron(tri); code != impl.ErrNone || !sameTriangulation(tri, unglued(tets)) {
			t.Fatal(tets, tri, code)
		}
	}
	for _, bad := range badTriangulations() {
		if got, code := impl.AddTetrahedron(bad); code != impl.ErrInvalid || !isZeroTriangulation(got) {
			t.Fatal(bad, got, code)
		}
	}
	// With eight tetrahedra, of which one is not valid, the first condition decides.
	bad := unglued(8)
	bad.Tets[7][3].Perm = 1
	if _, code := impl.AddTetrahedron(bad); code != impl.ErrInvalid {
		t.Error(code)
	}
}

// gluedInModel returns what GlueFaces must return for a valid triangulation.
func gluedInModel(tri impl.Triangulation, a int64, f int64, b int64, perm int64) (impl.Triangulation, int64) {
	tets := int64(len(tri.Tets))
	if a < 0 || a >= tets || b < 0 || b >= tets || f < 0 || f > 3 || perm < 0 || perm > 23 {
		return impl.Triangulation{}, impl.ErrRange
	}
	g := allOfFour[perm][f]
	if a == b && f == g || tri.Tets[a][f].Tet >= 0 || tri.Tets[b][g].Tet >= 0 {
		return impl.Triangulation{}, impl.ErrState
	}
	glued := clonedTriangulation(tri)
	glueModel(glued, a, f, b, perm)
	return glued, impl.ErrNone
}

// checkGluing compares with the model, and a gluing that is made is undone, and made again, from
// both of its sides.
func checkGluing(t *testing.T, tri impl.Triangulation, a int64, f int64, b int64, perm int64) int64 {
	t.Helper()
	want, wantCode := gluedInModel(tri, a, f, b, perm)
	got, code := impl.GlueFaces(tri, a, f, b, perm)
	if code != wantCode || !sameTriangulation(got, want) {
		t.Fatal(tri, a, f, b, perm, got, code, want, wantCode)
	}
	if code != impl.ErrNone {
		return code
	}
	g := impl.ApplyPerm4(perm, f)
	for _, side := range [][]int64{{a, f}, {b, g}} {
		back, code := impl.UnglueFace(got, side[0], side[1])
		if code != impl.ErrNone || !sameTriangulation(back, tri) {
			t.Fatal("not undone", tri, a, f, b, perm, side, back, code)
		}
	}
	again, code := impl.GlueFaces(tri, b, g, a, impl.InvertPerm4(perm))
	if code != impl.ErrNone || !sameTriangulation(again, got) {
		t.Fatal("not the same from the other side", tri, a, f, b, perm, again, code)
	}
	return impl.ErrNone
}

func TestGlueFacesByHand(t *testing.T) {
	one := unglued(1)
	if got, code := impl.GlueFaces(one, 0, 0, 0, 0); code != impl.ErrState || !isZeroTriangulation(got) {
		t.Error(got, code)
	}
	got, code := impl.GlueFaces(one, 0, 0, 0, 6)
	if code != impl.ErrNone || !slices.Equal(got.Tets[0], []impl.Face{{Tet: 0, Perm: 6}, {Tet: 0, Perm: 6}, {Tet: -1}, {Tet: -1}}) {
		t.Error(got, code)
	}
	// [1 2 0 3] and its inverse [2 0 1 3] differ.
	got, code = impl.GlueFaces(one, 0, 0, 0, 8)
	if code != impl.ErrNone || !slices.Equal(got.Tets[0], []impl.Face{{Tet: 0, Perm: 8}, {Tet: 0, Perm: 12}, {Tet: -1}, {Tet: -1}}) {
		t.Error(got, code)
	}
	got, code = impl.GlueFaces(unglued(2), 1, 3, 0, 9)
	want := impl.Triangulation{Tets: [][]impl.Face{{{Tet: 1, Perm: 18}, {Tet: -1}, {Tet: -1}, {Tet: -1}}, {{Tet: -1}, {Tet: -1}, {Tet: -1}, {Tet: 0, Perm: 9}}}}
	if code != impl.ErrNone || !sameTriangulation(got, want) {
		t.Error(got, code)
	}
}

func TestGlueFacesOfSamples(t *testing.T) {
	codes := map[int64]int{}
	for i, tri := range sampleTriangulations() {
		// All of one tetrahedron, and each third one of the others, in all ways.
		if len(tri.Tets) > 1 && i%3 != 0 {
			continue
		}
		tets := int64(len(tri.Tets))
		for a := range tets {
			for f := range int64(4) {
				for b := range tets {
					for perm := range int64(24) {
						codes[checkGluing(t, tri, a, f, b, perm)]++
					}
				}
			}
		}
	}
	if len(codes) != 2 || codes[impl.ErrNone] < 1000 || codes[impl.ErrState] < 1000 {
		t.Error(codes)
	}
}

// TestGlueAllAndUnglueAll builds irregular triangulations by gluing, and takes them apart in another
// order, from either side.
func TestGlueAllAndUnglueAll(t *testing.T) {
	seed := numbers(72)
	for _, want := range irregularTriangulations() {
		tri := unglued(len(want.Tets))
		var sides [][]int64
		for a, faces := range want.Tets {
			for f, face := range faces {
				if face.Tet >= 0 && tri.Tets[a][f].Tet < 0 {
					var code int64
					if tri, code = impl.GlueFaces(tri, int64(a), int64(f), face.Tet, face.Perm); code != impl.ErrNone {
						t.Fatal(want, a, f, code)
					}
					sides = append(sides, []int64{int64(a), int64(f)})
				}
			}
		}
		if !sameTriangulation(tri, want) {
			t.Fatal(tri, want)
		}
		for len(sides) > 0 {
			i := seed.next(0, int64(len(sides))-1)
			side := sides[i]
			sides = slices.Delete(sides, int(i), int(i)+1)
			if face := tri.Tets[side[0]][side[1]]; seed.next(0, 1) == 1 {
				side = []int64{face.Tet, impl.ApplyPerm4(face.Perm, side[1])}
			}
			var code int64
			if tri, code = impl.UnglueFace(tri, side[0], side[1]); code != impl.ErrNone || len(freeFaces(tri)) != 4*len(tri.Tets)-2*len(sides) {
				t.Fatal(want, side, tri, code)
			}
		}
		if !sameTriangulation(tri, unglued(len(want.Tets))) {
			t.Fatal(tri)
		}
	}
}

func TestUnglueFaceOfSamples(t *testing.T) {
	for _, tri := range sampleTriangulations() {
		for a, faces := range tri.Tets {
			for f, face := range faces {
				got, code := impl.UnglueFace(tri, int64(a), int64(f))
				if face.Tet < 0 {
					if code != impl.ErrState || !isZeroTriangulation(got) {
						t.Fatal(tri, a, f, got, code)
					}
					continue
				}
				want := clonedTriangulation(tri)
				want.Tets[a][f] = impl.Face{Tet: -1}
				want.Tets[face.Tet][allOfFour[face.Perm][f]] = impl.Face{Tet: -1}
				if code != impl.ErrNone || !sameTriangulation(got, want) {
					t.Fatal(tri, a, f, got, code)
				}
				again, code := impl.GlueFaces(got, int64(a), int64(f), face.Tet, face.Perm)
				if code != impl.ErrNone || !sameTriangulation(again, tri) {
					t.Fatal(tri, a, f, again, code)
				}
			}
		}
	}
}

// TestGlueFacesRange has each argument out of its range, alone and beside others, where the faces are
// free, glued, or the same.
func TestGlueFacesRange(t *testing.T) {
	for _, tets := range []int{0, 1, 2, 8} {
		seed := numbers(73)
		for _, tri := range []impl.Triangulation{unglued(tets), seed.triangulation(int64(tets), int64(tets)), seed.triangulation(int64(tets), 2*int64(tets))} {
			check := func(a int64, f int64, b int64, perm int64) {
				t.Helper()
				if code := checkGluing(t, tri, a, f, b, perm); code != impl.ErrRange {
					t.Fatal(tri, a, f, b, perm, code)
				}
			}
			for _, bad := range badTetsFor(tets) {
				for _, perm := range []int64{0, 6, 23, 24, -1, maxInt} {
					for _, f := range []int64{0, 3, 4, -1, minInt} {
						check(bad, f, 0, perm)
						check(0, f, bad, perm)
						check(bad, f, bad, perm)
					}
				}
			}
			for _, bad := range badVertices {
				for perm := range int64(24) {
					check(0, bad, 0, perm)
				}
				check(-1, bad, -1, -1)
			}
			for _, bad := range badPerms {
				for f := range int64(4) {
					check(0, f, 0, bad)
				}
				check(0, -1, 0, bad)
			}
		}
	}
}

func TestUnglueFaceRange(t *testing.T) {
	seed := numbers(74)
	for _, tets := range []int{0, 1, 2, 8} {
		for _, tri := range []impl.Triangulation{unglued(tets), seed.triangulation(int64(tets), 2*int64(tets))} {
			check := func(a int64, f int64) {
				t.Helper()
				if got, code := impl.UnglueFace(tri, a, f); code != impl.ErrRange || !isZeroTriangulation(got) {
					t.Fatal(tri, a, f, got, code)
				}
			}
			for _, bad := range badTetsFor(tets) {
				for _, f := range append([]int64{0, 1, 2, 3}, badVertices...) {
					check(bad, f)
				}
			}
			for _, bad := range badVertices {
				check(0, bad)
				check(int64(tets)-1, bad)
			}
		}
	}
}

func TestGluingsOfInvalidTriangulations(t *testing.T) {
	for _, bad := range badTriangulations() {
		for _, a := range append([]int64{0, 1}, badTetsFor(1)...) {
			for _, f := range []int64{0, 1, 3, 4, -1, minInt, maxInt} {
				for _, perm := range []int64{0, 6, 23, 24, -1, minInt, maxInt} {
					if got, code := impl.GlueFaces(bad, a, f, 0, perm); code != impl.ErrInvalid || !isZeroTriangulation(got) {
						t.Fatal(bad, a, f, perm, got, code)
					}
					if got, code := impl.GlueFaces(bad, 0, f, a, perm); code != impl.ErrInvalid || !isZeroTriangulation(got) {
						t.Fatal(bad, a, f, perm, got, code)
					}
				}
				if got, code := impl.UnglueFace(bad, a, f); code != impl.ErrInvalid || !isZeroTriangulation(got) {
					t.Fatal(bad, a, f, got, code)
				}
			}
		}
	}
}

// changesOf has the results of the functions that change a triangulation, as far as there are some.
func changesOf(tri impl.Triangulation) []impl.Triangulation {
	var results []impl.Triangulation
	keep := func(result impl.Triangulation, code int64) {
		if code == impl.ErrNone {
			results = append(results, result)
		}
	}
	tets := int64(len(tri.Tets))
	keep(impl.AddTetrahedron(tri))
	for a := range tets {
		for f := range int64(4) {
			for _, perm := range []int64{0, 6, 8, 23, 24} {
				keep(impl.GlueFaces(tri, a, f, 0, perm))
				keep(impl.GlueFaces(tri, 0, f, a, perm))
			}
			keep(impl.UnglueFace(tri, a, f))
		}
	}
	if len(tri.Tets) <= 4 {
		keep(impl.UnionTriangulations(tri, tri))
	}
	keep(impl.UnionTriangulations(tri, impl.Triangulation{}))
	keep(impl.UnionTriangulations(impl.Triangulation{}, tri))
	keep(impl.RelabelTriangulation(tri, identityList(tets), repeated(0, int(tets))))
	keep(impl.RelabelTriangulation(tri, identityList(tets), repeated(5, int(tets))))
	return results
}

// TestChangesKeepTheirArguments overwrites all results: arguments, and later results, stay as they are.
func TestChangesKeepTheirArguments(t *testing.T) {
	for i, tri := range append(sampleTriangulations(), badTriangulations()...) {
		if len(tri.Tets) == 1 && i%7 != 0 || len(tri.Tets) > 9 {
			continue
		}
		g, check := guardedTriangulation(t, tri)
		first := changesOf(g)
		check()
		var copies []impl.Triangulation
		for _, result := range first {
			copies = append(copies, clonedTriangulation(result))
		}
		for k, result := range first {
			spoilTriangulation(t, result)
			for later, other := range first[k+1:] {
				if !sameTriangulation(other, copies[k+1+later]) {
					t.Fatal("two results share memory", tri)
				}
			}
		}
		check()
		if !slices.EqualFunc(changesOf(g), copies, sameTriangulation) {
			t.Fatal("the same arguments have other results", tri)
		}
	}
}

func TestBoundaryFacesAreNew(t *testing.T) {
	for _, tri := range append(sampleTriangulations(), badTriangulations()...) {
		if len(tri.Tets) > 9 {
			continue
		}
		g, check := guardedTriangulation(t, tri)
		isValid, isClosed := impl.IsTriangulation(g), impl.IsClosed(g)
		pairs := impl.BoundaryFaces(g)
		want := impl.BoundaryFaces(g)
		for i, pair := range pairs {
			full := pair[:cap(pair)]
			copy(full, repeated(spareMark, len(full)))
			if !sameLists(pairs[i+1:], want[i+1:]) {
				t.Fatal("two pairs share memory", tri)
			}
		}
		check()
		if impl.IsTriangulation(g) != isValid || impl.IsClosed(g) != isClosed || !sameLists(impl.BoundaryFaces(g), want) {
			t.Fatal(tri)
		}
	}
}
