package tests

import (
	"slices"
	"sync"
	"testing"

	"loop.example/g00870/impl"
)

// The model tries all signs of the tetrahedra, and all lists of faces in order, the shorter ones first.

// signsOfFour has the signs of the permutations in the order of their indices.
var signsOfFour = sync.OnceValue(func() []int64 {
	var signs []int64
	for _, images := range allOfFour {
		signs = append(signs, signOfList(images))
	}
	return signs
})

// isModelOrientation multiplies, for each glued face, the signs of both tetrahedra and of the permutation.
func isModelOrientation(tri impl.Triangulation, signs []int64) bool {
	if len(signs) != len(tri.Tets) || slices.ContainsFunc(signs, func(sign int64) bool { return sign != 1 && sign != -1 }) {
		return false
	}
	for a, faces := range tri.Tets {
		for _, face := range faces {
			if face.Tet >= 0 && signs[a]*signs[face.Tet]*signsOfFour()[face.Perm] != -1 {
				return false
			}
		}
	}
	return true
}

// orientationsOf returns all orientations.
func orientationsOf(tri impl.Triangulation) [][]int64 {
	var list [][]int64
	for choice := range 1 << len(tri.Tets) {
		signs := []int64{}
		for a := range tri.Tets {
			signs = append(signs, int64(1-2*(choice>>a&1)))
		}
		if isModelOrientation(tri, signs) {
			list = append(list, signs)
		}
	}
	return list
}

func countComponents(components []int64) int64 {
	return slices.Max(append(slices.Clone(components), -1)) + 1
}

// beginsWithOnes tells whether the first tetrahedron of each component has the sign 1.
func beginsWithOnes(components []int64, signs []int64) bool {
	for _, component := range components {
		if signs[slices.Index(components, component)] != 1 {
			return false
		}
	}
	return true
}

// modelOrientation returns the orientation that begins with 1 in each component, if there is one.
func modelOrientation(tri impl.Triangulation) ([]int64, bool) {
	components := componentsOf(tri)
	list := orientationsOf(tri)
	at := slices.IndexFunc(list, func(signs []int64) bool { return beginsWithOnes(components, signs) })
	if at < 0 {
		return nil, false
	}
	return list[at], true
}

func isModelOrientable(tri impl.Triangulation) bool {
	_, ok := modelOrientation(tri)
	return ok
}

// completedPath continues a path from here by so many faces, in the first way in which it ends in the
// tetrahedron in which it has begun, with an odd number of even permutations.
func completedPath(tri impl.Triangulation, start int64, here int64, isOdd bool, rest int) ([][]int64, bool) {
	if rest == 0 {
		return nil, isOdd && here == start
	}
	for f, face := range tri.Tets[here] {
		if face.Tet < 0 {
			continue
		}
		isEven := signsOfFour()[face.Perm] == 1
		if path, ok := completedPath(tri, start, face.Tet, isOdd != isEven, rest-1); ok {
			return append([][]int64{{here, int64(f)}}, path...), true
		}
	}
	return nil, false
}

// firstReversingPath tries all paths with up to so many faces.
func firstReversingPath(tri impl.Triangulation, most int) ([][]int64, bool) {
	for length := 1; length <= most; length++ {
		for start := range int64(len(tri.Tets)) {
			if path, ok := completedPath(tri, start, start, false, length); ok {
				return path, true
			}
		}
	}
	return nil, false
}

// reversesInModel follows a path step by step, and returns what ReversesOrientation must return for a
// valid triangulation.
func reversesInModel(tri impl.Triangulation, path [][]int64) (bool, int64) {
	if len(path) > 16 {
		return false, impl.ErrRange
	}
	for _, pair := range path {
		if len(pair) != 2 || pair[0] < 0 || pair[0] >= int64(len(tri.Tets)) || pair[1] < 0 || pair[1] > 3 {
			return false, impl.ErrRange
		}
	}
	if len(path) == 0 {
		return false, impl.ErrState
	}
	here, even := path[0][0], 0
	for _, pair := range path {
		face := tri.Tets[pair[0]][pair[1]]
		if pair[0] != here || face.Tet < 0 {
			return false, impl.ErrState
		}
		if signsOfFour()[face.Perm] == 1 {
			even++
		}
		here = face.Tet
	}
	if here != path[0][0] {
		return false, impl.ErrState
	}
	return even%2 == 1, impl.ErrNone
}

func (s *numbers) signs(n int64) []int64 {
	signs := []int64{}
	for range n {
		signs = append(signs, 1-2*s.next(0, 1))
	}
	return signs
}

// glueBySigns glues two faces by some permutation that fits the signs of their tetrahedra, or does not.
func (s *numbers) glueBySigns(tri impl.Triangulation, here []int64, there []int64, signs []int64, isFitting bool) {
	sign := signs[here[0]] * signs[there[0]]
	if isFitting {
		sign = -sign
	}
	glueModel(tri, here[0], here[1], there[0], s.fittingPerm(here[1], there[1], sign))
}

// orientable has an orientation, and so many gluings, of which the last ones do not fit it.
func (s *numbers) orientable(tets int64, gluings int64, wrong int64) impl.Triangulation {
	tri, signs := unglued(int(tets)), s.signs(tets)
	for i := range gluings {
		here, there := s.freePair(tri)
		s.glueBySigns(tri, here, there, signs, i < gluings-wrong)
	}
	return tri
}

// freeFaceAt returns some face of the tetrahedron that is not glued and is not the other one.
func (s *numbers) freeFaceAt(tri impl.Triangulation, tet int64, other []int64) []int64 {
	free := slices.DeleteFunc(freeFaces(tri), func(pair []int64) bool { return pair[0] != tet || slices.Equal(pair, other) })
	return free[s.next(0, int64(len(free))-1)]
}

// necklace glues each tetrahedron to the next one, and the last one to the first one, which reverses the
// orientation if it is not orientable; further gluings fit.
func (s *numbers) necklace(tets int64, more int64, isOrientable bool) impl.Triangulation {
	tri, signs, order := unglued(int(tets)), s.signs(tets), s.permutation(tets)
	for i, tet := range order {
		here := s.freeFaceAt(tri, tet, nil)
		there := s.freeFaceAt(tri, order[(i+1)%len(order)], here)
		s.glueBySigns(tri, here, there, signs, isOrientable || i > 0)
	}
	for range min(more, tets) {
		here, there := s.freePair(tri)
		s.glueBySigns(tri, here, there, signs, true)
	}
	return tri
}

// mixture has several components, orientable or not, in some numbering.
func (s *numbers) mixture(tets int64) impl.Triangulation {
	tri := impl.Triangulation{}
	for int64(len(tri.Tets)) < tets {
		part := s.next(1, min(4, tets-int64(len(tri.Tets))))
		tri, _ = impl.UnionTriangulations(tri, s.necklace(part, s.next(0, part), s.next(0, 3) > 0))
	}
	r := s.renumbering(tets)
	moved, _ := impl.RelabelTriangulation(tri, r.tets, r.perms)
	return moved
}

// orientationSamples has the samples of chapter 9, drawn ones with an orientation or few gluings that do
// not fit one, circles of all lengths, and mixtures. No test changes them.
var orientationSamples = sync.OnceValue(func() []impl.Triangulation {
	list := slices.Clone(linkSamples())
	seed := numbers(1010)
	for tets := int64(1); tets <= 8; tets++ {
		for gluings := range 2*tets + 1 {
			list = append(list, seed.orientable(tets, gluings, 0), seed.orientable(tets, gluings, min(1, gluings)))
		}
		for more := range tets + 1 {
			list = append(list, seed.necklace(tets, more, true), seed.necklace(tets, more, false), seed.necklace(tets, more/3, false))
		}
		for range 20 {
			list = append(list, seed.mixture(tets))
		}
	}
	return list
})

// gluedTwos returns all triangulations with two tetrahedra and so many gluings.
func gluedTwos(gluings int) []impl.Triangulation {
	var list []impl.Triangulation
	var extend func(tri impl.Triangulation, free [][]int64, rest int)
	extend = func(tri impl.Triangulation, free [][]int64, rest int) {
		if rest == 0 {
			list = append(list, tri)
			return
		}
		for i, here := range free {
			for k, there := range free[i+1:] {
				for perm, images := range allOfFour {
					if images[here[1]] == there[1] {
						next := clonedTriangulation(tri)
						glueModel(next, here[0], here[1], there[0], int64(perm))
						// Gluings are chosen in the order of their first faces.
						extend(next, slices.Delete(slices.Clone(free[i+1:]), k, k+1), rest-1)
					}
				}
			}
		}
	}
	extend(unglued(2), freeFaces(unglued(2)), gluings)
	return list
}

// TestModelOfOrientations sees that the samples are of all sorts.
func TestModelOfOrientations(t *testing.T) {
	oriented, orientable, others, mixed, closed := 0, 0, 0, 0, 0
	lengths := map[int]int{}
	for _, tri := range orientationSamples() {
		if !isModelTriangulation(tri) {
			t.Fatal(tri)
		}
		orientations, count := len(orientationsOf(tri)), countComponents(componentsOf(tri))
		path, ok := firstReversingPath(tri, len(tri.Tets))
		switch {
		case orientations == 0:
			others++
			if count > 1 {
				mixed++
			}
		case isModelOrientation(tri, repeated(1, len(tri.Tets))):
			oriented++
		default:
			orientable++
		}
		if orientations > 0 && len(freeFaces(tri)) == 0 {
			closed++
		}
		// There are two orientations of each component, or a path.
		if ok != (orientations == 0) || !ok && orientations != 1<<count {
			t.Fatal(tri, orientations, count, path)
		}
		lengths[len(path)]++
	}
	if oriented < 200 || orientable < 200 || others < 500 || mixed < 100 || closed < 50 {
		t.Error(oriented, orientable, others, mixed, closed)
	}
	for length := range 9 {
		if lengths[length] < 4 {
			t.Error(length, lengths)
		}
	}
}

func TestModelOfTwos(t *testing.T) {
	for gluings, want := range []int{1, 28 * 6, 210 * 36} {
		texts := map[string]bool{}
		for _, tri := range gluedTwos(gluings) {
			if !isModelTriangulation(tri) || len(freeFaces(tri)) != 8-2*gluings {
				t.Fatal(tri)
			}
			texts[modelText(tri)] = true
		}
		if len(texts) != want {
			t.Error(gluings, len(texts), want)
		}
	}
}
