package tests

import (
	"slices"
	"testing"

	"loop.example/g00870/impl"
)

// The model closes the gluings step by step: vertices of a tetrahedron, in some order, are carried
// through every face in which they lie, until nothing new is reached.

// simplex has a tetrahedron and one to three vertices of it in an order; the rest is -1.
type simplex [4]int64

func simplexOf(tet int64, vertices []int64) simplex {
	s := simplex{tet, -1, -1, -1}
	copy(s[1:], vertices)
	return s
}

func (s simplex) vertices() []int64 {
	vertices := []int64{}
	for _, v := range s[1:] {
		if v >= 0 {
			vertices = append(vertices, v)
		}
	}
	return vertices
}

// reversed has the vertices in the opposite order.
func (s simplex) reversed() simplex {
	vertices := s.vertices()
	slices.Reverse(vertices)
	return simplexOf(s[0], vertices)
}

// The cells of a tetrahedron, each with its vertices.
var (
	vertexCells = [][]int64{{0}, {1}, {2}, {3}}
	edgeCells   = [][]int64{{0, 1}, {0, 2}, {0, 3}, {1, 2}, {1, 3}, {2, 3}}
	faceCells   = [][]int64{{1, 2, 3}, {0, 2, 3}, {0, 1, 3}, {0, 1, 2}}
)

// numberIn returns which one of the cells has these vertices, in any order.
func numberIn(cells [][]int64, vertices []int64) int64 {
	sorted := slices.Sorted(slices.Values(vertices))
	return int64(slices.IndexFunc(cells, func(cell []int64) bool { return slices.Equal(cell, sorted) }))
}

// carried returns all simplices to which gluings carry one, which comes first.
func carried(tri impl.Triangulation, first simplex) []simplex {
	list := []simplex{first}
	for i := 0; i < len(list); i++ {
		vertices := list[i].vertices()
		for f, face := range tri.Tets[list[i][0]] {
			if face.Tet < 0 || slices.Contains(vertices, int64(f)) {
				continue
			}
			next := simplexOf(face.Tet, mappedList(face.Perm, vertices))
			if !slices.Contains(list, next) {
				list = append(list, next)
			}
		}
	}
	return list
}

// classesIn numbers the classes of the cells of one kind, and returns for each tetrahedron the classes
// of its cells, and for each class what its first cell is carried to.
func classesIn(tri impl.Triangulation, cells [][]int64) ([][]int64, [][]simplex) {
	var classes [][]int64
	var orbits [][]simplex
	for range tri.Tets {
		classes = append(classes, repeated(-1, len(cells)))
	}
	for tet := range classes {
		for number, vertices := range cells {
			if classes[tet][number] >= 0 {
				continue
			}
			orbit := carried(tri, simplexOf(int64(tet), vertices))
			for _, s := range orbit {
				classes[s[0]][numberIn(cells, s.vertices())] = int64(len(orbits))
			}
			orbits = append(orbits, orbit)
		}
	}
	return classes, orbits
}

// liesInBoundary tells whether one of the simplices lies in a face that is not glued.
func liesInBoundary(tri impl.Triangulation, orbit []simplex) bool {
	return slices.ContainsFunc(orbit, func(s simplex) bool {
		vertices := s.vertices()
		for f, face := range tri.Tets[s[0]] {
			if face.Tet < 0 && !slices.Contains(vertices, int64(f)) {
				return true
			}
		}
		return false
	})
}

func boundaryIn(tri impl.Triangulation, cells [][]int64) []int64 {
	_, orbits := classesIn(tri, cells)
	var boundary []int64
	for class, orbit := range orbits {
		if liesInBoundary(tri, orbit) {
			boundary = append(boundary, int64(class))
		}
	}
	return boundary
}

func isTurnedBack(orbit []simplex) bool {
	return slices.Contains(orbit, orbit[0].reversed())
}

// reversedClasses tells for each edge class whether it is reversed.
func reversedClasses(tri impl.Triangulation) []bool {
	_, orbits := classesIn(tri, edgeCells)
	var reversed []bool
	for _, orbit := range orbits {
		reversed = append(reversed, isTurnedBack(orbit))
	}
	return reversed
}

// signsOf finds each edge, from its smaller vertex on, or turned, in what the first edge of its class
// is carried to.
func signsOf(tri impl.Triangulation) [][]int64 {
	classes, orbits := classesIn(tri, edgeCells)
	var signs [][]int64
	for tet := range classes {
		list := repeated(0, len(edgeCells))
		for e, vertices := range edgeCells {
			orbit := orbits[classes[tet][e]]
			edge := simplexOf(int64(tet), vertices)
			if slices.Contains(orbit, edge) {
				list[e]++
			}
			if slices.Contains(orbit, edge.reversed()) {
				list[e]--
			}
		}
		signs = append(signs, list)
	}
	return signs
}

// imagesOf returns what the permutation of a corner maps 0, 1, 2 and 3 to.
func imagesOf(c impl.Corner) []int64 {
	return allOfFour[c.Perm]
}

func edgeOf(c impl.Corner) int64 {
	return numberIn(edgeCells, imagesOf(c)[:2])
}

// isAtBoundary tells whether the face opposite to the image of k is a boundary face.
func isAtBoundary(tri impl.Triangulation, c impl.Corner, k int) bool {
	return tri.Tets[c.Tet][imagesOf(c)[k]].Tet < 0
}

// cornerAfter follows the four images through the face opposite to the image of 2.
func cornerAfter(tri impl.Triangulation, c impl.Corner) impl.Corner {
	images := imagesOf(c)
	face := tri.Tets[c.Tet][images[2]]
	p := allOfFour[face.Perm]
	return impl.Corner{Tet: face.Tet, Perm: permWith([]int64{p[images[0]], p[images[1]], p[images[3]], p[images[2]]})}
}

// firstBoundaryCorner tries the corners of a class by tetrahedra, then by permutations.
func firstBoundaryCorner(tri impl.Triangulation, class int64) impl.Corner {
	classes, _ := classesIn(tri, edgeCells)
	for tet := range classes {
		for perm := range allOfFour {
			c := impl.Corner{Tet: int64(tet), Perm: int64(perm)}
			if classes[tet][edgeOf(c)] == class && isAtBoundary(tri, c, 3) {
				return c
			}
		}
	}
	return impl.Corner{Tet: -1}
}

// cornerAtFirstEdge has the ends of the first edge of a class, the smaller one first, and then the other
// vertices, again the smaller one first.
func cornerAtFirstEdge(tri impl.Triangulation, class int64) impl.Corner {
	_, orbits := classesIn(tri, edgeCells)
	first := orbits[class][0]
	images := first.vertices()
	for v := range int64(4) {
		if !slices.Contains(images, v) {
			images = append(images, v)
		}
	}
	return impl.Corner{Tet: first[0], Perm: permWith(images)}
}

// ringOf has the ring of a class that is not reversed.
func ringOf(tri impl.Triangulation, class int64) []impl.Corner {
	_, orbits := classesIn(tri, edgeCells)
	if !liesInBoundary(tri, orbits[class]) {
		ring := []impl.Corner{cornerAtFirstEdge(tri, class)}
		for next := cornerAfter(tri, ring[0]); next != ring[0]; next = cornerAfter(tri, next) {
			ring = append(ring, next)
		}
		return ring
	}
	ring := []impl.Corner{firstBoundaryCorner(tri, class)}
	for last := ring[0]; !isAtBoundary(tri, last, 2); {
		last = cornerAfter(tri, last)
		ring = append(ring, last)
	}
	return ring
}

// fittingPerm returns the index of some permutation that maps a face to another one and has this sign.
func (s *numbers) fittingPerm(from int64, to int64, sign int64) int64 {
	var perms []int64
	for perm, images := range allOfFour {
		if images[from] == to && signOfList(images) == sign {
			perms = append(perms, int64(perm))
		}
	}
	return perms[s.next(0, int64(len(perms))-1)]
}

// orientedTriangulation is glued by permutations with the sign -1 only, so that no edge is reversed.
func (s *numbers) orientedTriangulation(tets int64, gluings int64) impl.Triangulation {
	t := unglued(int(tets))
	for range min(gluings, 2*tets) {
		here, there := s.freePair(t)
		glueModel(t, here[0], here[1], there[0], s.fittingPerm(here[1], there[1], -1))
	}
	return t
}

// skeletonSamples has the samples of chapter 7, and oriented triangulations of all sizes.
func skeletonSamples() []impl.Triangulation {
	list := sampleTriangulations()
	seed := numbers(808)
	for tets := int64(1); tets <= 8; tets++ {
		for gluings := range 2*tets + 1 {
			list = append(list, seed.triangulation(tets, gluings), seed.orientedTriangulation(tets, gluings))
		}
		for range 4 {
			list = append(list, seed.orientedTriangulation(tets, 2*tets))
		}
	}
	return list
}

// TestModelOfSkeletons sees that the samples have classes of all sorts, and that the model knows some
// facts that the document does not mention.
func TestModelOfSkeletons(t *testing.T) {
	reversed, bounded, inner, turned, longest := 0, 0, 0, 0, 0
	for _, tri := range skeletonSamples() {
		_, orbits := classesIn(tri, edgeCells)
		for class, orbit := range orbits {
			switch {
			case isTurnedBack(orbit):
				reversed++
				if liesInBoundary(tri, orbit) {
					t.Fatal("a reversed class in the boundary", tri, class)
				}
				continue
			case liesInBoundary(tri, orbit):
				bounded++
			default:
				inner++
			}
			longest = max(longest, len(ringOf(tri, int64(class))))
		}
		for _, signs := range signsOf(tri) {
			if slices.Contains(signs, -1) {
				turned++
			}
		}
	}
	if reversed < 100 || bounded < 1000 || inner < 200 || turned < 500 || longest != 48 {
		t.Error(reversed, bounded, inner, turned, longest)
	}
}

func TestModelOfOrientedSkeletons(t *testing.T) {
	seed := numbers(809)
	for range 200 {
		tets := seed.next(1, 8)
		tri := seed.orientedTriangulation(tets, seed.next(0, 2*tets))
		if !isModelTriangulation(tri) || slices.Contains(reversedClasses(tri), true) {
			t.Fatal(tri)
		}
	}
}
