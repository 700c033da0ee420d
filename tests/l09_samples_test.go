package tests

import (
	"slices"
	"sync"
	"testing"

	"loop.example/g00870/impl"
)

// closedTwos returns all closed triangulations with two tetrahedra whose faces 3 are glued to each other
// by the identity: each connected one is one of them in another numbering.
func closedTwos() []impl.Triangulation {
	var list []impl.Triangulation
	var extend func(tri impl.Triangulation)
	extend = func(tri impl.Triangulation) {
		free := freeFaces(tri)
		if len(free) == 0 {
			list = append(list, tri)
			return
		}
		for _, there := range free[1:] {
			for perm, images := range allOfFour {
				if images[free[0][1]] == there[1] {
					next := clonedTriangulation(tri)
					glueModel(next, free[0][0], free[0][1], there[0], int64(perm))
					extend(next)
				}
			}
		}
	}
	first := unglued(2)
	glueModel(first, 0, 3, 1, 0)
	extend(first)
	return list
}

// manifold draws gluings, and keeps one only if the result is a manifold.
func (s *numbers) manifold(tets int64, trials int64) impl.Triangulation {
	tri := unglued(int(tets))
	for range trials {
		if len(freeFaces(tri)) == 0 {
			break
		}
		next := clonedTriangulation(tri)
		here, there := s.freePair(next)
		glueFaces(next, here, there, s.permutation(4))
		if isModelManifold(next) {
			tri = next
		}
	}
	return tri
}

// linkSamples has the samples of chapter 8, closed triangulations with two tetrahedra, manifolds of all
// sizes, doubled ones, and those that are made of surfaces. No test changes them.
var linkSamples = sync.OnceValue(func() []impl.Triangulation {
	list := skeletonSamples()
	for i, tri := range closedTwos() {
		if i%7 == 0 {
			list = append(list, tri)
		}
	}
	seed := numbers(909)
	for tets := int64(1); tets <= 8; tets++ {
		for range 12 {
			tri := seed.manifold(tets, seed.next(1, 5*tets))
			list = append(list, tri)
			if tets <= 4 {
				list = append(list, doubled(tri))
			}
		}
	}
	for i, s := range smallSurfaces() {
		if i%8 == 0 || s.triangles > 3 {
			list = append(list, coneOf(s))
		}
	}
	for i, s := range surfacesOf(2, false) {
		if i%3 == 0 || len(s.pairs) == 3 {
			list = append(list, thickened(s), bundleOf(s))
		}
	}
	return list
})

// sampleCounts counts what the samples are like.
type sampleCounts struct {
	manifolds, closedManifolds, ideal, others     int
	boundedManifolds, manifoldsWithTwo, twoInside int
	reversedBalls, reversedTori                   int
	pinched, selfGlued                            int
	kinds                                         map[string]int
}

// look counts what is to be seen of the links.
func (c *sampleCounts) look(tri impl.Triangulation) {
	var kinds []int64
	for _, l := range linksOf(tri) {
		name := []string{"sphere", "disc", "torus", "klein", "other"}[l.kind()]
		switch {
		case l.kind() == 4 && l.isClosed() && l.orientable:
			name += " closed orientable"
		case l.kind() == 4 && l.isClosed():
			name += " closed"
		case l.kind() == 4 && l.orientable:
			name += " orientable"
		}
		if l.kind() == 4 && l.euler == 0 {
			name += " 0"
		}
		c.kinds[name]++
		kinds = append(kinds, l.kind())
	}
	isReversed := slices.Contains(reversedClasses(tri), true)
	if isReversed && !slices.ContainsFunc(kinds, func(kind int64) bool { return kind > 1 }) {
		c.reversedBalls++
	}
	if isReversed && !slices.ContainsFunc(kinds, func(kind int64) bool { return kind != 2 && kind != 3 }) {
		c.reversedTori++
	}
}

// lookAtBoundary counts boundaries of all sorts.
func (c *sampleCounts) lookAtBoundary(tri impl.Triangulation) {
	boundary := boundaryOf(tri)
	isManifold, isConnected := isModelManifold(tri), slices.Max(append(componentsOf(tri), 0)) == 0
	switch {
	case isManifold && len(boundary.components) == 0:
		c.closedManifolds++
	case isManifold:
		c.boundedManifolds++
	}
	if isManifold {
		c.manifolds++
	} else {
		c.others++
	}
	if isModelIdeal(tri) {
		c.ideal++
	}
	if len(boundary.components) > 1 && isManifold && isConnected {
		c.manifoldsWithTwo++
	}
	if len(boundary.components) > 1 && slices.Max(boundary.components[0]) > boundary.components[1][0] {
		c.twoInside++
	}
	for i := range boundary.components {
		if boundary.corners[i] > int64(len(vertexClassesOf(tri, boundary.components[i]))) {
			c.pinched++
		}
	}
	for _, pair := range freeFaces(tri) {
		for _, side := range sidesOf(pair) {
			if across := aroundEdge(tri, side); across.tet == side.tet && across.face == side.face {
				c.selfGlued++
			}
		}
	}
}

// vertexClassesOf returns the classes of the vertices in these boundary faces.
func vertexClassesOf(tri impl.Triangulation, component []int64) []int64 {
	classes, _ := classesIn(tri, vertexCells)
	free := freeFaces(tri)
	var list []int64
	for _, i := range component {
		for _, v := range faceCells[free[i][1]] {
			list = append(list, classes[free[i][0]][v])
		}
	}
	slices.Sort(list)
	return slices.Compact(list)
}

// TestModelOfLinks sees that the samples are of all sorts.
func TestModelOfLinks(t *testing.T) {
	c := sampleCounts{kinds: map[string]int{}}
	for _, tri := range linkSamples() {
		if !isModelTriangulation(tri) {
			t.Fatal(tri)
		}
		c.look(tri)
		c.lookAtBoundary(tri)
	}
	if c.manifolds < 300 || c.others < 300 || c.closedManifolds < 50 || c.boundedManifolds < 100 || c.ideal < 20 {
		t.Errorf("%+v", c)
	}
	if c.manifoldsWithTwo < 5 || c.twoInside < 5 || c.reversedBalls < 10 || c.reversedTori < 10 || c.pinched < 50 || c.selfGlued < 50 {
		t.Errorf("%+v", c)
	}
	names := []string{"sphere", "disc", "torus", "klein", "other", "other orientable", "other 0", "other orientable 0", "other closed", "other closed orientable"}
	for _, name := range names {
		if c.kinds[name] < 10 {
			t.Errorf("%s %+v", name, c)
		}
	}
	if len(c.kinds) != len(names) {
		t.Errorf("%+v", c)
	}
}

// TestModelOfBoundaries sees that each edge of a boundary face is glued to another edge, and back.
func TestModelOfBoundaries(t *testing.T) {
	for _, tri := range linkSamples() {
		for _, pair := range freeFaces(tri) {
			for _, side := range sidesOf(pair) {
				across := aroundEdge(tri, side)
				if across == side || aroundEdge(tri, across) != side {
					t.Fatal(tri, side, across)
				}
			}
		}
		boundary := boundaryOf(tri)
		for i, component := range boundary.components {
			if 2*boundary.edges[i] != 3*int64(len(component)) {
				t.Fatal(tri, boundary)
			}
		}
	}
}
