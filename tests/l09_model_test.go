package tests

import (
	"slices"

	"loop.example/g00870/impl"
)

// The model glues the parts of links and of boundary surfaces one after the other: at each gluing, all
// parts with the label of one side get the label of the other one.

type labelling[K comparable] map[K]int

// add gives a label to a part that has none yet.
func (l labelling[K]) add(part K) {
	if _, ok := l[part]; !ok {
		l[part] = len(l)
	}
}

func (l labelling[K]) glue(a K, b K) {
	l.add(a)
	l.add(b)
	old, label := l[a], l[b]
	for part := range l {
		if l[part] == old {
			l[part] = label
		}
	}
}

// labels returns how many parts of those that are wanted remain different.
func (l labelling[K]) labels(isWanted func(part K) bool) int64 {
	seen := map[int]bool{}
	for part, label := range l {
		if isWanted(part) {
			seen[label] = true
		}
	}
	return int64(len(seen))
}

func (l labelling[K]) allLabels() int64 {
	return l.labels(func(K) bool { return true })
}

// linkModel has what is said about a link.
type linkModel struct {
	corners    [][]int64
	euler      int64
	free       int64
	orientable bool
}

// linkFrom begins with the triangle of one vertex, and goes on through all sides.
func linkFrom(tri impl.Triangulation, tet int64, vertex int64) linkModel {
	first := [2]int64{tet, vertex}
	reached := [][2]int64{first}
	signs := map[[2]int64]int64{first: 1}
	points, sides := labelling[[3]int64]{}, labelling[[3]int64]{}
	l := linkModel{orientable: true}
	for i := 0; i < len(reached); i++ {
		a, v := reached[i][0], reached[i][1]
		l.corners = append(l.corners, []int64{a, v})
		for f := range int64(4) {
			if f == v {
				continue
			}
			points.add([3]int64{a, v, f})
			sides.add([3]int64{a, v, f})
			face := tri.Tets[a][f]
			if face.Tet < 0 {
				l.free++
				continue
			}
			p := allOfFour[face.Perm]
			next := [2]int64{face.Tet, p[v]}
			want := -signs[reached[i]] * signOfList(p)
			if signs[next] == 0 {
				signs[next] = want
				reached = append(reached, next)
			}
			l.orientable = l.orientable && signs[next] == want
			sides.glue([3]int64{a, v, f}, [3]int64{next[0], next[1], p[f]})
			for w := range int64(4) {
				if w != v && w != f {
					points.glue([3]int64{a, v, w}, [3]int64{next[0], next[1], p[w]})
				}
			}
		}
	}
	slices.SortFunc(l.corners, slices.Compare)
	l.euler = points.allLabels() - sides.allLabels() + int64(len(reached))
	return l
}

func (l linkModel) isClosed() bool {
	return l.free == 0
}

func (l linkModel) kind() int64 {
	switch {
	case !l.isClosed() && l.euler == 1:
		return 1
	case !l.isClosed():
		return 4
	case l.euler == 2:
		return 0
	case l.euler == 0 && l.orientable:
		return 2
	case l.euler == 0:
		return 3
	}
	return 4
}

// linksOf has the links in the order of their first vertices.
func linksOf(tri impl.Triangulation) []linkModel {
	var links []linkModel
	var seen [][]int64
	for tet := range int64(len(tri.Tets)) {
		for v := range int64(4) {
			if !slices.ContainsFunc(seen, func(c []int64) bool { return c[0] == tet && c[1] == v }) {
				l := linkFrom(tri, tet, v)
				links = append(links, l)
				seen = append(seen, l.corners...)
			}
		}
	}
	return links
}

func hasOnlyKinds(tri impl.Triangulation, kinds ...int64) bool {
	for _, l := range linksOf(tri) {
		if !slices.Contains(kinds, l.kind()) {
			return false
		}
	}
	return !slices.Contains(reversedClasses(tri), true)
}

func isModelManifold(tri impl.Triangulation) bool {
	return len(tri.Tets) > 0 && hasOnlyKinds(tri, 0, 1)
}

func isModelIdeal(tri impl.Triangulation) bool {
	return len(tri.Tets) > 0 && len(freeFaces(tri)) == 0 && hasOnlyKinds(tri, 2, 3)
}

// faceSide is a face of a tetrahedron at the edge from x to y.
type faceSide struct {
	tet, face, x, y int64
}

// aroundEdge goes from a boundary face through the tetrahedra at the edge to the next boundary face.
func aroundEdge(tri impl.Triangulation, s faceSide) faceSide {
	for {
		// The other face at the edge is opposite to the fourth one of the vertices 0 to 3.
		other := 6 - s.face - s.x - s.y
		face := tri.Tets[s.tet][other]
		if face.Tet < 0 {
			return faceSide{s.tet, other, s.x, s.y}
		}
		p := allOfFour[face.Perm]
		s = faceSide{face.Tet, p[other], p[s.x], p[s.y]}
	}
}

// boundaryModel has the indices of the faces of each component, and how many corners and edges remain
// different in each.
type boundaryModel struct {
	components [][]int64
	corners    []int64
	edges      []int64
}

func (b boundaryModel) eulers() []int64 {
	var eulers []int64
	for i, component := range b.components {
		eulers = append(eulers, b.corners[i]-b.edges[i]+int64(len(component)))
	}
	return eulers
}

// sidesOf returns the three edges of a boundary face, each from its smaller vertex on.
func sidesOf(pair []int64) []faceSide {
	var sides []faceSide
	for _, ends := range edgeCells {
		if !slices.Contains(ends, pair[1]) {
			sides = append(sides, faceSide{pair[0], pair[1], ends[0], ends[1]})
		}
	}
	return sides
}

func boundaryOf(tri impl.Triangulation) boundaryModel {
	free := freeFaces(tri)
	indexOf := func(s faceSide) int64 {
		return int64(slices.IndexFunc(free, func(pair []int64) bool { return pair[0] == s.tet && pair[1] == s.face }))
	}
	faces, edges, corners := labelling[int64]{}, labelling[[3]int64]{}, labelling[[2]int64]{}
	for i, pair := range free {
		for _, side := range sidesOf(pair) {
			across := aroundEdge(tri, side)
			here, there := int64(i), indexOf(across)
			faces.glue(here, there)
			edges.glue([3]int64{here, side.x, side.y}, [3]int64{there, min(across.x, across.y), max(across.x, across.y)})
			corners.glue([2]int64{here, side.x}, [2]int64{there, across.x})
			corners.glue([2]int64{here, side.y}, [2]int64{there, across.y})
		}
	}
	var b boundaryModel
	for first := range int64(len(free)) {
		if slices.Contains(slices.Concat(b.components...), first) {
			continue
		}
		var component []int64
		for i := range int64(len(free)) {
			if faces[i] == faces[first] {
				component = append(component, i)
			}
		}
		b.components = append(b.components, component)
		b.edges = append(b.edges, edges.labels(func(e [3]int64) bool { return slices.Contains(component, e[0]) }))
		b.corners = append(b.corners, corners.labels(func(c [2]int64) bool { return slices.Contains(component, c[0]) }))
	}
	return b
}
