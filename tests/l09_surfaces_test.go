package tests

import (
	"slices"
	"testing"

	"loop.example/g00870/impl"
)

// Triangulations that are made of surfaces, so that their links and boundaries are known without them.

// edgePair glues the edge e of the triangle a, which is opposite to its vertex e, to the edge f of b: the
// smaller end to the smaller one, or to the greater one if it is turned.
type edgePair struct {
	a, e, b, f int64
	isTurned   bool
}

// images returns what the vertices 0, 1 and 2 are glued to, and e to f.
func (p edgePair) images() []int64 {
	images := repeated(p.f, 3)
	from, to := slices.Delete(identityList(3), int(p.e), int(p.e)+1), slices.Delete(identityList(3), int(p.f), int(p.f)+1)
	if p.isTurned {
		slices.Reverse(to)
	}
	for i, v := range from {
		images[v] = to[i]
	}
	return images
}

// surface has some triangles, with edges that are glued in pairs.
type surface struct {
	triangles int64
	pairs     []edgePair
}

// surfacesOf returns all surfaces with so many triangles, in which each edge is free or glued to another
// one in one of these ways.
func surfacesOf(triangles int64, turns ...bool) []surface {
	var edges [][2]int64
	for a := range triangles {
		for e := range int64(3) {
			edges = append(edges, [2]int64{a, e})
		}
	}
	var list []surface
	var extend func(rest [][2]int64, pairs []edgePair)
	extend = func(rest [][2]int64, pairs []edgePair) {
		if len(rest) == 0 {
			list = append(list, surface{triangles: triangles, pairs: slices.Clone(pairs)})
			return
		}
		first, rest := rest[0], rest[1:]
		extend(rest, pairs)
		for i, other := range rest {
			for _, turned := range turns {
				pair := edgePair{first[0], first[1], other[0], other[1], turned}
				extend(slices.Delete(slices.Clone(rest), i, i+1), append(slices.Clone(pairs), pair))
			}
		}
	}
	extend(edges, nil)
	return list
}

// surface returns some surface with so many triangles and pairs of edges.
func (s *numbers) surface(triangles int64, pairs int64) surface {
	order := s.permutation(3 * triangles)
	made := surface{triangles: triangles}
	for i := range pairs {
		x, y := order[2*i], order[2*i+1]
		made.pairs = append(made.pairs, edgePair{x / 3, x % 3, y / 3, y % 3, s.next(0, 1) == 1})
	}
	return made
}

// surfaceFacts says of the component of one triangle what is said about links.
type surfaceFacts struct {
	euler      int64
	isClosed   bool
	orientable bool
}

func (f surfaceFacts) kind() int64 {
	free := int64(1)
	if f.isClosed {
		free = 0
	}
	return linkModel{euler: f.euler, free: free, orientable: f.orientable}.kind()
}

// componentsOfSurface returns for each triangle the first one of its component.
func componentsOfSurface(s surface) []int64 {
	first := identityList(s.triangles)
	for range first {
		for _, p := range s.pairs {
			low := min(first[p.a], first[p.b])
			first[p.a], first[p.b] = low, low
		}
	}
	return first
}

// isOrientableWith tries all signs of the triangles.
func (s surface) isOrientableWith(isWanted func(triangle int64) bool) bool {
	for choice := range 1 << s.triangles {
		isFitting := true
		for _, p := range s.pairs {
			isSame := choice>>p.a&1 == choice>>p.b&1
			isFitting = isFitting && (!isWanted(p.a) || isSame == (signOfList(append(p.images(), 3)) == -1))
		}
		if isFitting {
			return true
		}
	}
	return false
}

// facts returns for each first triangle of a component what is known about the component.
func (s surface) facts() map[int64]surfaceFacts {
	facts := map[int64]surfaceFacts{}
	first := componentsOfSurface(s)
	for component := range s.triangles {
		if first[component] != component {
			continue
		}
		isHere := func(triangle int64) bool { return first[triangle] == component }
		corners := labelling[[2]int64]{}
		triangles, pairs := int64(0), int64(0)
		for a := range s.triangles {
			if isHere(a) {
				triangles++
				for v := range int64(3) {
					corners.add([2]int64{a, v})
				}
			}
		}
		for _, p := range s.pairs {
			if isHere(p.a) {
				pairs++
				for v, image := range p.images() {
					if int64(v) != p.e {
						corners.glue([2]int64{p.a, int64(v)}, [2]int64{p.b, image})
					}
				}
			}
		}
		facts[component] = surfaceFacts{
			euler:      corners.allLabels() - (3*triangles - pairs) + triangles,
			isClosed:   2*pairs == 3*triangles,
			orientable: s.isOrientableWith(isHere),
		}
	}
	return facts
}

// coneOf has a tetrahedron above each triangle, whose vertex 3 is the apex: its link is the surface.
func coneOf(s surface) impl.Triangulation {
	tri := unglued(int(s.triangles))
	for _, p := range s.pairs {
		glueModel(tri, p.a, p.e, p.b, permWith(append(p.images(), 3)))
	}
	return tri
}

// doubled glues each boundary face to the same face of a copy.
func doubled(tri impl.Triangulation) impl.Triangulation {
	n := int64(len(tri.Tets))
	twice := clonedTriangulation(tri)
	for _, faces := range clonedTriangulation(tri).Tets {
		for f := range faces {
			if faces[f].Tet >= 0 {
				faces[f].Tet += n
			}
		}
		twice.Tets = append(twice.Tets, faces)
	}
	for _, pair := range freeFaces(tri) {
		glueModel(twice, pair[0], pair[1], pair[0]+n, 0)
	}
	return twice
}

// prism has the three tetrahedra over a triangle, with the names of their vertices: 3 to 5 are above 0
// to 2.
var prism = [][]int64{{0, 1, 2, 5}, {0, 1, 4, 5}, {0, 3, 4, 5}}

// prismFace returns the tetrahedron and the face of a prism in which these vertices lie.
func prismFace(names []int64) (int64, int64) {
	for tet, vertices := range prism {
		for f := range vertices {
			if slices.Equal(slices.Delete(slices.Clone(vertices), f, f+1), slices.Sorted(slices.Values(names))) {
				return int64(tet), int64(f)
			}
		}
	}
	return -1, -1
}

// gluePrisms glues a face of a prism to one of another prism, each vertex to the one at the same place.
func gluePrisms(tri impl.Triangulation, a int64, names []int64, b int64, others []int64) {
	tet, f := prismFace(names)
	to, g := prismFace(others)
	images := repeated(g, 4)
	for i, name := range names {
		images[slices.Index(prism[tet], name)] = int64(slices.Index(prism[to], others[i]))
	}
	glueModel(tri, 3*a+tet, f, 3*b+to, permWith(images))
}

// thickened has a prism over each triangle of a surface without turned pairs.
func thickened(s surface) impl.Triangulation {
	tri := unglued(int(3 * s.triangles))
	for a := range s.triangles {
		glueModel(tri, 3*a, 2, 3*a+1, 0)
		glueModel(tri, 3*a+1, 1, 3*a+2, 0)
	}
	for _, p := range s.pairs {
		images := p.images()
		ends := slices.Delete(identityList(3), int(p.e), int(p.e)+1)
		x, y := ends[0], ends[1]
		gluePrisms(tri, p.a, []int64{x, y, y + 3}, p.b, []int64{images[x], images[y], images[y] + 3})
		gluePrisms(tri, p.a, []int64{x, x + 3, y + 3}, p.b, []int64{images[x], images[x] + 3, images[y] + 3})
	}
	return tri
}

// bundleOf glues the lower triangle of each prism to its upper one: the product of a surface and a circle.
func bundleOf(s surface) impl.Triangulation {
	tri := thickened(s)
	for a := range s.triangles {
		gluePrisms(tri, a, []int64{0, 1, 2}, a, []int64{3, 4, 5})
	}
	return tri
}

// smallSurfaces has all with one or two triangles, and irregular ones of all sizes.
func smallSurfaces() []surface {
	list := append(surfacesOf(1, false, true), surfacesOf(2, false, true)...)
	seed := numbers(91)
	for triangles := int64(2); triangles <= 8; triangles++ {
		for range 6 {
			most := 3 * triangles / 2
			list = append(list, seed.surface(triangles, most), seed.surface(triangles, seed.next(most/2, most)))
		}
	}
	return list
}

func TestLinksOfCones(t *testing.T) {
	kinds := map[int64]int{}
	for _, s := range smallSurfaces() {
		tri := coneOf(s)
		skeleton, _ := impl.SkeletonOf(tri)
		for a, want := range s.facts() {
			class := skeleton.Vertices[a][3]
			euler, code := impl.LinkEuler(tri, class)
			isClosed, isOrientable, kind := impl.LinkIsClosed(tri, class), impl.LinkIsOrientable(tri, class), impl.LinkKind(tri, class)
			if code != impl.ErrNone || euler != want.euler || isClosed != want.isClosed || isOrientable != want.orientable || kind != want.kind() {
				t.Fatal(s, a, euler, code, isClosed, isOrientable, kind, want)
			}
			if !want.isClosed {
				kind += 10
			}
			kinds[kind]++
		}
	}
	for _, kind := range []int64{impl.LinkSphere, impl.LinkTorus, impl.LinkKlein, impl.LinkOther, 10 + impl.LinkDisc, 10 + impl.LinkOther} {
		if kinds[kind] < 5 {
			t.Error("too few cones", kinds)
		}
	}
}

// TestDoubledCones sees that a closed surface is the link on both sides of its suspension.
func TestDoubledCones(t *testing.T) {
	seen := 0
	for _, s := range smallSurfaces() {
		if s.triangles > 4 || 2*int64(len(s.pairs)) != 3*s.triangles {
			continue
		}
		tri := doubled(coneOf(s))
		skeleton, _ := impl.SkeletonOf(tri)
		isManifold := true
		for a, want := range s.facts() {
			for _, tet := range []int64{a, a + s.triangles} {
				if kind := impl.LinkKind(tri, skeleton.Vertices[tet][3]); kind != want.kind() {
					t.Fatal(s, tet, kind, want)
				}
			}
			isManifold = isManifold && want.kind() == impl.LinkSphere
		}
		if impl.IsManifold(tri) != isManifold || impl.IsIdeal(tri) {
			t.Fatal(s, isManifold)
		}
		seen++
	}
	if seen < 100 {
		t.Error(seen)
	}
}

// TestThickenedSurfaces sees that the product of a surface and an interval is a manifold, whose boundary
// consists of two copies, joined where the surface is not closed.
func TestThickenedSurfaces(t *testing.T) {
	closed, open := map[int64]int{}, map[int64]int{}
	for _, s := range append(surfacesOf(1, false), surfacesOf(2, false)...) {
		tri := thickened(s)
		var want []int64
		sum := int64(0)
		for _, facts := range s.facts() {
			sum += facts.euler
			if facts.isClosed {
				want = append(want, facts.euler, facts.euler)
				closed[facts.euler]++
			} else {
				want = append(want, 2*facts.euler)
				open[facts.euler]++
			}
		}
		slices.Sort(want)
		got := impl.BoundaryEuler(tri)
		slices.Sort(got)
		if euler, _ := impl.EulerOf(tri); !impl.IsManifold(tri) || impl.IsIdeal(tri) || euler != sum || !slices.Equal(got, want) {
			t.Fatal(s, tri, got, want)
		}
		if components := impl.BoundaryComponents(tri); len(components) != len(want) {
			t.Fatal(s, tri, components)
		}
	}
	if closed[2] == 0 || closed[1] == 0 || closed[0] < 2 || open[1] == 0 || open[0] == 0 {
		t.Error(closed, open)
	}
}

func TestBundles(t *testing.T) {
	closed := 0
	for _, s := range append(surfacesOf(1, false), surfacesOf(2, false)...) {
		tri := bundleOf(s)
		isClosed := 2*int64(len(s.pairs)) == 3*s.triangles
		if !impl.IsManifold(tri) || impl.IsIdeal(tri) || impl.IsClosed(tri) != isClosed {
			t.Fatal(s, tri)
		}
		if euler, code := impl.EulerOf(tri); euler != 0 || code != impl.ErrNone {
			t.Fatal(s, tri, euler, code)
		}
		// The rest of the boundary consists of tori and Klein bottles.
		for _, euler := range impl.BoundaryEuler(tri) {
			if euler != 0 || isClosed {
				t.Fatal(s, tri, euler)
			}
		}
		if isClosed {
			closed++
		}
	}
	if closed < 10 {
		t.Error(closed)
	}
}
