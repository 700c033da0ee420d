package tests

import (
	"fmt"
	"regexp"
	"slices"
	"strings"
	"testing"

	"loop.example/g00870/impl"
)

// The model looks up the images of all four vertices in a list of permutations, and follows each one
// through a gluing and back.

func unglued(tets int) impl.Triangulation {
	t := impl.Triangulation{}
	for range tets {
		t.Tets = append(t.Tets, slices.Repeat([]impl.Face{{Tet: -1}}, 4))
	}
	return t
}

func clonedTriangulation(t impl.Triangulation) impl.Triangulation {
	clone := impl.Triangulation{}
	for _, faces := range t.Tets {
		clone.Tets = append(clone.Tets, slices.Clone(faces))
	}
	return clone
}

func sameTriangulation(a impl.Triangulation, b impl.Triangulation) bool {
	return slices.EqualFunc(a.Tets, b.Tets, slices.Equal)
}

// permWith returns the index of the permutation with these images.
func permWith(images []int64) int64 {
	return int64(slices.IndexFunc(allOfFour, func(list []int64) bool { return slices.Equal(list, images) }))
}

// glueModel writes a gluing into t, at both of its faces.
func glueModel(t impl.Triangulation, a int64, f int64, b int64, perm int64) {
	images := allOfFour[perm]
	t.Tets[a][f] = impl.Face{Tet: b, Perm: perm}
	t.Tets[b][images[f]] = impl.Face{Tet: a, Perm: permWith(inverseList(images))}
}

// glueFaces glues two faces, each a pair of a tetrahedron and a face, by the permutation that is most
// like images.
func glueFaces(t impl.Triangulation, here []int64, there []int64, images []int64) {
	at := slices.Index(images, there[1])
	images[at], images[here[1]] = images[here[1]], images[at]
	glueModel(t, here[0], here[1], there[0], permWith(images))
}

func isModelFace(t impl.Triangulation, face impl.Face) bool {
	isGlued := face.Tet >= 0 && face.Tet < int64(len(t.Tets)) && face.Perm >= 0 && face.Perm < 24
	return isGlued || face.Tet == -1 && face.Perm == 0
}

// isGluedInModel follows the vertices of the tetrahedron a through its face f, and back.
func isGluedInModel(t impl.Triangulation, a int64, f int64) bool {
	face := t.Tets[a][f]
	there := allOfFour[face.Perm]
	if face.Tet == a && there[f] == f {
		return false
	}
	other := t.Tets[face.Tet][there[f]]
	if other.Tet != a {
		return false
	}
	back := allOfFour[other.Perm]
	for v := range int64(4) {
		if back[there[v]] != v {
			return false
		}
	}
	return true
}

func isModelTriangulation(t impl.Triangulation) bool {
	if len(t.Tets) > 8 {
		return false
	}
	for _, faces := range t.Tets {
		if len(faces) != 4 {
			return false
		}
		for _, face := range faces {
			if !isModelFace(t, face) {
				return false
			}
		}
	}
	for a, faces := range t.Tets {
		for f, face := range faces {
			if face.Tet >= 0 && !isGluedInModel(t, int64(a), int64(f)) {
				return false
			}
		}
	}
	return true
}

// freeFaces returns the pairs of a tetrahedron and a face that is not glued, in order.
func freeFaces(t impl.Triangulation) [][]int64 {
	pairs := [][]int64{}
	for a := range int64(len(t.Tets)) {
		for f := range int64(4) {
			if t.Tets[a][f].Tet == -1 {
				pairs = append(pairs, []int64{a, f})
			}
		}
	}
	return pairs
}

// freePair returns two of the pairs of freeFaces.
func (s *numbers) freePair(t impl.Triangulation) ([]int64, []int64) {
	free := freeFaces(t)
	i := s.next(0, int64(len(free))-1)
	here := free[i]
	free = slices.Delete(free, int(i), int(i)+1)
	return here, free[s.next(0, int64(len(free))-1)]
}

// triangulation returns some triangulation with at most so many gluings.
func (s *numbers) triangulation(tets int64, gluings int64) impl.Triangulation {
	t := unglued(int(tets))
	for range min(gluings, 2*tets) {
		here, there := s.freePair(t)
		glueFaces(t, here, there, s.permutation(4))
	}
	return t
}

// oneTetTriangulations returns all triangulations with one tetrahedron, among all lists of four faces
// that are boundary faces or glued within it by any permutation.
func oneTetTriangulations() []impl.Triangulation {
	var list []impl.Triangulation
	forFacesOfOne(func(t impl.Triangulation) {
		if isModelTriangulation(t) {
			list = append(list, clonedTriangulation(t))
		}
	})
	return list
}

// forFacesOfOne sees 25^4 tetrahedra, most of them not valid, in one that it changes.
func forFacesOfOne(see func(t impl.Triangulation)) {
	var choices []impl.Face
	for perm := range int64(24) {
		choices = append(choices, impl.Face{Tet: 0, Perm: perm})
	}
	choices = append(choices, impl.Face{Tet: -1})
	t := unglued(1)
	for i := range 25 * 25 * 25 * 25 {
		rest := i
		for f := range 4 {
			t.Tets[0][f] = choices[rest%25]
			rest /= 25
		}
		see(t)
	}
}

// sampleTriangulations has the empty one, all that have one tetrahedron, and irregular ones of all
// sizes, from those without gluings to closed ones.
func sampleTriangulations() []impl.Triangulation {
	list := append(oneTetTriangulations(), unglued(0))
	return append(list, irregularTriangulations()...)
}

func irregularTriangulations() []impl.Triangulation {
	seed := numbers(707)
	var list []impl.Triangulation
	for tets := int64(1); tets <= 8; tets++ {
		for gluings := range 2*tets + 1 {
			list = append(list, seed.triangulation(tets, gluings))
		}
		list = append(list, seed.triangulation(tets, 2*tets), seed.triangulation(tets, tets-1))
	}
	return list
}

// badTriangulations are not valid.
func badTriangulations() []impl.Triangulation {
	face := func(tet int64, perm int64) impl.Face { return impl.Face{Tet: tet, Perm: perm} }
	none := face(-1, 0)
	four := []impl.Face{none, none, none, none}
	list := []impl.Triangulation{
		{Tets: [][]impl.Face{nil}},
		{Tets: [][]impl.Face{{}}},
		{Tets: [][]impl.Face{four, nil}},
		{Tets: [][]impl.Face{nil, four}},
		{Tets: [][]impl.Face{{none}}},
		{Tets: [][]impl.Face{{none, none, none}}},
		{Tets: [][]impl.Face{four, {none, none, none}}},
		{Tets: [][]impl.Face{{none, none, none, none, none}}},
		{Tets: [][]impl.Face{four, {none, none, none, none, none}, four}},
		{Tets: [][]impl.Face{{none, none, none, face(0, 0), face(0, 0)}}},
		{Tets: slices.Repeat([][]impl.Face{four}, 9)},
		{Tets: slices.Repeat([][]impl.Face{four}, 100000)},
		{Tets: slices.Repeat([][]impl.Face{nil}, 8)},
		{Tets: make([][]impl.Face, 9)},
		{Tets: [][]impl.Face{make([]impl.Face, 4)}},
		{Tets: [][]impl.Face{slices.Repeat(four, 1000)}},
		// From one side only, differently from both sides, and in a ring of three faces.
		{Tets: [][]impl.Face{{face(0, 6), none, none, none}}},
		{Tets: [][]impl.Face{{none, face(0, 6), none, none}}},
		{Tets: [][]impl.Face{{face(0, 6), face(0, 7), none, none}}},
		{Tets: [][]impl.Face{{face(0, 8), face(0, 8), none, none}}},
		{Tets: [][]impl.Face{{face(0, 6), none, face(0, 14), none}}},
		{Tets: [][]impl.Face{{face(0, 8), face(0, 8), face(0, 8), none}}},
		{Tets: [][]impl.Face{{none, none, none, face(1, 0)}, four}},
		{Tets: [][]impl.Face{four, {none, none, none, face(0, 0)}}},
		{Tets: [][]impl.Face{{none, none, none, face(1, 0)}, {none, none, none, face(0, 2)}}},
		{Tets: [][]impl.Face{{none, none, none, face(1, 0)}, {none, none, none, face(1, 0)}}},
		{Tets: [][]impl.Face{{face(1, 0), none, none, none}, {face(2, 0), none, none, none}, {face(0, 0), none, none, none}}},
		// Faces glued to themselves, also by permutations that are their own inverses.
		{Tets: [][]impl.Face{{face(0, 0), none, none, none}}},
		{Tets: [][]impl.Face{{face(0, 1), none, none, none}}},
		{Tets: [][]impl.Face{{face(0, 3), none, none, none}}},
		{Tets: [][]impl.Face{{none, none, none, face(0, 0)}}},
		{Tets: [][]impl.Face{{none, none, none, face(0, 6)}}},
		{Tets: [][]impl.Face{{face(0, 0), face(0, 0), face(0, 0), face(0, 0)}}},
		{Tets: [][]impl.Face{four, {none, face(1, 0), none, none}}},
	}
	for _, perm := range append([]int64{1, 6, 23}, badPerms...) {
		list = append(list, impl.Triangulation{Tets: [][]impl.Face{{none, none, face(-1, perm), none}}})
	}
	for _, perm := range badPerms {
		list = append(list,
			impl.Triangulation{Tets: [][]impl.Face{{face(0, perm), face(0, perm), none, none}}},
			impl.Triangulation{Tets: [][]impl.Face{{face(0, 6), face(0, perm), none, none}}},
			impl.Triangulation{Tets: [][]impl.Face{{face(0, perm), face(0, 6), none, none}}},
			impl.Triangulation{Tets: [][]impl.Face{{face(1, 0), none, none, none}, {face(0, perm), none, none, none}}},
		)
	}
	for _, tet := range []int64{minInt, minInt + 1, -1 << 32, -256, -9, -8, -3, -2, 2, 3, 7, 8, 255, 256, 257, 1 << 32, 1<<32 + 1, maxInt - 1, maxInt} {
		list = append(list,
			impl.Triangulation{Tets: [][]impl.Face{{face(tet, 0), none, none, none}, {face(tet, 0), none, none, none}}},
			impl.Triangulation{Tets: [][]impl.Face{{face(1, 0), none, none, none}, {face(tet, 0), none, none, none}}},
			impl.Triangulation{Tets: [][]impl.Face{four, {none, none, none, face(tet, 23)}}},
		)
	}
	return list
}

// modelText writes a triangulation as the document says.
func modelText(t impl.Triangulation) string {
	text := ""
	for _, faces := range t.Tets {
		var words []string
		for _, face := range faces {
			word := "-"
			if face.Tet >= 0 {
				images := allOfFour[face.Perm]
				word = fmt.Sprintf("%d:%d%d%d%d", face.Tet, images[0], images[1], images[2], images[3])
			}
			words = append(words, word)
		}
		text += strings.Join(words, " ") + ";"
	}
	return text
}

const facePattern = `(-|[0-7]:[0-3]{4})`

var tetPattern = regexp.MustCompile(`^` + facePattern + ` ` + facePattern + ` ` + facePattern + ` ` + facePattern + `;`)

// readModel reads one tetrahedron after another.
func readModel(s string) (impl.Triangulation, bool) {
	t := impl.Triangulation{}
	for s != "" {
		words := tetPattern.FindStringSubmatch(s)
		if words == nil {
			return impl.Triangulation{}, false
		}
		s = s[len(words[0]):]
		var faces []impl.Face
		for _, word := range words[1:] {
			face := impl.Face{Tet: -1}
			if word != "-" {
				digits := word[2:]
				images := []int64{int64(digits[0] - '0'), int64(digits[1] - '0'), int64(digits[2] - '0'), int64(digits[3] - '0')}
				face = impl.Face{Tet: int64(word[0] - '0'), Perm: permWith(images)}
			}
			faces = append(faces, face)
		}
		t.Tets = append(t.Tets, faces)
	}
	if !isModelTriangulation(t) {
		return impl.Triangulation{}, false
	}
	return t, true
}

// spareFace is written into the room behind the faces of an argument.
var spareFace = impl.Face{Tet: spareMark, Perm: spareMark}

// guardedTriangulation returns a copy of tri with room behind its tetrahedra and behind the faces of
// each, and a check that neither these nor that room have been written.
func guardedTriangulation(t *testing.T, tri impl.Triangulation) (impl.Triangulation, func()) {
	t.Helper()
	var whole [][]impl.Face
	for _, faces := range tri.Tets {
		room := append(slices.Clone(faces), spareFace, spareFace, spareFace, spareFace, spareFace)
		whole = append(whole, room[:len(faces)])
	}
	for range 3 {
		whole = append(whole, []impl.Face{spareFace})
	}
	before := slices.Clone(whole)
	g := impl.Triangulation{Tets: whole[:len(tri.Tets)]}
	return g, func() {
		t.Helper()
		for i, faces := range whole {
			if len(faces) != len(before[i]) || cap(faces) != cap(before[i]) || &faces[:1][0] != &before[i][:1][0] {
				t.Fatal("the tetrahedra of an argument or the room behind them were changed", whole)
			}
			room := faces[len(faces):]
			if i < len(tri.Tets) && (!slices.Equal(faces, tri.Tets[i]) || !slices.Equal(room[:5], slices.Repeat([]impl.Face{spareFace}, 5))) {
				t.Fatal("the faces of an argument or the room behind them were changed", whole)
			}
			if i >= len(tri.Tets) && faces[0] != spareFace {
				t.Fatal("the room behind an argument was changed", whole)
			}
		}
	}
}

// spoilTriangulation overwrites all the memory of a result, and finds tetrahedra that share some.
func spoilTriangulation(t *testing.T, result impl.Triangulation) {
	t.Helper()
	fill := func(i int) []impl.Face {
		return slices.Repeat([]impl.Face{{Tet: spareMark, Perm: int64(i)}}, cap(result.Tets[i]))
	}
	for i, faces := range result.Tets {
		copy(faces[:cap(faces)], fill(i))
	}
	for i, faces := range result.Tets {
		if !slices.Equal(faces[:cap(faces)], fill(i)) {
			t.Fatal("tetrahedra of a result share memory", i)
		}
	}
	clear(result.Tets[:cap(result.Tets)])
}

func isZeroTriangulation(t impl.Triangulation) bool {
	return len(t.Tets) == 0
}

func TestModelOfTriangulations(t *testing.T) {
	ones := oneTetTriangulations()
	free := map[int]int{}
	for _, tri := range ones {
		free[len(freeFaces(tri))]++
	}
	// Six permutations glue each of the six pairs of faces, and there are three ways to pair all four.
	if len(ones) != 145 || free[4] != 1 || free[2] != 36 || free[0] != 108 {
		t.Fatal(len(ones), free)
	}
	sizes := map[int]int{}
	for _, tri := range sampleTriangulations() {
		sizes[len(tri.Tets)]++
		if !isModelTriangulation(tri) {
			t.Fatal(tri)
		}
		if back, ok := readModel(modelText(tri)); !ok || !sameTriangulation(back, tri) {
			t.Fatal(tri, modelText(tri))
		}
	}
	if len(sizes) != 9 {
		t.Fatal(sizes)
	}
	for _, bad := range badTriangulations() {
		if isModelTriangulation(bad) {
			t.Fatal(bad)
		}
	}
}
