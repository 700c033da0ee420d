package tests

import (
	"strings"
	"testing"

	"loop.example/g00870/impl"
)

func TestTriangulationTextByHand(t *testing.T) {
	rows := map[string]impl.Triangulation{
		"":                   unglued(0),
		"- - - -;":           unglued(1),
		"- - - -;- - - -;":   unglued(2),
		"0:1023 0:1023 - -;": pairsOf(1, 0, 0),
		"0:1203 0:2013 - -;": {Tets: [][]impl.Face{{{Tet: 0, Perm: 8}, {Tet: 0, Perm: 12}, {Tet: -1}, {Tet: -1}}}},
		"0:1023 0:1023 0:0132 0:0132;": {Tets: [][]impl.Face{{
			{Tet: 0, Perm: 6}, {Tet: 0, Perm: 6}, {Tet: 0, Perm: 1}, {Tet: 0, Perm: 1}}}},
		"- - 1:0132 -;- - - 0:0132;": {Tets: [][]impl.Face{
			{{Tet: -1}, {Tet: -1}, {Tet: 1, Perm: 1}, {Tet: -1}}, {{Tet: -1}, {Tet: -1}, {Tet: -1}, {Tet: 0, Perm: 1}}}},
	}
	for text, tri := range rows {
		if got := impl.TriangulationText(tri); got != text {
			t.Error(tri, got, text)
		}
		if got, ok := impl.ReadTriangulation(text); !ok || !sameTriangulation(got, tri) {
			t.Error(text, got, ok)
		}
	}
	for _, bad := range badTriangulations() {
		if got := impl.TriangulationText(bad); got != "" {
			t.Error(bad, got)
		}
	}
}

func TestTriangulationsAreRecovered(t *testing.T) {
	texts := map[string]bool{}
	for _, tri := range sampleTriangulations() {
		g, check := guardedTriangulation(t, tri)
		text := impl.TriangulationText(g)
		check()
		if want := modelText(tri); text != want {
			t.Fatal(tri, text, want)
		}
		texts[text] = true
		back, ok := impl.ReadTriangulation(text)
		if !ok || !sameTriangulation(back, tri) {
			t.Fatal(tri, text, back, ok)
		}
		spoilTriangulation(t, back)
		if again, ok := impl.ReadTriangulation(text); !ok || !sameTriangulation(again, tri) {
			t.Fatal(tri, text, again, ok)
		}
	}
	if len(texts) < 200 {
		t.Error(len(texts))
	}
}

// checkReading compares with the model, and reports whether s is the text of a triangulation.
func checkReading(t *testing.T, s string) bool {
	t.Helper()
	want, wantOk := readModel(s)
	got, ok := impl.ReadTriangulation(s)
	if ok != wantOk || !sameTriangulation(got, want) {
		t.Fatalf("%.300q %v %v %v %v", s, got, ok, want, wantOk)
	}
	if ok && impl.TriangulationText(got) != s {
		t.Fatalf("%q %q", s, impl.TriangulationText(got))
	}
	return ok
}

// TestReadChangedTexts cuts texts, and changes, inserts and removes each byte.
func TestReadChangedTexts(t *testing.T) {
	seed := numbers(81)
	texts := []string{
		"- - - -;",
		"0:1023 0:1023 - -;",
		"0:1023 0:1023 0:0132 0:0132;",
		"- - 1:0132 -;- - - 0:0132;",
		"- - - -;- - - -;- - - -;",
		modelText(seed.triangulation(2, 4)),
		modelText(seed.triangulation(3, 5)),
	}
	accepted, refused := 0, 0
	count := func(s string) {
		t.Helper()
		if checkReading(t, s) {
			accepted++
		} else {
			refused++
		}
	}
	for _, text := range texts {
		for i := range len(text) + 1 {
			checkReading(t, text[:i])
			checkReading(t, text[i:])
			for c := range 256 {
				between := string([]byte{byte(c)})
				count(text[:i] + between + text[i:])
				if i < len(text) {
					count(text[:i] + between + text[i+1:])
				}
			}
			if i < len(text) {
				count(text[:i] + text[i+1:])
			}
			for j := range i {
				count(text[:j] + text[i:])
			}
		}
	}
	// Each text is found again where a byte is replaced by itself; few others are texts too.
	if accepted < 100 || refused < 10000 {
		t.Error(accepted, refused)
	}
}

// TestReadPairsOfChanges changes two faces of a text at once, which may again be glued to each other.
func TestReadPairsOfChanges(t *testing.T) {
	words := []string{"-", "", "0", "0:", ":0123", "0:012", "0:01234", "1:0123"}
	for _, images := range allOfFour {
		words = append(words, modelText(impl.Triangulation{Tets: [][]impl.Face{{{Tet: 0, Perm: permWith(images)}}}}))
	}
	accepted := 0
	for i, first := range words {
		words[i] = strings.TrimSuffix(first, ";")
		for _, second := range words[:i+1] {
			for _, rest := range []string{"- -", "- 0:0132", "0:0132 0:0132"} {
				for _, text := range []string{words[i] + " " + second + " " + rest + ";", second + " " + words[i] + " " + rest + ";"} {
					if checkReading(t, text) {
						accepted++
					}
				}
			}
		}
	}
	if accepted < 20 {
		t.Error(accepted)
	}
}

func TestReadTriangulationByHand(t *testing.T) {
	refused := []string{
		" ", ";", ";;", "-", "-;", "- - - -", "- - -;", "- - - - -;", " - - - -;", "- - - - ;", "- - - -; ", "-  - - -;", "- - - -;;", ";- - - -;",
		"- - - -; - - - -;", "- - - -,", "- - - -\n;", "- - - -;\n", "-\t- - -;", "- - - -;- - - -", "- - - -;-", "-\x00- - -;", "----;",
		"0:1023 0:1023 - - ;", "0:1023  0:1023 - -;", "00:1023 00:1023 - -;", "00:1023 0:1023 - -;", "+0:1023 +0:1023 - -;", "-0:1023 -0:1023 - -;",
		"0: 1023 0:1023 - -;", "0 :1023 0:1023 - -;", "0:01023 0:01023 - -;", "0:1023: 0:1023: - -;", "0::1023 0::1023 - -;", "0.1023 0.1023 - -;",
		"0:102 0:102 - -;", "0:10233 0:10233 - -;", "0:1024 0:1024 - -;", "0:1033 0:1033 - -;", "0:10 23 0:1023 - -;", "0:-1023 0:1023 - -;",
		"0:1023 - - -;", "- 0:1023 - -;", "0:1023 0:1032 - -;", "0:1203 0:1203 - -;", "0:0123 - - -;", "- - - 0:0123;", "1:0123 - - -;", "-1:0123 - - -;",
		"-1:0123 -1:0123 - -;", "1:1023 1:1023 - -;", "9:0123 - - -;", "8:0123 - - -;", "x", "0", ":", "0:1023", "1", "18446744073709551616:1023 0:1023 - -;",
		"256:1023 256:1023 - -;", "0x0:1023 0:1023 - -;", "0_0:1023 0:1023 - -;", "٠:1023 ٠:1023 - -;", "0:\xb1023 0:1023 - -;", "–  - - -;",
		"- - 1:0132 -;- - - -;", "- - 1:0132 -;- - 0:0132 -;", "- - 1:0132 -;", "1:0123 - - -;2:0123 - - -;0:0123 - - -;",
	}
	for _, text := range refused {
		if checkReading(t, text) {
			t.Errorf("%q", text)
		}
	}
}

// TestReadLongTexts has texts of up to MaxTets tetrahedra and more. The longest text of a triangulation
// has 224 bytes, so that all longer ones are refused, those of MaxTriangulationText bytes too.
func TestReadLongTexts(t *testing.T) {
	tet := "- - - -;"
	for _, n := range []int{0, 1, 7, 8, 9, 10, 49, 50, 51, 100000} {
		if checkReading(t, strings.Repeat(tet, n)) != (n <= 8) {
			t.Error(n)
		}
	}
	seed := numbers(82)
	for range 50 {
		text := modelText(seed.triangulation(8, 16))
		if len(text) != 224 || !checkReading(t, text) {
			t.Error(text)
		}
		for _, more := range []string{" ", ";", "-", "0", tet, text, text[:175] + ";", text[:176] + ";", strings.Repeat(" ", 176), strings.Repeat(" ", 177)} {
			if checkReading(t, text+more) || checkReading(t, more+text) {
				t.Error(text, more)
			}
		}
	}
	if len(strings.Repeat(tet, 50)) != impl.MaxTriangulationText {
		t.Error("50 tetrahedra without gluings")
	}
	for _, length := range []int{399, 400, 401, 1000000} {
		for _, c := range []string{"-", " ", ";", "0", "0:0123 ", "\x00"} {
			if checkReading(t, strings.Repeat(c, length)[:length]) {
				t.Error(length, c)
			}
		}
	}
}
