package tests

import (
	"slices"
	"strings"
	"testing"

	"loop.example/g00870/impl"
)

// A word is modelled as a text: the generators are the small letters from a on, and their inverses
// the large ones. The model makes its moves by replacing parts of texts, and knows no limits.

func textOf(w []int64) string {
	text := ""
	for _, x := range w {
		if x > 0 {
			text += string(rune('a' + x - 1))
		} else {
			text += string(rune('A' - x - 1))
		}
	}
	return text
}

func wordOf(text string) []int64 {
	var w []int64
	for _, c := range text {
		if c >= 'a' {
			w = append(w, int64(c-'a')+1)
		} else {
			w = append(w, -int64(c-'A')-1)
		}
	}
	return w
}

// reducedText removes pairs, letter by letter of the alphabet, until there are none.
func reducedText(text string) string {
	for {
		before := text
		for c := 'a'; c <= 'z'; c++ {
			small, large := string(c), strings.ToUpper(string(c))
			text = strings.ReplaceAll(text, small+large, "")
			text = strings.ReplaceAll(text, large+small, "")
		}
		if text == before {
			return text
		}
	}
}

func swapCase(c rune) rune {
	if c >= 'a' {
		return c - 'a' + 'A'
	}
	return c - 'A' + 'a'
}

func invertedText(text string) string {
	letters := []rune(strings.Map(swapCase, text))
	slices.Reverse(letters)
	return string(letters)
}

type textGroup struct {
	generators int64
	relators   []string
}

func textGroupOf(p impl.Presentation) textGroup {
	g := textGroup{generators: p.Generators}
	for _, w := range p.Relators {
		g.relators = append(g.relators, textOf(w))
	}
	return g
}

func (g textGroup) presentation() impl.Presentation {
	p := impl.Presentation{Generators: g.generators}
	for _, text := range g.relators {
		p.Relators = append(p.Relators, wordOf(text))
	}
	return p
}

func (g textGroup) hasRelator(i int64) bool {
	return i >= 0 && i < int64(len(g.relators))
}

// mayAppend reports whether w is a reduced word in the generators of g.
func (g textGroup) mayAppend(w []int64) bool {
	for _, x := range w {
		if x == 0 || x > g.generators || x < -g.generators {
			return false
		}
	}
	return len(w) <= impl.MaxWord && reducedText(textOf(w)) == textOf(w)
}

// code returns the first condition that forbids a move, but for the limits of the result.
func (g textGroup) code(m impl.TietzeMove) int64 {
	switch {
	case m.Kind < impl.TietzeInvert || m.Kind > impl.TietzeAdd:
		return impl.ErrRange
	case m.Kind != impl.TietzeAdd && !g.hasRelator(m.I),
		m.Kind == impl.TietzeMultiply && !g.hasRelator(m.J),
		m.Kind == impl.TietzeRemove && (m.J < 1 || m.J > g.generators):
		return impl.ErrNotFound
	case m.Kind == impl.TietzeAdd && !g.mayAppend(m.Word):
		return impl.ErrInvalid
	case m.Kind == impl.TietzeMultiply && m.I == m.J,
		m.Kind == impl.TietzeDrop && g.relators[m.I] != "",
		m.Kind == impl.TietzeRemove && strings.Count(strings.ToLower(g.relators[m.I]), textOf([]int64{m.J})) != 1:
		return impl.ErrState
	}
	return impl.ErrNone
}

// exceeds reports whether g is too large for a presentation.
func (g textGroup) exceeds() bool {
	tooLong := func(text string) bool { return len(text) > impl.MaxWord }
	return g.generators > impl.MaxGenerators || len(g.relators) > impl.MaxRelators || slices.ContainsFunc(g.relators, tooLong)
}

// move returns what ApplyTietze should return for the presentation g.
func (g textGroup) move(m impl.TietzeMove) (impl.Presentation, int64) {
	if code := g.code(m); code != impl.ErrNone {
		return impl.Presentation{}, code
	}
	g.relators = slices.Clone(g.relators)
	switch i, j := m.I, m.J; m.Kind {
	case impl.TietzeInvert:
		g.relators[i] = invertedText(g.relators[i])
	case impl.TietzeRotate:
		if text := g.relators[i]; text != "" {
			g.relators[i] = text[1:] + text[:1]
		}
	case impl.TietzeMultiply:
		g.relators[i] += g.relators[j]
	case impl.TietzeDrop:
		g.relators = slices.Delete(g.relators, int(i), int(i)+1)
	case impl.TietzeRemove:
		g.remove(int(i), textOf([]int64{j}))
	case impl.TietzeAdd:
		g.generators++
		g.relators = append(g.relators, textOf([]int64{-g.generators})+textOf(m.Word))
	}
	for i, text := range g.relators {
		g.relators[i] = reducedText(text)
	}
	if g.exceeds() {
		return impl.Presentation{}, impl.ErrLimit
	}
	return g.presentation(), impl.ErrNone
}

func (g *textGroup) remove(i int, letter string) {
	value := ""
	if u, v, found := strings.Cut(g.relators[i], letter); found {
		value = invertedText(v + u)
	} else {
		u, v, _ := strings.Cut(g.relators[i], strings.ToUpper(letter))
		value = v + u
	}
	pairs := []string{letter, value, strings.ToUpper(letter), invertedText(value)}
	shifts := []string{}
	for c := letter[0] + 1; c <= 'z'; c++ {
		shifts = append(shifts, string(c), string(c-1), strings.ToUpper(string(c)), strings.ToUpper(string(c-1)))
	}
	g.generators--
	g.relators = slices.Delete(g.relators, i, i+1)
	for k, text := range g.relators {
		g.relators[k] = strings.NewReplacer(shifts...).Replace(strings.NewReplacer(pairs...).Replace(text))
	}
}

// mapsOfThree are the permutations of three numbers.
var mapsOfThree = [6][3]int{{0, 1, 2}, {0, 2, 1}, {1, 0, 2}, {1, 2, 0}, {2, 0, 1}, {2, 1, 0}}

// actsTrivially reports whether a word fixes three numbers, on which each generator acts by the
// permutation that is chosen for it.
func actsTrivially(w []int64, choice []int) bool {
	for start := range 3 {
		x := start
		for _, letter := range w {
			if letter > 0 {
				x = mapsOfThree[choice[letter-1]][x]
			} else {
				f := mapsOfThree[choice[-letter-1]]
				x = slices.Index(f[:], x)
			}
		}
		if x != start {
			return false
		}
	}
	return true
}

// countActions returns the number of homomorphisms from the group of p to the permutations of three
// numbers, which are not commutative.
func countActions(p impl.Presentation) int {
	count, choice := 0, make([]int, p.Generators)
	for {
		if !slices.ContainsFunc(p.Relators, func(w []int64) bool { return !actsTrivially(w, choice) }) {
			count++
		}
		k := 0
		for k < len(choice) && choice[k] == 5 {
			choice[k] = 0
			k++
		}
		if k == len(choice) {
			return count
		}
		choice[k]++
	}
}

func TestTextsOfWords(t *testing.T) {
	if textOf([]int64{1, -2, 24, -24}) != "aBxX" || !slices.Equal(wordOf("aBxX"), []int64{1, -2, 24, -24}) {
		t.Fatal("the model is wrong")
	}
	if reducedText("abBAc") != "c" || invertedText("aBc") != "CbA" {
		t.Fatal("the model is wrong")
	}
	if n := countActions(presentationOf(1, "aaa")); n != 3 {
		t.Fatal(n)
	}
}
