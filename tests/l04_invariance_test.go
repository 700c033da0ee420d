package tests

import (
	"slices"
	"testing"

	"loop.example/g00870/impl"
)

// checkSameGroup makes a move by the model, too, and sees that it changes neither the
// abelianization nor the numbers of representations and of actions on three numbers. It reports
// whether the move and both abelianizations succeeded.
func checkSameGroup(t *testing.T, p impl.Presentation, m impl.TietzeMove) bool {
	t.Helper()
	q, code := checkMove(t, p, m)
	if code != impl.ErrNone {
		return false
	}
	checkActions(t, p, q)
	checkRepresentations(t, p, q, 4)
	return checkAbelianizations(t, p, q)
}

func checkActions(t *testing.T, p impl.Presentation, q impl.Presentation) {
	t.Helper()
	if p.Generators > 3 || q.Generators > 3 {
		return
	}
	if a, b := countActions(p), countActions(q); a != b {
		t.Fatal(p, q, "have", a, "and", b, "actions")
	}
}

// checkAbelianizations compares where neither exceeds the limit, and reports whether that is so.
func checkAbelianizations(t *testing.T, p impl.Presentation, q impl.Presentation) bool {
	t.Helper()
	a, code := impl.AbelianizationOf(p)
	b, other := impl.AbelianizationOf(q)
	if code != impl.ErrNone || other != impl.ErrNone {
		if code == impl.ErrInvalid || other == impl.ErrInvalid {
			t.Fatal(p, q, code, other)
		}
		return false
	}
	if !sameGroup(a, b) {
		t.Fatal(p, q, a, b)
	}
	return true
}

// TestMovesOfSmallPresentations tries all moves of all presentations with two generators and two
// relators of at most three letters.
func TestMovesOfSmallPresentations(t *testing.T) {
	var texts []string
	for _, w := range shortWords(3, 2) {
		if isReducedList(w) {
			texts = append(texts, textOf(w))
		}
	}
	done := map[int64]int{}
	for _, first := range texts {
		for _, second := range texts {
			p := presentationOf(2, first, second)
			for _, m := range movesOf(p, []int64{}, []int64{-1, 2}) {
				if checkSameGroup(t, p, m) {
					done[m.Kind]++
				}
			}
		}
	}
	for kind := int64(impl.TietzeInvert); kind <= impl.TietzeAdd; kind++ {
		if done[kind] < 100 {
			t.Fatal(kind, done)
		}
	}
}

// TestMovesOfOrdinaryPresentations makes moves one after the other.
func TestMovesOfOrdinaryPresentations(t *testing.T) {
	seed, done, limits := numbers(71), map[int64]int{}, 0
	for range 400 {
		p := seed.presentation(seed.next(0, 3), seed.next(0, 5), []int64{5, 12, 120}[seed.next(0, 2)])
		for range 30 {
			m := impl.TietzeMove{Kind: seed.next(1, 6), I: seed.next(0, int64(len(p.Relators))), J: seed.next(0, 4)}
			if p.Generators > 0 {
				m.Word = wordOf(reducedText(textOf(seed.word(seed.next(0, 4), p.Generators))))
			}
			if checkSameGroup(t, p, m) {
				done[m.Kind]++
			}
			q, code := impl.ApplyTietze(p, m)
			if code == impl.ErrLimit {
				limits++
			}
			if code == impl.ErrNone {
				p = q
			}
		}
	}
	if min(done[1], done[2], done[3], done[4], done[5], done[6]) < 50 || limits < 10 {
		t.Fatal("the cases are one-sided:", done, limits)
	}
}

// TestMovesOfLargePresentations has up to all generators and relators.
func TestMovesOfLargePresentations(t *testing.T) {
	seed, done := numbers(72), map[int64]int{}
	for range 12 {
		p := seed.presentation(seed.next(20, 24), seed.next(10, 48), 6)
		for _, m := range movesOf(p, []int64{}, []int64{1, -2, 20}) {
			if m.Kind == impl.TietzeMultiply && seed.next(0, 9) > 0 {
				continue
			}
			if checkSameGroup(t, p, m) {
				done[m.Kind]++
			}
		}
	}
	if min(done[1], done[2], done[3], done[4], done[5], done[6]) < 10 {
		t.Fatal("the cases are one-sided:", done)
	}
}

// TestRemovalsInAllPlaces puts the letter J, and -J, in each place of a relator; where it is long,
// the result often exceeds MaxWord.
func TestRemovalsInAllPlaces(t *testing.T) {
	seed, done, limits := numbers(73), 0, 0
	for range 500 {
		size := []int64{8, 100}[seed.next(0, 9)/9]
		p, j := seed.presentation(3, 3, size), seed.next(1, 3)
		others := slices.DeleteFunc(seed.word(seed.next(0, size-2), 3), func(x int64) bool { return x == j || x == -j })
		others = wordOf(reducedText(textOf(others)))
		for place := range len(others) + 1 {
			for _, letter := range []int64{j, -j} {
				p.Relators[1] = slices.Insert(slices.Clone(others), place, letter)
				if checkSameGroup(t, p, removing(1, j)) {
					done++
				}
				if _, code := impl.ApplyTietze(p, removing(1, j)); code == impl.ErrLimit {
					limits++
				}
			}
		}
	}
	if done < 2000 || limits < 100 {
		t.Fatal(done, limits)
	}
}

// TestMovesThatUndoEachOther: two inversions, all rotations of a cyclically reduced relator, a
// product with the inverse of a factor, and the removal of a generator that was added.
func TestMovesThatUndoEachOther(t *testing.T) {
	seed, done := numbers(74), 0
	for range 1000 {
		p := seed.presentation(seed.next(1, 5), 3, 20)
		p.Relators[0] = impl.CyclicReduce(p.Relators[0])
		turns := slices.Repeat([]impl.TietzeMove{rotating(0)}, len(p.Relators[0]))
		word := wordOf(reducedText(textOf(seed.word(seed.next(0, 6), p.Generators))))
		for _, moves := range [][]impl.TietzeMove{
			{inverting(1), inverting(1)},
			turns,
			{multiplying(0, 2), inverting(2), multiplying(0, 2), inverting(2)},
			{adding(word...), removing(3, p.Generators+1)},
			{adding(word...), inverting(3), rotating(3), removing(3, p.Generators+1)},
		} {
			q, code := p, int64(impl.ErrNone)
			for _, m := range moves {
				if q, code = impl.ApplyTietze(q, m); code != impl.ErrNone {
					t.Fatal(p, moves, code)
				}
			}
			if !samePresentation(q, p) {
				t.Fatal(p, moves, q)
			}
			done++
		}
	}
	if done != 5000 {
		t.Fatal(done)
	}
}
