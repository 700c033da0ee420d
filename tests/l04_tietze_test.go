package tests

import (
	"slices"
	"strings"
	"testing"

	"loop.example/g00870/impl"
)

func inverting(i int64) impl.TietzeMove {
	return impl.TietzeMove{Kind: impl.TietzeInvert, I: i}
}

func rotating(i int64) impl.TietzeMove {
	return impl.TietzeMove{Kind: impl.TietzeRotate, I: i}
}

func multiplying(i int64, j int64) impl.TietzeMove {
	return impl.TietzeMove{Kind: impl.TietzeMultiply, I: i, J: j}
}

func dropping(i int64) impl.TietzeMove {
	return impl.TietzeMove{Kind: impl.TietzeDrop, I: i}
}

func removing(i int64, j int64) impl.TietzeMove {
	return impl.TietzeMove{Kind: impl.TietzeRemove, I: i, J: j}
}

func adding(word ...int64) impl.TietzeMove {
	return impl.TietzeMove{Kind: impl.TietzeAdd, Word: word}
}

// movesOf returns all moves of all kinds with the relators and generators of p, whether they
// succeed or not, and with some words.
func movesOf(p impl.Presentation, words ...[]int64) []impl.TietzeMove {
	var list []impl.TietzeMove
	n := int64(len(p.Relators))
	for i := range n {
		list = append(list, inverting(i), rotating(i), dropping(i))
		for j := range n {
			list = append(list, multiplying(i, j))
		}
		for j := range p.Generators {
			list = append(list, removing(i, j+1))
		}
	}
	for _, w := range words {
		list = append(list, adding(w...))
	}
	return list
}

// checkMove compares a move with the model, and returns its result.
func checkMove(t *testing.T, p impl.Presentation, m impl.TietzeMove) (impl.Presentation, int64) {
	t.Helper()
	want, wanted := textGroupOf(p).move(m)
	got, code := impl.ApplyTietze(p, m)
	if code != wanted || !samePresentation(got, want) || code == impl.ErrNone && !impl.IsPresentation(got) {
		t.Fatal(p, m, got, code, want, wanted)
	}
	return got, code
}

type moveRow struct {
	p    impl.Presentation
	m    impl.TietzeMove
	want impl.Presentation
	code int64
}

func checkMoves(t *testing.T, rows []moveRow) {
	t.Helper()
	for _, row := range rows {
		if got, code := impl.ApplyTietze(row.p, row.m); code != row.code || !samePresentation(got, row.want) {
			t.Error(row, got, code)
		}
		checkMove(t, row.p, row.m)
	}
}

// succeeding are rows without an error.
func succeeding(p impl.Presentation, m impl.TietzeMove, want impl.Presentation) moveRow {
	return moveRow{p: p, m: m, want: want, code: impl.ErrNone}
}

func failing(p impl.Presentation, m impl.TietzeMove, code int64) moveRow {
	return moveRow{p: p, m: m, code: code}
}

func TestInvertAndRotate(t *testing.T) {
	p := presentationOf(3, "bAA", "bb", "", "c", "abcA")
	long := slices.Concat(repeated(2, 119), []int64{-1})
	checkMoves(t, []moveRow{
		succeeding(p, inverting(0), presentationOf(3, "aaB", "bb", "", "c", "abcA")),
		succeeding(p, inverting(1), presentationOf(3, "bAA", "BB", "", "c", "abcA")),
		succeeding(p, inverting(2), p),
		succeeding(p, inverting(3), presentationOf(3, "bAA", "bb", "", "C", "abcA")),
		succeeding(p, inverting(4), presentationOf(3, "bAA", "bb", "", "c", "aCBA")),
		succeeding(p, rotating(0), presentationOf(3, "AAb", "bb", "", "c", "abcA")),
		succeeding(p, rotating(1), p),
		succeeding(p, rotating(2), p),
		succeeding(p, rotating(3), p),
		succeeding(p, rotating(4), presentationOf(3, "bAA", "bb", "", "c", "bc")),
		succeeding(presentationOf(2, "abA"), rotating(0), presentationOf(2, "b")),
		succeeding(presentationOf(2, "abbAA"), rotating(0), presentationOf(2, "bbA")),
		succeeding(withRelators(2, long), rotating(0), withRelators(2, slices.Concat(repeated(2, 118), []int64{-1, 2}))),
		succeeding(withRelators(2, long), inverting(0), withRelators(2, slices.Concat([]int64{1}, repeated(-2, 119)))),
		failing(p, inverting(-1), impl.ErrNotFound),
		failing(p, inverting(5), impl.ErrNotFound),
		failing(p, rotating(-1), impl.ErrNotFound),
		failing(p, rotating(5), impl.ErrNotFound),
		failing(withRelators(3), inverting(0), impl.ErrNotFound),
		failing(withRelators(3), rotating(0), impl.ErrNotFound),
	})
}

func TestMultiplyRelators(t *testing.T) {
	p := presentationOf(3, "bAA", "bb", "", "aaB", "aaBc")
	a60, a61 := strings.Repeat("a", 60), strings.Repeat("a", 61)
	checkMoves(t, []moveRow{
		succeeding(p, multiplying(1, 0), presentationOf(3, "bAA", "bbbAA", "", "aaB", "aaBc")),
		succeeding(p, multiplying(0, 1), presentationOf(3, "bAAbb", "bb", "", "aaB", "aaBc")),
		succeeding(p, multiplying(0, 2), p),
		succeeding(p, multiplying(2, 0), presentationOf(3, "bAA", "bb", "bAA", "aaB", "aaBc")),
		succeeding(p, multiplying(0, 3), presentationOf(3, "", "bb", "", "aaB", "aaBc")),
		succeeding(p, multiplying(3, 0), presentationOf(3, "bAA", "bb", "", "", "aaBc")),
		succeeding(p, multiplying(0, 4), presentationOf(3, "c", "bb", "", "aaB", "aaBc")),
		succeeding(p, multiplying(3, 1), presentationOf(3, "bAA", "bb", "", "aab", "aaBc")),
		failing(p, multiplying(0, 0), impl.ErrState),
		failing(p, multiplying(2, 2), impl.ErrState),
		failing(p, multiplying(0, 5), impl.ErrNotFound),
		failing(p, multiplying(5, 0), impl.ErrNotFound),
		failing(p, multiplying(0, -1), impl.ErrNotFound),
		failing(p, multiplying(-1, 0), impl.ErrNotFound),
		failing(p, multiplying(5, 5), impl.ErrNotFound),
		failing(p, multiplying(-1, -1), impl.ErrNotFound),
		// MaxWord.
		succeeding(presentationOf(1, a60, a60), multiplying(0, 1), presentationOf(1, a60+a60, a60)),
		failing(presentationOf(1, a60, a61), multiplying(0, 1), impl.ErrLimit),
		failing(presentationOf(1, a61, a60), multiplying(0, 1), impl.ErrLimit),
		failing(presentationOf(1, a60+a60, "a"), multiplying(0, 1), impl.ErrLimit),
		succeeding(presentationOf(2, a60+"b", "B"+a60), multiplying(0, 1), presentationOf(2, a60+a60, "B"+a60)),
		failing(presentationOf(2, a61+"b", "B"+a60), multiplying(0, 1), impl.ErrLimit),
		succeeding(presentationOf(1, a60+a60, strings.Repeat("A", 120)), multiplying(0, 1), presentationOf(1, "", strings.Repeat("A", 120))),
		// I is J, and the product would be too long.
		failing(presentationOf(1, a61), multiplying(0, 0), impl.ErrState),
	})
}

func TestDropRelator(t *testing.T) {
	p := presentationOf(2, "a", "", "b", "")
	checkMoves(t, []moveRow{
		succeeding(p, dropping(1), presentationOf(2, "a", "b", "")),
		succeeding(p, dropping(3), presentationOf(2, "a", "", "b")),
		failing(p, dropping(0), impl.ErrState),
		failing(p, dropping(2), impl.ErrState),
		failing(p, dropping(4), impl.ErrNotFound),
		failing(p, dropping(-1), impl.ErrNotFound),
		succeeding(presentationOf(0, ""), dropping(0), impl.Presentation{}),
		succeeding(presentationOf(0, make([]string, 48)...), dropping(47), presentationOf(0, make([]string, 47)...)),
		failing(impl.Presentation{}, dropping(0), impl.ErrNotFound),
	})
}

func TestRemoveGenerator(t *testing.T) {
	checkMoves(t, []moveRow{
		succeeding(presentationOf(2, "bAA", "bb"), removing(0, 2), presentationOf(1, "aaaa")),
		// The letter J or -J is the first, the middle or the last one of the relator.
		succeeding(presentationOf(3, "bca", "b", "B"), removing(0, 2), presentationOf(2, "AB", "ba")),
		succeeding(presentationOf(3, "abc", "b", "B"), removing(0, 2), presentationOf(2, "AB", "ba")),
		succeeding(presentationOf(3, "cab", "b", "B"), removing(0, 2), presentationOf(2, "AB", "ba")),
		succeeding(presentationOf(3, "Bca", "b", "B"), removing(0, 2), presentationOf(2, "ba", "AB")),
		succeeding(presentationOf(3, "aBc", "b", "B"), removing(0, 2), presentationOf(2, "ba", "AB")),
		succeeding(presentationOf(3, "caB", "b", "B"), removing(0, 2), presentationOf(2, "ba", "AB")),
		// The relator is not cyclically reduced, so that v u is not reduced.
		succeeding(presentationOf(3, "acbCA", "bb"), removing(0, 2), presentationOf(2, "")),
		succeeding(presentationOf(3, "acbcA", "bb"), removing(0, 2), presentationOf(2, "BBBB")),
		// Letters greater than J are decreased, and negative ones increased.
		succeeding(presentationOf(4, "a", "bcdBCD", "ab"), removing(0, 1), presentationOf(3, "abcABC", "a")),
		succeeding(presentationOf(4, "dA", "abcdABCD"), removing(0, 1), presentationOf(3, "cabABC")),
		succeeding(presentationOf(4, "dA", "abcdABCD"), removing(0, 4), presentationOf(3, "abcBCA")),
		succeeding(presentationOf(24, "xA", "x", "X", "w"), removing(0, 24), presentationOf(23, "a", "A", "w")),
		succeeding(presentationOf(24, "xA", "x", "X", "w"), removing(0, 1), presentationOf(23, "w", "W", "v")),
		// The relator is the letter alone, or the only relator, or another relator becomes empty.
		succeeding(presentationOf(1, "a", "aa", "A"), removing(0, 1), presentationOf(0, "", "")),
		succeeding(presentationOf(1, "A"), removing(0, 1), impl.Presentation{}),
		succeeding(presentationOf(2, "aB", "bA", "Ab", "ab"), removing(0, 2), presentationOf(1, "", "", "aa")),
		succeeding(presentationOf(2, "aa", "b", "ab"), removing(1, 2), presentationOf(1, "aa", "a")),
		succeeding(presentationOf(2, "aa", "b", "ab"), removing(2, 2), presentationOf(1, "aa", "A")),
		succeeding(presentationOf(2, "aa", "b", "ab"), removing(2, 1), presentationOf(1, "AA", "a")),
		// J is not there, or twice.
		failing(presentationOf(2, "aa"), removing(0, 2), impl.ErrState),
		failing(presentationOf(2, "aa"), removing(0, 1), impl.ErrState),
		failing(presentationOf(2, "AA"), removing(0, 1), impl.ErrState),
		failing(presentationOf(2, "abA"), removing(0, 1), impl.ErrState),
		failing(presentationOf(2, "Aba"), removing(0, 1), impl.ErrState),
		failing(presentationOf(2, "aba"), removing(0, 1), impl.ErrState),
		failing(presentationOf(2, "AAbA"), removing(0, 1), impl.ErrState),
		failing(presentationOf(2, "", "a"), removing(0, 1), impl.ErrState),
		failing(presentationOf(2, "a"), removing(0, 0), impl.ErrNotFound),
		failing(presentationOf(2, "a"), removing(0, 3), impl.ErrNotFound),
		failing(presentationOf(2, "a"), removing(0, -1), impl.ErrNotFound),
		failing(presentationOf(2, "a"), removing(1, 1), impl.ErrNotFound),
		failing(presentationOf(2, "a"), removing(-1, 1), impl.ErrNotFound),
		failing(withRelators(2), removing(0, 1), impl.ErrNotFound),
		failing(presentationOf(0, ""), removing(0, 1), impl.ErrNotFound),
	})
}

func TestRemoveGeneratorLimits(t *testing.T) {
	a := func(n int) string { return strings.Repeat("a", n) }
	checkMoves(t, []moveRow{
		succeeding(presentationOf(2, "B"+a(60), "bb"), removing(0, 2), presentationOf(1, a(120))),
		failing(presentationOf(2, "B"+a(61), "bb"), removing(0, 2), impl.ErrLimit),
		failing(presentationOf(2, "B"+a(60), "bab"), removing(0, 2), impl.ErrLimit),
		failing(presentationOf(2, "B"+a(60), "a", "bab", "a"), removing(0, 2), impl.ErrLimit),
		failing(presentationOf(2, "aa", "bab", "B"+a(60)), removing(2, 2), impl.ErrLimit),
		succeeding(presentationOf(2, "B"+a(60), "bbA"), removing(0, 2), presentationOf(1, a(119))),
		succeeding(presentationOf(2, "b"+a(119), "B"), removing(0, 2), presentationOf(1, a(119))),
		// What is put together is longer than MaxWord, but not its reduced form.
		succeeding(presentationOf(2, "B"+a(119), "baB"), removing(0, 2), presentationOf(1, "a")),
		succeeding(presentationOf(2, "B"+a(119), "b"+strings.Repeat("A", 119)), removing(0, 2), presentationOf(1, "")),
		succeeding(presentationOf(2, "B"+a(119), strings.Repeat("baBa", 30)), removing(0, 2), presentationOf(1, a(60))),
		failing(withRelators(2, append([]int64{-2}, repeated(1, 119)...), repeated(2, 120)), removing(0, 2), impl.ErrLimit),
		// J is there twice, and the result would be too long.
		failing(presentationOf(2, "BB"+a(100), "bbb"), removing(0, 2), impl.ErrState),
	})
}

func TestAddGenerator(t *testing.T) {
	p := presentationOf(2, "bAA", "bb")
	full := presentationOf(24, "x")
	many := presentationOf(1, slices.Repeat([]string{"a"}, 48)...)
	checkMoves(t, []moveRow{
		succeeding(p, adding(1, 2), presentationOf(3, "bAA", "bb", "Cab")),
		succeeding(p, adding(-2), presentationOf(3, "bAA", "bb", "CB")),
		succeeding(p, adding(), presentationOf(3, "bAA", "bb", "C")),
		succeeding(impl.Presentation{}, adding(), presentationOf(1, "A")),
		succeeding(withRelators(23), adding(23, -1), presentationOf(24, "XwA")),
		succeeding(presentationOf(1, slices.Repeat([]string{"a"}, 47)...), adding(1), presentationOf(2, append(slices.Repeat([]string{"a"}, 47), "Ba")...)),
		succeeding(p, adding(repeated(-1, 119)...), withRelators(3, []int64{2, -1, -1}, []int64{2, 2}, append([]int64{-3}, repeated(-1, 119)...))),
		failing(p, adding(repeated(-1, 120)...), impl.ErrLimit),
		failing(full, adding(1), impl.ErrLimit),
		failing(full, adding(), impl.ErrLimit),
		failing(many, adding(1), impl.ErrLimit),
		failing(many, adding(), impl.ErrLimit),
		failing(p, adding(3), impl.ErrInvalid),
		failing(p, adding(-3), impl.ErrInvalid),
		failing(p, adding(1, 0), impl.ErrInvalid),
		failing(p, adding(0), impl.ErrInvalid),
		failing(p, adding(1, -1), impl.ErrInvalid),
		failing(p, adding(2, 1, -1, 2), impl.ErrInvalid),
		failing(p, adding(minInt), impl.ErrInvalid),
		failing(p, adding(minInt, minInt), impl.ErrInvalid),
		failing(p, adding(1, maxInt), impl.ErrInvalid),
		failing(p, adding(repeated(-1, 121)...), impl.ErrInvalid),
		failing(p, adding(repeated(1, 5000)...), impl.ErrInvalid),
		failing(impl.Presentation{}, adding(1), impl.ErrInvalid),
		// The limits are exceeded as well.
		failing(full, adding(25), impl.ErrInvalid),
		failing(full, adding(1, -1), impl.ErrInvalid),
		failing(many, adding(2), impl.ErrInvalid),
		failing(p, adding(append(repeated(-1, 119), 3)...), impl.ErrInvalid),
	})
}

// TestErrorsOfMovesInOrder has moves to which two conditions apply; those of one kind are tested
// with it.
func TestErrorsOfMovesInOrder(t *testing.T) {
	p := presentationOf(2, "bAA", "bb")
	bad := withRelators(2, []int64{3}, []int64{1, 1})
	for _, kind := range []int64{0, -1, 7, 8, 100, minInt, maxInt} {
		for _, m := range []impl.TietzeMove{{Kind: kind}, {Kind: kind, I: 5, J: 5}, {Kind: kind, I: minInt, J: minInt, Word: []int64{minInt}}, {Kind: kind, J: 1, Word: []int64{0}}} {
			checkMoves(t, []moveRow{failing(p, m, impl.ErrRange), failing(impl.Presentation{}, m, impl.ErrRange)})
			if got, code := impl.ApplyTietze(bad, m); code != impl.ErrInvalid || !isZeroPresentation(got) {
				t.Error(m, got, code)
			}
		}
	}
	for _, bad := range invalidPresentations() {
		for _, m := range []impl.TietzeMove{{}, inverting(0), inverting(maxInt), rotating(minInt), multiplying(0, 0), multiplying(0, 1), dropping(0), dropping(-1), removing(0, 1), removing(0, minInt), adding(), adding(0), adding(1)} {
			if got, code := impl.ApplyTietze(bad, m); code != impl.ErrInvalid || !isZeroPresentation(got) {
				t.Error(bad.Generators, len(bad.Relators), m, got, code)
			}
		}
	}
}

// TestUnusedFieldsOfMoves fills the fields that a move does not use.
func TestUnusedFieldsOfMoves(t *testing.T) {
	p := presentationOf(2, "bAA", "", "bb")
	values := []int64{minInt, -1, 0, 1, 2, 3, 77, maxInt}
	words := [][]int64{nil, {1}, {0}, {minInt}, {1, -1}, {25}, repeated(1, 121), repeated(0, 3000)}
	for _, m := range []impl.TietzeMove{inverting(0), rotating(0), multiplying(0, 2), dropping(1), removing(0, 2), adding(1, 2)} {
		want, code := impl.ApplyTietze(p, m)
		if code != impl.ErrNone {
			t.Fatal(m, code)
		}
		for _, x := range values {
			for _, w := range words {
				filled := m
				if m.Kind != impl.TietzeAdd {
					filled.Word = w
				} else {
					filled.I = x
				}
				if m.Kind != impl.TietzeMultiply && m.Kind != impl.TietzeRemove {
					filled.J = x
				}
				if got, code := impl.ApplyTietze(p, filled); code != impl.ErrNone || !samePresentation(got, want) {
					t.Fatal(filled, got, code)
				}
			}
		}
	}
}

// TestMovesWithAllFields compares with the model for fields near and far from the valid ones.
func TestMovesWithAllFields(t *testing.T) {
	values := []int64{minInt, minInt + 1, -2, -1, 0, 1, 2, 3, 4, 24, 25, 48, maxInt}
	words := [][]int64{nil, {1}, {2, -1}, {3}, {0}, {1, -1}, {minInt}}
	for _, p := range []impl.Presentation{{}, withRelators(2), presentationOf(0, ""), presentationOf(1, "a"), presentationOf(2, "bAA", "", "bb"), presentationOf(3, "abc", "aaC", "bA"), presentationOf(24, slices.Repeat([]string{"xa"}, 48)...)} {
		for kind := int64(-1); kind <= 8; kind++ {
			for _, i := range values {
				for _, j := range values {
					for _, w := range words {
						checkMove(t, p, impl.TietzeMove{Kind: kind, I: i, J: j, Word: w})
					}
				}
			}
		}
	}
}
