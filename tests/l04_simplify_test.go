package tests

import (
	"slices"
	"strings"
	"testing"

	"loop.example/g00870/impl"
)

func sameMove(a impl.TietzeMove, b impl.TietzeMove) bool {
	return a.Kind == b.Kind && a.I == b.I && a.J == b.J && slices.Equal(a.Word, b.Word)
}

// firstStep returns the step of a simplification that applies to p, or false if none does.
func firstStep(p impl.Presentation) (impl.TietzeMove, bool) {
	for i, w := range p.Relators {
		if len(w) == 0 {
			return dropping(int64(i)), true
		}
	}
	for i := range int64(len(p.Relators)) {
		for j := int64(1); j <= p.Generators; j++ {
			if _, code := impl.ApplyTietze(p, removing(i, j)); code == impl.ErrNone {
				return removing(i, j), true
			}
		}
	}
	return impl.TietzeMove{}, false
}

// checkSimplification replays the moves one by one: each one is the first step that applies, and
// after the last one none applies any more, unless MaxTietze moves were made.
func checkSimplification(t *testing.T, p impl.Presentation) (impl.Presentation, []impl.TietzeMove) {
	t.Helper()
	simple, moves, code := impl.SimplifyPresentation(p)
	if code != impl.ErrNone || !impl.IsPresentation(simple) || len(moves) > impl.MaxTietze {
		t.Fatal(p, simple, moves, code)
	}
	q := p
	for _, m := range moves {
		if want, found := firstStep(q); !found || !sameMove(m, want) {
			t.Fatal(p, moves, m, want)
		}
		if q, code = impl.ApplyTietze(q, m); code != impl.ErrNone {
			t.Fatal(p, moves, m, code)
		}
	}
	if !samePresentation(q, simple) {
		t.Fatal(p, moves, q, simple)
	}
	if m, found := firstStep(q); found && len(moves) < impl.MaxTietze {
		t.Fatal(p, moves, "and then", m)
	}
	return simple, moves
}

func TestSimplifyByHand(t *testing.T) {
	a := func(n int) string { return strings.Repeat("a", n) }
	rows := []struct {
		p, want impl.Presentation
		moves   []impl.TietzeMove
	}{
		{presentationOf(2, "bAA", "bb"), presentationOf(1, "aaaa"), []impl.TietzeMove{removing(0, 2)}},
		{presentationOf(1, "", "a"), impl.Presentation{}, []impl.TietzeMove{dropping(0), removing(0, 1)}},
		{impl.Presentation{}, impl.Presentation{}, nil},
		{withRelators(24), withRelators(24), nil},
		{presentationOf(1, "aa"), presentationOf(1, "aa"), nil},
		{presentationOf(2, "abAB"), presentationOf(2, "abAB"), nil},
		{presentationOf(2, "abA"), withRelators(1), []impl.TietzeMove{removing(0, 2)}},
		// Relators without letters are dropped before generators are removed, the first one first.
		{presentationOf(2, "aa", "", "b", ""), presentationOf(1, "aa"), []impl.TietzeMove{dropping(1), dropping(2), removing(1, 2)}},
		{presentationOf(1, "a", "a", "aa"), impl.Presentation{}, []impl.TietzeMove{removing(0, 1), dropping(0), dropping(0)}},
		// The first relator is used before the smallest generator, and then this.
		{presentationOf(3, "bcbc", "cb", "a"), withRelators(1), []impl.TietzeMove{removing(1, 2), dropping(0), removing(0, 1)}},
		{presentationOf(3, "bc", "a"), withRelators(1), []impl.TietzeMove{removing(0, 2), removing(0, 1)}},
		{presentationOf(2, "ba"), withRelators(1), []impl.TietzeMove{removing(0, 1)}},
		{presentationOf(3, "cba"), withRelators(2), []impl.TietzeMove{removing(0, 1)}},
		// A removal that would exceed MaxWord is passed over: for a later generator, for a later
		// relator, and altogether.
		{presentationOf(2, "B"+a(60), "bb"), presentationOf(1, a(120)), []impl.TietzeMove{removing(0, 2)}},
		{presentationOf(2, "B"+a(61), "bb"), presentationOf(2, "B"+a(61), "bb"), nil},
		{presentationOf(3, "aC"+strings.Repeat("b", 60), "aaa", "bb"), presentationOf(2, "aaa", "bb"), []impl.TietzeMove{removing(0, 3)}},
		{presentationOf(3, "B"+a(61), "bb", "ac"), presentationOf(2, "A"+strings.Repeat("B", 61), "aa"), []impl.TietzeMove{removing(2, 1)}},
	}
	for _, row := range rows {
		simple, moves := checkSimplification(t, row.p)
		if !slices.EqualFunc(moves, row.moves, sameMove) {
			t.Error(row.p, moves, row.moves)
		}
		if row.moves == nil && !samePresentation(simple, row.p) {
			t.Error(row.p, simple)
		}
		if !samePresentation(simple, row.want) {
			t.Error(row.p, simple, row.want)
		}
	}
}

func TestSimplifyInvalid(t *testing.T) {
	for _, p := range invalidPresentations() {
		if simple, moves, code := impl.SimplifyPresentation(p); code != impl.ErrInvalid || len(moves) != 0 || !isZeroPresentation(simple) {
			t.Error(p.Generators, len(p.Relators), simple, moves, code)
		}
	}
}

func TestSimplifyOrdinary(t *testing.T) {
	seed, lengths := numbers(81), map[int]int{}
	list := validPresentations()
	for range 1500 {
		list = append(list, seed.presentation(seed.next(0, 3), seed.next(0, 4), 7), seed.presentation(seed.next(0, 6), seed.next(0, 8), 9))
	}
	for range 60 {
		list = append(list, seed.presentation(seed.next(18, 24), seed.next(20, 48), []int64{4, 12, 40}[seed.next(0, 2)]))
	}
	for _, p := range list {
		simple, moves := checkSimplification(t, p)
		checkActions(t, p, simple)
		checkRepresentations(t, p, simple, 6)
		checkAbelianizations(t, p, simple)
		lengths[min(len(moves), 5)]++
	}
	for n := range 6 {
		if lengths[n] < 50 {
			t.Fatal("the cases are one-sided:", lengths)
		}
	}
}

// TestSimplifyToTheEnd has the longest simplifications: each step takes a relator away, so that
// there are never more steps than MaxRelators.
func TestSimplifyToTheEnd(t *testing.T) {
	var chain, twice []string
	for g := range int64(24) {
		chain = append(chain, textOf([]int64{g + 1, -(g+1)%24 - 1}))
		twice = append(twice, textOf([]int64{g + 1}), textOf([]int64{g + 1}))
	}
	rows := []struct {
		p     impl.Presentation
		moves int
		group impl.AbelianGroup
	}{
		{presentationOf(24, twice...), 48, groupOf(0)},
		{presentationOf(0, make([]string, 48)...), 48, groupOf(0)},
		{presentationOf(24, append(chain, make([]string, 24)...)...), 48, groupOf(1)},
		{presentationOf(24, chain[:23]...), 23, groupOf(1)},
		{presentationOf(24, append([]string{strings.Repeat("x", 120)}, chain...)...), 24, groupOf(0, 120)},
	}
	for _, row := range rows {
		simple, moves := checkSimplification(t, row.p)
		if len(moves) != row.moves {
			t.Error(row.p, simple, moves)
		}
		if g, code := impl.AbelianizationOf(simple); code != impl.ErrNone || !sameGroup(g, row.group) {
			t.Error(row.p, simple, g, code)
		}
	}
}
