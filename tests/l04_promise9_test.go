package tests

import (
	"math"
	"slices"
	"strings"
	"testing"

	"loop.example/g01102/impl"
)

func TestPromise9LimitsAndKinds(t *testing.T) {
	got := list(impl.MaxTuples, impl.MaxFillings, impl.DirSame, impl.DirEqual, impl.DirMeet)
	if wanted(got) != wanted(list(2000, 5000, 1, 2, 3)) {
		t.Errorf("limits and kinds: %v", got)
	}
}

func TestPromise9ExampleOfChapter4(t *testing.T) {
	p, code := impl.ReadPartial(gapText)
	if code != impl.OK {
		t.Fatalf("ReadPartial: %d", code)
	}
	expect(t, "GapsOf", impl.GapsOf, []any{p}, []any{[]impl.Gap{{Letter: 0, State: 1}}, impl.OK})
	a, code := impl.FillGaps(p, list(0))
	if text := impl.AutomatonText(a); code != impl.OK || text != "automaton 2 2\nletter 1 0\nletter 0 0\n" {
		t.Errorf("FillGaps: %d %q", code, text)
	}
}

func TestPromise9ValidPartials(t *testing.T) {
	for _, p := range slices.Concat(validPartials(), smallPartials(), longWordPartials()) {
		expect(t, "ValidPartial", impl.ValidPartial, []any{p}, []any{true})
	}
	for _, a := range validAutomata() {
		expect(t, "ValidPartial", impl.ValidPartial, []any{impl.Partial(a)}, []any{true})
	}
	beyond := []impl.Partial{
		partial(10, repeated(10, 10), repeated(gap, 10), upTo(10)),
		partial(10, repeated(-2, 10), repeated(gap, 10), upTo(10)),
		partial(10, repeated(9, 10), repeated(gap, 10), upTo(10), upTo(10)),
		partial(10, repeated(9, 10), repeated(gap, 9), upTo(10)),
		partial(10, repeated(9, 10), repeated(0, 10), repeated(gap, 11)),
		partial(11, repeated(9, 11), repeated(0, 11), repeated(gap, 11)),
		partial(2, list(gap, math.MinInt64)),
		partial(2, list(math.MaxInt64, gap)),
	}
	for _, p := range append(beyond, invalidPartials()...) {
		expect(t, "ValidPartial", impl.ValidPartial, []any{p}, []any{false})
	}
}

func TestPromise9SamePartials(t *testing.T) {
	same := func(p, q impl.Partial, want bool) {
		t.Helper()
		expect(t, "SamePartial", impl.SamePartial, []any{p, q}, []any{want})
		expect(t, "SamePartial", impl.SamePartial, []any{q, p}, []any{want})
	}
	same(gapExample(), gapExample(), true)
	same(impl.Partial{States: 4}, impl.Partial{States: 4, Next: [][]int64{}}, true)
	same(partial(-7, nil, list(9)), partial(-7, list(), list(9)), true)
	same(partial(0), partial(0, nil), false)
	same(partial(0, nil), partial(0, nil, nil), false)
	same(partial(0, nil), partial(0, list(gap)), false)
	same(gapExample(), partial(3, gapExample().Next...), false)
	same(gapExample(), partial(2, list(1, gap)), false)
	same(gapExample(), partial(2, list(1, gap), list(0)), false)
	same(gapExample(), partial(2, list(1, 0), list(0, 0)), false)
	same(gapExample(), partial(2, list(0, 0), list(1, gap)), false)
	same(partial(1, list(gap)), partial(1, list(-2)), false)
}

func TestPromise9PartialTexts(t *testing.T) {
	wide := partial(10, list(9, 8, 7, 6, 5, 4, 3, 2, 1, 0), repeated(gap, 10), list(gap, 1, gap, 3, gap, 5, gap, 7, gap, 9))
	texts := map[string]impl.Partial{
		gapText:                                       gapExample(),
		"partial 1 1\nletter .\n":                     partial(1, list(gap)),
		"partial 1 1\nletter 0\n":                     partial(1, list(0)),
		"partial 2 1\nletter . .\n":                   partial(2, list(gap, gap)),
		"partial 3 1\nletter . 0 .\n":                 partial(3, list(gap, 0, gap)),
		"partial 1 3\nletter .\nletter 0\nletter .\n": partial(1, list(gap), list(0), list(gap)),
		"partial 10 3\nletter 9 8 7 6 5 4 3 2 1 0\nletter . . . . . . . . . .\nletter . 1 . 3 . 5 . 7 . 9\n": wide,
	}
	for text, p := range texts {
		expect(t, "PartialText", impl.PartialText, []any{p}, []any{text})
		expect(t, "ReadPartial", impl.ReadPartial, []any{text}, []any{p, impl.OK})
	}
	for _, p := range slices.Concat(validPartials(), smallPartials(), randomPartials(200, 1, 10, 20)) {
		named("PartialText").compare(t, p)
		expect(t, "ReadPartial", impl.ReadPartial, []any{impl.PartialText(p)}, []any{p, impl.OK})
	}
	for _, p := range invalidPartials() {
		expect(t, "PartialText", impl.PartialText, []any{p}, []any{""})
	}
}

func TestPromise9TextsOfNoPartial(t *testing.T) {
	texts := []string{
		"", "\n", ".", "partial", "partial \n", "partial 1\n", "partial 1 1\n", "partial 1 1\nletter\n", "partial 1 1\nletter \n",
		"partial 0 1\nletter\n", "partial 0 1\nletter \n", "partial 0 1\nletter .\n", "partial 1 0\n", "partial 1 0\nletter .\n", "partial . 1\nletter .\n", "partial 1 .\nletter .\n", "partial -1 1\nletter .\n",
		"partial 1 4\nletter .\nletter .\nletter .\nletter .\n",
		"partial 11 1\nletter . . . . . . . . . . .\n", "partial 11 1\nletter 0 1 2 3 4 5 6 7 8 9 10\n",
		"partial 10 1\nletter 0 1 2 3 4 5 6 7 8 10\n",
		"partial 1 1\nletter 1\n", "partial 1 1\nletter -1\n", "partial 2 1\nletter . 2\n", "partial 2 1\nletter 2 .\n", "partial 2 1\nletter -1 .\n", "partial 2 1\nletter . -1\n",
		"partial 2 1\nletter .\n", "partial 2 1\nletter . . .\n", "partial 2 1\nletter . . \n", "partial 2 1\nletter . .\nletter . .\n",
		"partial 2 2\nletter . .\n", "partial 2 2\nletter . .\n\n", "partial 2 2\nletter . .\nletter .\n",
		"partial 1 1\nletter ..\n", "partial 1 1\nletter .0\n", "partial 1 1\nletter 0.\n", "partial 1 1\nletter -.\n", "partial 1 1\nletter +.\n", "partial 1 1\nletter ,\n", "partial 1 1\nletter -\n", "partial 1 1\nletter x\n", "partial 2 1\nletter 0,1 .\n", "partial 2 1\nletter ..\n",
		"partial 1 1\nletter 00\n", "partial 1 1\nletter +0\n", "partial 1 1\nletter -0\n", "partial 2 1\nletter 01 .\n", "partial 2 1\nletter . 01\n", "partial 2 1\nletter +1 .\n",
		"partial 01 1\nletter .\n", "partial 1 01\nletter .\n", "partial +1 1\nletter .\n", "partial 1 +1\nletter .\n",
		"partial 18446744073709551617 1\nletter .\n", "partial 1 18446744073709551617\nletter .\n", "partial 1 1\nletter 18446744073709551616\n",
		"partial 1 1\nletter .", "partial 1 1\nletter .\n\n", "partial 1 1\nletter .\n ", "partial 1 1\nletter .\n.", "partial 1 1\nletter .\n\x00",
		" partial 1 1\nletter .\n", "\npartial 1 1\nletter .\n", "partial  1 1\nletter .\n", "partial 1  1\nletter .\n", "partial 1 1 \nletter .\n",
		"partial 1 1\nletter  .\n", "partial 1 1\n letter .\n", "partial 1 1\n\nletter .\n", "partial\t1 1\nletter .\n", "partial 1 1\nletter\t.\n", "partial 1 1\r\nletter .\r\n",
		"Partial 1 1\nletter .\n", "partial 1 1\nLetter .\n", "partial 1 1\nletters .\n", "partial 1 1 letter .\n", "partially 1 1\nletter .\n",
		"automaton 1 1\nletter 0\n", "choice 1 1\nletter 0\n", "choice 1 1\nletter .\n", "\ufeffpartial 1 1\nletter .\n", "partial 1 1\nletter \u00b7\n", gapText + gapText,
	}
	for _, text := range texts {
		expect(t, "ReadPartial", impl.ReadPartial, []any{text}, []any{impl.Partial{}, impl.ErrSyntax})
	}
	for _, text := range []string{gapText, "partial 2 1\nletter 0 1\n", choiceText} {
		expect(t, "ReadAutomaton", impl.ReadAutomaton, []any{text}, []any{impl.Automaton{}, impl.ErrSyntax})
	}
}

func TestPromise9ChangedTexts(t *testing.T) {
	t.Parallel()
	compareChangedTexts(t, "ReadPartial", gapText, "partial 1 1\nletter .\n", "partial 10 1\nletter . 9 . 0 1 2 . 3 4 .\n")
	compareChangedTexts(t, "ReadChoice", choiceText, "choice 1 1\nletter .\n", "choice 4 2\nletter . 0 0,1,2,3 1,3\nletter 0,2 . . 3\n")
}

func TestPromise9LongTexts(t *testing.T) {
	refuse := func(name string, fn any, zero any, begins ...string) {
		t.Helper()
		for _, begin := range begins {
			for _, b := range []string{" ", "0", ".", ",", "\n", "x", "\xff"} {
				long := begin + strings.Repeat(b, impl.MaxText-len(begin))
				expect(t, name, fn, []any{long}, []any{zero, impl.ErrSyntax})
				expect(t, name, fn, []any{long + b}, []any{zero, impl.ErrRange})
				expect(t, name, fn, []any{strings.Repeat(long, 3)}, []any{zero, impl.ErrRange})
			}
		}
	}
	refuse("ReadPartial", impl.ReadPartial, impl.Partial{}, "", gapText, "partial 1 1\nletter ", "partial ")
	refuse("ReadChoice", impl.ReadChoice, impl.Choice{}, "", choiceText, "choice 1 1\nletter ", "choice 2 1\nletter 0", "choice ")
}

func TestPromise9ValidChoices(t *testing.T) {
	for _, c := range slices.Concat(validChoices(), smallChoices(), randomChoices(50, 1, 10)) {
		expect(t, "ValidChoice", impl.ValidChoice, []any{c}, []any{true})
	}
	sets := slices.Repeat(lists(upTo(10)), 10)
	beyond := []impl.Choice{
		choice(10, sets, sets, sets, sets),
		choice(10, sets, sets[:9], sets),
		choice(10, sets, sets, append(slices.Clone(sets), nil)),
		choice(10, sets, append(slices.Clone(sets[:9]), upTo(11))),
		choice(10, sets, append(slices.Clone(sets[:9]), list(10))),
		choice(10, append(lists(list(-1)), sets[:9]...)),
		choice(10, append(lists(list(0, 1, 2, 3, 3, 4)), sets[:9]...)),
		choice(10, append(lists(list(9, 8)), sets[:9]...)),
		choice(11, make([][]int64, 11)),
	}
	for _, c := range append(beyond, invalidChoices()...) {
		expect(t, "ValidChoice", impl.ValidChoice, []any{c}, []any{false})
	}
}

func TestPromise9SameChoices(t *testing.T) {
	same := func(c, d impl.Choice, want bool) {
		t.Helper()
		expect(t, "SameChoice", impl.SameChoice, []any{c, d}, []any{want})
		expect(t, "SameChoice", impl.SameChoice, []any{d, c}, []any{want})
	}
	same(choiceExample(), choiceExample(), true)
	same(impl.Choice{States: 4}, impl.Choice{States: 4, Next: [][][]int64{}}, true)
	same(choice(-7, nil, lists(nil, list(9))), choice(-7, lists(), lists(list(), list(9))), true)
	same(choice(0), choice(0, nil), false)
	same(choice(0, nil), choice(0, nil, nil), false)
	same(choice(0, nil), choice(0, lists(nil)), false)
	same(choice(0, lists(nil)), choice(0, lists(nil, nil)), false)
	same(choice(0, lists(nil)), choice(0, lists(list(0))), false)
	same(choice(1, lists(list(1, 0))), choice(1, lists(list(0, 1))), false)
	same(choice(1, lists(list(0, 1))), choice(1, lists(list(0), list(1))), false)
	same(choiceExample(), choice(3, choiceExample().Next...), false)
	same(choiceExample(), choice(2, choiceExample().Next[0]), false)
	same(choiceExample(), choice(2, choiceExample().Next[1], choiceExample().Next[0]), false)
	same(choiceExample(), choice(2, lists(list(0, 1), list(0)), lists(list(0, 1), list(0, 1))), false)
}

func TestPromise9ChoiceTexts(t *testing.T) {
	all := slices.Repeat(lists(upTo(10)), 10)
	line := "letter" + strings.Repeat(" 0,1,2,3,4,5,6,7,8,9", 10) + "\n"
	texts := map[string]impl.Choice{
		choiceText:                                   choiceExample(),
		"choice 1 1\nletter .\n":                     choice(1, only(gap)),
		"choice 1 1\nletter 0\n":                     choice(1, only(0)),
		"choice 2 1\nletter . 0,1\n":                 choice(2, lists(nil, list(0, 1))),
		"choice 3 2\nletter 0,2 . 1\nletter . . .\n": choice(3, lists(list(0, 2), nil, list(1)), lists(nil, nil, nil)),
		"choice 10 3\n" + line + line + line:         choice(10, all, all, all),
	}
	for text, c := range texts {
		expect(t, "ChoiceText", impl.ChoiceText, []any{c}, []any{text})
		expect(t, "ReadChoice", impl.ReadChoice, []any{text}, []any{c, impl.OK})
	}
	for _, c := range slices.Concat(validChoices(), smallChoices(), randomChoices(200, 1, 10)) {
		named("ChoiceText").compare(t, c)
		expect(t, "ReadChoice", impl.ReadChoice, []any{impl.ChoiceText(c)}, []any{c, impl.OK})
	}
	for _, c := range invalidChoices() {
		expect(t, "ChoiceText", impl.ChoiceText, []any{c}, []any{""})
	}
}

func TestPromise9TextsOfNoChoice(t *testing.T) {
	texts := []string{
		"", "\n", ".", "choice", "choice \n", "choice 1\n", "choice 1 1\n", "choice 1 1\nletter\n", "choice 1 1\nletter \n",
		"choice 0 1\nletter\n", "choice 0 1\nletter .\n", "choice 1 0\n", "choice . 1\nletter .\n", "choice 1 .\nletter .\n", "choice 1,2 1\nletter .\n", "choice -1 1\nletter .\n",
		"choice 1 4\nletter .\nletter .\nletter .\nletter .\n", "choice 11 1\nletter . . . . . . . . . . .\n",
		"choice 10 1\nletter . . . . . . . . . 10\n", "choice 10 1\nletter . . . . . . . . . 9,10\n",
		"choice 1 1\nletter 1\n", "choice 1 1\nletter -1\n", "choice 2 1\nletter . 2\n", "choice 2 1\nletter 2 .\n", "choice 2 1\nletter . 0,2\n", "choice 2 1\nletter . 0,1,2\n",
		"choice 2 1\nletter 1,0 1\n", "choice 2 1\nletter 0,0 .\n", "choice 2 1\nletter . 1,1\n", "choice 3 1\nletter . . 0,2,1\n", "choice 3 1\nletter 2,0,1 . .\n", "choice 3 1\nletter 0,1,1 . .\n",
		"choice 2 1\nletter .\n", "choice 2 1\nletter . . .\n", "choice 2 1\nletter . . \n", "choice 2 1\nletter 0,1\n", "choice 2 1\nletter . .\nletter . .\n", "choice 2 2\nletter . .\n", "choice 2 2\nletter . .\nletter .\n",
		"choice 1 1\nletter ..\n", "choice 1 1\nletter .0\n", "choice 1 1\nletter 0.\n", "choice 1 1\nletter ,\n", "choice 1 1\nletter ,0\n", "choice 1 1\nletter 0,\n", "choice 1 1\nletter .,0\n", "choice 1 1\nletter 0,.\n", "choice 1 1\nletter .,.\n", "choice 1 1\nletter -\n",
		"choice 2 1\nletter 0,,1 .\n", "choice 2 1\nletter 0, 1 .\n", "choice 2 1\nletter 0 ,1 .\n", "choice 2 1\nletter 0;1 .\n", "choice 2 1\nletter 01 .\n", "choice 2 1\nletter 0,01 .\n", "choice 2 1\nletter 0,+1 .\n", "choice 2 1\nletter 0,-1 .\n", "choice 2 1\nletter -1,0 .\n", "choice 2 1\nletter 00,1 .\n", "choice 2 1\nletter {0,1} .\n",
		"choice 01 1\nletter .\n", "choice 1 01\nletter .\n", "choice +1 1\nletter .\n", "choice 1 +1\nletter .\n",
		"choice 18446744073709551617 1\nletter .\n", "choice 2 1\nletter 0,18446744073709551617 .\n",
		"choice 1 1\nletter .", "choice 1 1\nletter .\n\n", "choice 1 1\nletter .\n ", "choice 1 1\nletter 0\n,", "choice 1 1\nletter .\n\x00",
		" choice 1 1\nletter .\n", "choice  1 1\nletter .\n", "choice 1  1\nletter .\n", "choice 1 1 \nletter .\n", "choice 1 1\nletter  .\n", "choice 1 1\n letter .\n", "choice 1 1\n\nletter .\n", "choice 1 1\nletter\t.\n", "choice 1 1\r\nletter .\r\n",
		"Choice 1 1\nletter .\n", "choice 1 1\nletters .\n", "choices 1 1\nletter .\n", "automaton 1 1\nletter 0\n", "partial 1 1\nletter .\n", "\ufeffchoice 1 1\nletter .\n", choiceText + choiceText,
	}
	for _, text := range texts {
		expect(t, "ReadChoice", impl.ReadChoice, []any{text}, []any{impl.Choice{}, impl.ErrSyntax})
	}
}

func TestPromise9ChoicesOfPartials(t *testing.T) {
	of := func(p impl.Partial, want impl.Choice) {
		t.Helper()
		expect(t, "ChoiceOf", impl.ChoiceOf, []any{p}, []any{want, impl.OK})
	}
	of(gapExample(), choice(2, only(1, gap), only(0, 0)))
	of(partial(1, list(gap)), choice(1, lists(nil)))
	of(partial(3, list(gap, gap, gap), list(2, 0, 1)), choice(3, lists(nil, nil, nil), lists(list(2), list(0), list(1))))
	for _, p := range slices.Concat(validPartials(), smallPartials(), randomPartials(100, 3, 10, 12)) {
		c, code := impl.ChoiceOf(p)
		text := strings.Replace(impl.PartialText(p), "partial", "choice", 1)
		if code != impl.OK || impl.ChoiceText(c) != text {
			t.Errorf("ChoiceOf(%v): got %v %d", p, c, code)
		}
		named("ChoiceOf").compare(t, p)
		gaps, _ := impl.GapsOf(p)
		expect(t, "IsTotal", impl.IsTotal, []any{c}, []any{len(gaps) == 0, impl.OK})
	}
}

func TestPromise9Gaps(t *testing.T) {
	gaps := func(p impl.Partial, want ...impl.Gap) {
		t.Helper()
		expect(t, "GapsOf", impl.GapsOf, []any{p}, []any{want, impl.OK})
	}
	gaps(gapExample(), impl.Gap{Letter: 0, State: 1})
	gaps(partial(1, list(0)))
	gaps(partial(3, list(1, 2, 0), list(0, 0, 0)))
	gaps(partial(1, list(gap), list(0), list(gap)), impl.Gap{Letter: 0, State: 0}, impl.Gap{Letter: 2, State: 0})
	gaps(partial(3, list(gap, 0, gap), list(1, gap, 1)), impl.Gap{Letter: 0, State: 0}, impl.Gap{Letter: 0, State: 2}, impl.Gap{Letter: 1, State: 1})
	gaps(partial(2, list(gap, gap), list(gap, gap)), impl.Gap{}, impl.Gap{State: 1}, impl.Gap{Letter: 1}, impl.Gap{Letter: 1, State: 1})
	full, code := impl.GapsOf(partial(10, repeated(gap, 10), repeated(gap, 10), repeated(gap, 10)))
	if len(full) != 30 || code != impl.OK || full[29] != (impl.Gap{Letter: 2, State: 9}) {
		t.Errorf("GapsOf nothing but gaps: %v %d", full, code)
	}
	for _, p := range slices.Concat(smallPartials(), randomPartials(200, 3, 10, 20)) {
		named("GapsOf").compare(t, p)
	}
}

func TestPromise9Fillings(t *testing.T) {
	fill := func(p impl.Partial, states []int64, want impl.Automaton) {
		t.Helper()
		expect(t, "FillGaps", impl.FillGaps, []any{p, states}, []any{want, impl.OK})
	}
	fill(gapExample(), list(0), auto(2, list(1, 0), list(0, 0)))
	fill(gapExample(), list(1), auto(2, list(1, 1), list(0, 0)))
	fill(partial(1, list(0)), nil, auto(1, list(0)))
	fill(partial(1, list(gap), list(gap)), list(0, 0), auto(1, list(0), list(0)))
	fill(partial(3, list(gap, 0, gap), list(1, gap, 1)), list(2, 1, 0), auto(3, list(2, 0, 1), list(1, 0, 1)))
	fill(partial(3, list(gap, gap, gap), list(gap, gap, gap)), list(0, 1, 2, 2, 1, 0), auto(3, upTo(3), list(2, 1, 0)))
	for _, a := range validAutomata() {
		fill(impl.Partial(a), list(), a)
		expect(t, "FillGaps", impl.FillGaps, []any{impl.Partial(a), list(0)}, []any{impl.Automaton{}, impl.ErrRange})
	}
	two := partial(3, list(gap, 0, gap))
	for _, states := range lists(nil, list(0), list(0, 1, 2), list(0, 3), list(3, 0), list(-1, 0), list(0, gap), list(math.MinInt64, 0), list(0, math.MaxInt64), repeated(0, 6)) {
		expect(t, "FillGaps", impl.FillGaps, []any{two, states}, []any{impl.Automaton{}, impl.ErrRange})
	}
	thirty := partial(10, repeated(gap, 10), repeated(gap, 10), repeated(gap, 10))
	fill(thirty, slices.Concat(upTo(10), repeated(9, 10), upTo(10)), auto(10, upTo(10), repeated(9, 10), upTo(10)))
	expect(t, "FillGaps", impl.FillGaps, []any{thirty, repeated(0, 29)}, []any{impl.Automaton{}, impl.ErrRange})
	expect(t, "FillGaps", impl.FillGaps, []any{thirty, repeated(0, 31)}, []any{impl.Automaton{}, impl.ErrRange})
	expect(t, "FillGaps", impl.FillGaps, []any{thirty, append(repeated(0, 29), 10)}, []any{impl.Automaton{}, impl.ErrRange})
}

// TestPromise9FillingsFillJustTheGaps tells that a filling leads from gaps to the given states, in the order of GapsOf, and from everywhere else to where it has led before.
func TestPromise9FillingsFillJustTheGaps(t *testing.T) {
	t.Parallel()
	for _, p := range slices.Concat(smallPartials(), randomPartials(50, 4, 6, 3)) {
		gaps, _ := impl.GapsOf(p)
		seen := map[string]bool{}
		choices := allLists(len(gaps), 0, p.States-1)
		for _, states := range choices {
			named("FillGaps").compare(t, p, states)
			a, code := impl.FillGaps(p, states)
			if code != impl.OK || !impl.ValidAutomaton(a) {
				t.Fatalf("FillGaps(%v, %v): got %v %d", p, states, a, code)
			}
			seen[impl.AutomatonText(a)] = true
			back := impl.Partial(a)
			for i, g := range gaps {
				if back.Next[g.Letter][g.State] != states[i] {
					t.Errorf("FillGaps(%v, %v): %v leads to %d", p, states, g, back.Next[g.Letter][g.State])
				}
				back.Next[g.Letter][g.State] = gap
			}
			if !impl.SamePartial(back, p) {
				t.Errorf("FillGaps(%v, %v): not only the gaps are filled: %v", p, states, a)
			}
		}
		if len(seen) != len(choices) {
			t.Errorf("%v has %d fillings", p, len(seen))
		}
	}
}
