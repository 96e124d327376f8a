package tests

import (
	"math"
	"slices"
	"strings"
	"testing"

	"loop.example/g01102/impl"
)

func TestPromise12Limits(t *testing.T) {
	got := list(impl.MaxTowns, impl.MaxColourings)
	if wanted(got) != wanted(list(7, 50000)) {
		t.Errorf("limits: %v", got)
	}
}

func TestPromise12ExampleOfChapter5(t *testing.T) {
	r, code := impl.ReadRoads(roadsText)
	if code != impl.OK || !modelSameRoads(r, roadsExample()) {
		t.Fatalf("ReadRoads: %v %d", r, code)
	}
	expect(t, "CountColourings", impl.CountColourings, []any{r}, []any{2, impl.OK})
	expect(t, "ColouringAt", impl.ColouringAt, []any{r, 0}, []any{auto(3, list(1, 0, 0), list(1, 2, 0)), impl.OK})
	expect(t, "ColouringAt", impl.ColouringAt, []any{r, 1}, []any{auto(3, list(1, 2, 0), list(1, 0, 0)), impl.OK})
}

func TestPromise12ValidRoads(t *testing.T) {
	for _, r := range slices.Concat(validRoads(), smallRoads(), fullRoads(), overRoads(), randomRoads(50, 1, 7, 1<<20)) {
		expect(t, "ValidRoads", impl.ValidRoads, []any{r}, []any{true})
	}
	wide := repeated(6, 3)
	beyond := []impl.Roads{
		roads(wide, wide, wide, wide, wide, wide),
		roads(wide, wide, wide, wide, wide, wide, wide, wide),
		roads(wide, wide, wide, wide, wide, wide, repeated(6, 2)),
		roads(wide, wide, wide, wide, wide, wide, repeated(6, 4)),
		roads(repeated(6, 2), wide, wide, wide, wide, wide, wide),
		roads(wide, wide, wide, wide, wide, wide, nil),
		roads(wide, wide, wide, wide, wide, wide, list(5, 6, 7)),
		roads(wide, wide, wide, wide, wide, wide, list(-1, 6, 6)),
		roads(wide, wide, wide, wide, wide, wide, list(5, 6, 5)),
		roads(wide, wide, wide, list(6, 5, 5), wide, wide, wide),
	}
	for _, r := range append(beyond, invalidRoads()...) {
		expect(t, "ValidRoads", impl.ValidRoads, []any{r}, []any{false})
	}
}

// TestPromise12AllLists takes all short lists as roads, in order and not, with towns and other numbers, of equal lengths and others.
func TestPromise12AllLists(t *testing.T) {
	short := slices.Concat(allLists(0, 0, 0), allLists(1, -1, 2), allLists(2, -1, 2))
	for _, first := range short {
		for towns := range int64(4) {
			named("ValidRoads").compare(t, impl.Roads{Towns: towns, Out: lists(first)})
			for _, second := range short {
				named("ValidRoads").compare(t, impl.Roads{Towns: towns, Out: lists(first, second)})
			}
		}
	}
	for _, numbers := range slices.Concat(allLists(3, -1, 3), allLists(4, 0, 2)) {
		named("ValidRoads").compare(t, roads(numbers, list(0, 1, 2), list(0, 1, 2)))
	}
}

func TestPromise12SameRoads(t *testing.T) {
	same := func(r, q impl.Roads, want bool) {
		t.Helper()
		expect(t, "SameRoads", impl.SameRoads, []any{r, q}, []any{want})
		expect(t, "SameRoads", impl.SameRoads, []any{q, r}, []any{want})
	}
	same(roadsExample(), roadsExample(), true)
	same(impl.Roads{}, impl.Roads{Out: [][]int64{}}, true)
	same(impl.Roads{Towns: 4}, impl.Roads{Towns: 4, Out: [][]int64{}}, true)
	same(impl.Roads{Towns: -7, Out: lists(nil, list(9, 3))}, impl.Roads{Towns: -7, Out: lists(list(), list(9, 3))}, true)
	same(impl.Roads{}, roads(nil), false)
	same(roads(nil), roads(nil, nil), false)
	same(roads(nil), roads(list(0)), false)
	same(impl.Roads{Towns: 1, Out: lists(nil)}, impl.Roads{Towns: 1, Out: lists(nil, nil)}, false)
	same(roads(list(0)), impl.Roads{Towns: 2, Out: lists(list(0))}, false)
	same(roads(list(0)), impl.Roads{Out: lists(list(0))}, false)
	same(roads(list(0, 1)), roads(list(1, 0)), false)
	same(roads(list(0)), roads(list(0, 0)), false)
	same(roadsExample(), roads(list(1, 1), list(0, 2)), false)
	same(roadsExample(), roads(list(1, 1), list(0, 0), list(0, 2)), false)
	same(roadsExample(), roads(list(1, 1), list(0, 2), list(0, 1)), false)
	same(roadsExample(), roads(list(1, 1), list(0, 1), list(0, 0)), false)
	same(impl.Roads{Towns: math.MinInt64, Out: lists(list(math.MaxInt64))}, impl.Roads{Towns: math.MinInt64, Out: lists(list(math.MaxInt64))}, true)
}

func TestPromise12Texts(t *testing.T) {
	texts := map[string]impl.Roads{
		roadsText:                              roadsExample(),
		"town 0\n":                             roads(list(0)),
		"town 0 0\n":                           roads(list(0, 0)),
		"town 0 0 0\n":                         roads(list(0, 0, 0)),
		"town 1\ntown 0\n":                     roads(list(1), list(0)),
		"town 0 1 1\ntown 0 0 1\n":             roads(list(0, 1, 1), list(0, 0, 1)),
		"town 0 1 2\ntown 0 0 2\ntown 1 2 2\n": roads(list(0, 1, 2), list(0, 0, 2), list(1, 2, 2)),
		"town 6\ntown 5\ntown 4\ntown 3\ntown 2\ntown 1\ntown 0\n": roads(list(6), list(5), list(4), list(3), list(2), list(1), list(0)),
		strings.Repeat("town 0 3 6\n", 7):                          roads(list(0, 3, 6), list(0, 3, 6), list(0, 3, 6), list(0, 3, 6), list(0, 3, 6), list(0, 3, 6), list(0, 3, 6)),
	}
	for text, r := range texts {
		expect(t, "RoadsText", impl.RoadsText, []any{r}, []any{text})
		expect(t, "ReadRoads", impl.ReadRoads, []any{text}, []any{r, impl.OK})
	}
	for _, r := range slices.Concat(validRoads(), smallRoads(), fullRoads(), overRoads(), randomRoads(200, 1, 7, 1<<20)) {
		named("RoadsText").compare(t, r)
		expect(t, "ReadRoads", impl.ReadRoads, []any{impl.RoadsText(r)}, []any{r, impl.OK})
	}
	for _, r := range invalidRoads() {
		expect(t, "RoadsText", impl.RoadsText, []any{r}, []any{""})
	}
}

func TestPromise12TextsOfNoRoads(t *testing.T) {
	texts := []string{
		"", "\n", " ", "town", "town\n", "town \n", "town  \n", "town\ntown\n", "0\n", "town 0", "town0\n", "town 0\ntown", "town 0\ntown\n",
		// A byte too few or too many, a blank too many.
		"town 0\n\n", "\ntown 0\n", " town 0\n", "town  0\n", "town 0 \n", "town 0\n ", "town 0\n0", "town 0\n\x00", "town 0\r\n", "town\t0\n", "town 0\n town 0\n",
		"town 1\n\ntown 0\n", "town 1 town 0\n", "town 1\ntown  0\n", "town 1 \ntown 0\n", "town 1\ntown 0", "town 1\ntown 0\ntown", "town 1  1\ntown 0 0\n", "town 0,0\n", "town 0;\n", "town .\n", "town -\n",
		// Numbers with a sign or a leading zero, and numbers that are no towns.
		"town +0\n", "town -0\n", "town 00\n", "town 01\ntown 0\n", "town 1\ntown 00\n", "town +1\ntown 0\n", "town 1\ntown -1\n", "town -1\n", "town 1\n", "town 2\ntown 0\n", "town 0 1\n", "town 0 2\ntown 0 1\n", "town 0x0\n", "town a\n", "town 1.0\ntown 0\n",
		"town 18446744073709551616\n", "town 18446744073709551617\ntown 0\n", "town 9223372036854775808\n", "town 7\n",
		strings.Repeat("town 7\n", 7),
		// Roads that are not in order.
		"town 1 0\ntown 0 1\n", "town 0 1\ntown 1 0\n", "town 0 1 0\ntown 0 0 0\n", "town 1 1 0\ntown 0 0 0\n", "town 0 2 1\ntown 0 0 0\ntown 0 0 0\n",
		// Lists of different lengths, too many roads, too many towns.
		"town 0 1\ntown 0\n", "town 0\ntown 0 1\n", "town 0 0\ntown\n", "town\ntown 0\n", "town 0 0 0\ntown 0 0 0 0\n", "town 0 0 0 0\n",
		strings.Repeat("town 0\n", 8), strings.Repeat("town 0 0 0\n", 100),
		"Town 0\n", "TOWN 0\n", "towns 0\n", "tow 0\n", "city 0\n", "roads 1 1\ntown 0\n", "town 0\nletter 0\n", "automaton 1 1\nletter 0\n", "\ufefftown 0\n", "town \u0660\n", strings.Repeat(roadsText, 3), roadsText + "\n",
	}
	for _, text := range texts {
		expect(t, "ReadRoads", impl.ReadRoads, []any{text}, []any{impl.Roads{}, impl.ErrSyntax})
	}
}

func TestPromise12ChangedTexts(t *testing.T) {
	t.Parallel()
	compareChangedTexts(t, "ReadRoads", roadsText, "town 0\n", "town 1\ntown 0\n", "town 0 0 1\ntown 0 1 1\n", "town 6\ntown 5\ntown 4\ntown 3\ntown 2\ntown 1\ntown 0\n")
}

// TestPromise12SwappedLines gives texts whose lines are in another order, left out or given twice.
func TestPromise12SwappedLines(t *testing.T) {
	for _, r := range validRoads() {
		lines := slices.Collect(strings.Lines(modelRoadsText(r)))
		for i := range lines {
			named("ReadRoads").compare(t, strings.Join(slices.Delete(slices.Clone(lines), i, i+1), ""))
			named("ReadRoads").compare(t, strings.Join(slices.Insert(slices.Clone(lines), i, lines[i]), ""))
			named("ReadRoads").compare(t, strings.Join(slices.Concat(lines[i:], lines[:i]), ""))
		}
	}
}

func TestPromise12LongTexts(t *testing.T) {
	for _, begin := range []string{"", roadsText, "town ", "town 0 0", "town 0\ntown "} {
		for _, b := range []string{" ", "0", "1", "\n", "x", "\xff"} {
			long := begin + strings.Repeat(b, impl.MaxText-len(begin))
			expect(t, "ReadRoads", impl.ReadRoads, []any{long}, []any{impl.Roads{}, impl.ErrSyntax})
			expect(t, "ReadRoads", impl.ReadRoads, []any{long + b}, []any{impl.Roads{}, impl.ErrRange})
			expect(t, "ReadRoads", impl.ReadRoads, []any{strings.Repeat(long, 3)}, []any{impl.Roads{}, impl.ErrRange})
		}
	}
	many := strings.Repeat("town 0\n", impl.MaxText/7)
	expect(t, "ReadRoads", impl.ReadRoads, []any{many}, []any{impl.Roads{}, impl.ErrSyntax})
	expect(t, "ReadRoads", impl.ReadRoads, []any{many + "town 0\n"}, []any{impl.Roads{}, impl.ErrRange})
}

func TestPromise12RoadsOfAutomata(t *testing.T) {
	of := func(a impl.Automaton, want impl.Roads) {
		t.Helper()
		expect(t, "RoadsOf", impl.RoadsOf, []any{a}, []any{want, impl.OK})
	}
	of(auto(1, list(0)), roads(list(0)))
	of(auto(1, list(0), list(0), list(0)), roads(list(0, 0, 0)))
	of(auto(3, list(1, 0, 0), list(1, 2, 0)), roadsExample())
	of(auto(3, list(1, 2, 0), list(1, 0, 0)), roadsExample())
	of(auto(2, list(1, 0), list(0, 1), list(1, 0)), roads(list(0, 1, 1), list(0, 0, 1)))
	of(auto(3, list(2, 2, 2), list(1, 0, 2), list(0, 1, 1)), roads(list(0, 1, 2), list(0, 1, 2), list(1, 2, 2)))
	of(cycle(7), circuit(7, 1))
	of(auto(7, repeated(6, 7), upTo(7), repeated(0, 7)), roads(list(0, 0, 6), list(0, 1, 6), list(0, 2, 6), list(0, 3, 6), list(0, 4, 6), list(0, 5, 6), list(0, 6, 6)))
	for n := int64(8); n <= impl.MaxStates; n++ {
		expect(t, "RoadsOf", impl.RoadsOf, []any{cycle(n)}, []any{impl.Roads{}, impl.ErrLimit})
		expect(t, "RoadsOf", impl.RoadsOf, []any{auto(n, repeated(0, int(n)), repeated(7, int(n)))}, []any{impl.Roads{}, impl.ErrLimit})
	}
	// Whether it is valid is asked first.
	for _, bad := range []impl.Automaton{cycle(11), auto(8, upTo(7)), auto(8, repeated(8, 8)), auto(8), auto(10, upTo(10), upTo(10), upTo(10), upTo(10))} {
		expect(t, "RoadsOf", impl.RoadsOf, []any{bad}, []any{impl.Roads{}, impl.ErrInvalid})
	}
	for _, a := range slices.Concat(smallAutomata(), allAutomata(2, 3), validAutomata(), invalidAutomata(), randomAutomata(200, 4, 9)) {
		named("RoadsOf").compare(t, a)
	}
}

func TestPromise12Colourings(t *testing.T) {
	colouring := func(r impl.Roads, a impl.Automaton, want bool) {
		t.Helper()
		expect(t, "IsColouring", impl.IsColouring, []any{r, a}, []any{want, impl.OK})
		if !want {
			expect(t, "NumberOf", impl.NumberOf, []any{r, a}, []any{0, impl.ErrState})
		}
	}
	r := roadsExample()
	colouring(r, auto(3, list(1, 0, 0), list(1, 2, 0)), true)
	colouring(r, auto(3, list(1, 2, 0), list(1, 0, 0)), true)
	colouring(r, auto(3, list(1, 2, 0), list(1, 2, 0)), false)
	colouring(r, auto(3, list(1, 0, 0), list(1, 0, 0)), false)
	colouring(r, auto(3, list(0, 0, 0), list(1, 2, 0)), false)
	colouring(r, auto(3, list(1, 0, 1), list(1, 2, 0)), false)
	// Other numbers of letters or states.
	colouring(r, auto(3, list(1, 0, 0)), false)
	colouring(r, auto(3, list(1, 0, 0), list(1, 2, 0), list(1, 0, 0)), false)
	colouring(r, auto(2, list(1, 0), list(1, 0)), false)
	colouring(r, auto(4, list(1, 0, 0, 0), list(1, 2, 0, 0)), false)
	colouring(r, auto(10, repeated(0, 10), repeated(1, 10)), false)
	colouring(circuit(7, 1), cycle(8), false)
	colouring(circuit(7, 1), cycle(7), true)
	colouring(roads(list(0)), auto(1, list(0)), true)
	colouring(roads(list(0)), auto(1, list(0), list(0)), false)
	colouring(roads(list(0, 0, 0)), auto(1, list(0), list(0), list(0)), true)
	// Several roads to the same town: what counts is how many they are.
	several := roads(list(0, 0, 1), list(0, 1, 1))
	colouring(several, auto(2, list(0, 1), list(1, 0), list(0, 1)), true)
	colouring(several, auto(2, list(0, 1), list(1, 0), list(1, 1)), false)
	colouring(several, auto(2, list(0, 0), list(1, 1), list(0, 0)), false)
	colouring(several, auto(2, list(0, 1), list(1, 0), list(0, 0)), false)
	colouring(roads(list(1, 1), list(0, 0)), auto(2, list(1, 0), list(1, 0)), true)
	colouring(roads(list(1, 1), list(0, 0)), auto(2, list(1, 0), list(0, 1)), false)
}

// TestPromise12EachAutomatonIsAColouring tells that each automaton is a colouring of its roads, with a number, and of no others.
func TestPromise12EachAutomatonIsAColouring(t *testing.T) {
	t.Parallel()
	for _, size := range []struct {
		states  int64
		letters int
	}{{1, 1}, {1, 2}, {1, 3}, {2, 1}, {2, 2}, {2, 3}, {3, 1}, {3, 2}} {
		all := allRoads(size.states, size.letters)
		sum := int64(0)
		for _, r := range all {
			named("CountColourings").compare(t, r)
			count, _ := impl.CountColourings(r)
			sum += count
		}
		automata := allAutomata(size.states, size.letters)
		if sum != int64(len(automata)) {
			t.Errorf("the roads of %v have %d colourings, but there are %d automata", size, sum, len(automata))
		}
		for i, a := range automata {
			of, code := impl.RoadsOf(a)
			if code != impl.OK {
				t.Fatalf("RoadsOf(%v): %d", a, code)
			}
			named("NumberOf").compare(t, of, a)
			if i%7 > 0 {
				continue
			}
			for _, r := range all {
				expect(t, "IsColouring", impl.IsColouring, []any{r, a}, []any{modelSameRoads(r, of), impl.OK})
			}
		}
	}
}

func TestPromise12Counts(t *testing.T) {
	count := func(text string, want int) {
		t.Helper()
		expect(t, "CountColourings", impl.CountColourings, []any{readRoads(text)}, []any{want, impl.OK})
	}
	count("town 0\n", 1)
	count("town 0 0\n", 1)
	count("town 0 0 0\n", 1)
	count("town 0 1\ntown 0 0\n", 2)
	count("town 0 1\ntown 0 1\n", 4)
	count("town 0 0 1\ntown 0 0 0\n", 3)
	count("town 0 1 1\ntown 0 0 1\n", 9)
	count("town 0 1 2\ntown 0 0 0\ntown 1 1 1\n", 6)
	count("town 0 1 2\ntown 0 0 1\ntown 1 1 1\n", 18)
	count(strings.Repeat("town 0 6\n", 7), 128)
	count(strings.Repeat("town 3\n", 7), 1)
	count(strings.Repeat("town 2 2 2\n", 7), 1)
	count(strings.Repeat("town 0 0 6\n", 7), 2187)
	// The number may be greater than MaxColourings: here all colourings need not be looked at.
	count(strings.Repeat("town 0 1 2\n", 7), 279936)
	for _, r := range slices.Concat(validRoads(), invalidRoads(), smallRoads(), fullRoads(), overRoads(), randomRoads(200, 3, 7, 1<<20)) {
		named("CountColourings").compare(t, r)
	}
}

// TestPromise12Arrangements tells the first letters of one town's arrangements, as the other towns have only one.
func TestPromise12Arrangements(t *testing.T) {
	arranged := func(out []int64, want ...[]int64) {
		t.Helper()
		r := roads(out, repeated(0, len(out)), repeated(0, len(out)))
		expect(t, "CountColourings", impl.CountColourings, []any{r}, []any{len(want), impl.OK})
		for number, numbers := range want {
			a, code := impl.ColouringAt(r, int64(number))
			if code != impl.OK || !slices.Equal(modelLeadsFrom(a, 0), numbers) {
				t.Errorf("ColouringAt(%v, %d): got %v %d", r, number, a, code)
			}
			expect(t, "NumberOf", impl.NumberOf, []any{r, a}, []any{number, impl.OK})
		}
	}
	arranged(list(2), list(2))
	arranged(list(1, 1), list(1, 1))
	arranged(list(0, 2), list(0, 2), list(2, 0))
	arranged(list(2, 2, 2), list(2, 2, 2))
	arranged(list(0, 0, 1), list(0, 0, 1), list(0, 1, 0), list(1, 0, 0))
	arranged(list(0, 1, 1), list(0, 1, 1), list(1, 0, 1), list(1, 1, 0))
	arranged(list(0, 1, 2), list(0, 1, 2), list(0, 2, 1), list(1, 0, 2), list(1, 2, 0), list(2, 0, 1), list(2, 1, 0))
}

// TestPromise12LastDigit tells that the arrangement of the last town changes first, and that of the first town last.
func TestPromise12LastDigit(t *testing.T) {
	r := roads(list(0, 1), list(0, 0), list(1, 2))
	at := func(number int64, want impl.Automaton) {
		t.Helper()
		expect(t, "ColouringAt", impl.ColouringAt, []any{r, number}, []any{want, impl.OK})
		expect(t, "NumberOf", impl.NumberOf, []any{r, want}, []any{number, impl.OK})
	}
	at(0, auto(3, list(0, 0, 1), list(1, 0, 2)))
	at(1, auto(3, list(0, 0, 2), list(1, 0, 1)))
	at(2, auto(3, list(1, 0, 1), list(0, 0, 2)))
	at(3, auto(3, list(1, 0, 2), list(0, 0, 1)))
	// Digits with three, six and two values.
	r = roads(list(0, 0, 1), list(0, 1, 2), list(2, 2, 2), list(0, 1, 1))
	at(0, auto(4, list(0, 0, 2, 0), list(0, 1, 2, 1), list(1, 2, 2, 1)))
	at(2, auto(4, list(0, 0, 2, 1), list(0, 1, 2, 1), list(1, 2, 2, 0)))
	at(3, auto(4, list(0, 0, 2, 0), list(0, 2, 2, 1), list(1, 1, 2, 1)))
	at(17, auto(4, list(0, 2, 2, 1), list(0, 1, 2, 1), list(1, 0, 2, 0)))
	at(18, auto(4, list(0, 0, 2, 0), list(1, 1, 2, 1), list(0, 2, 2, 1)))
	at(53, auto(4, list(1, 2, 2, 1), list(0, 1, 2, 1), list(0, 0, 2, 0)))
	expect(t, "CountColourings", impl.CountColourings, []any{r}, []any{54, impl.OK})
}

// digitsOf returns where an automaton leads, town by town.
func digitsOf(a impl.Automaton) [][]int64 {
	var out [][]int64
	for s := range a.States {
		out = append(out, modelLeadsFrom(a, s))
	}
	return out
}

// TestPromise12Numbers tells that the numbers go through all colourings, in the order of the lists of their towns, and that ColouringAt and NumberOf undo each other for every number.
func TestPromise12Numbers(t *testing.T) {
	t.Parallel()
	for _, r := range slices.Concat(validRoads(), smallRoads(), randomRoads(60, 3, 7, 2200)) {
		count, _ := impl.CountColourings(r)
		var before [][]int64
		modelColourings(r, func(number int64, rows [][]int64) bool {
			a, code := impl.ColouringAt(r, number)
			if code != impl.OK || !modelSame(a, modelPainted(rows)) {
				t.Fatalf("ColouringAt(%v, %d): got %v %d", r, number, a, code)
			}
			if yes, code := impl.IsColouring(r, a); !yes || code != impl.OK {
				t.Errorf("IsColouring(%v, %v): got %v %d", r, a, yes, code)
			}
			if back, code := impl.NumberOf(r, a); back != number || code != impl.OK {
				t.Errorf("NumberOf(%v, %v): got %d %d", r, a, back, code)
			}
			if digits := digitsOf(a); number > 0 && slices.CompareFunc(before, digits, slices.Compare) >= 0 {
				t.Errorf("%v: the colouring %d is not behind the one before it", r, number)
			}
			before = digitsOf(a)
			count--
			return true
		})
		if count != 0 {
			t.Errorf("%v: %d colourings too many", r, count)
		}
	}
}

// TestPromise12NumbersOfManyColourings takes some numbers of roads with as many colourings as possible.
func TestPromise12NumbersOfManyColourings(t *testing.T) {
	for _, r := range append(overRoads(), fullRoads()...) {
		count, _ := impl.CountColourings(r)
		expect(t, "ColouringAt", impl.ColouringAt, []any{r, count - 1}, []any{modelPainted(reversed(r.Out)), impl.OK})
		for number := int64(0); number < count; number += 997 {
			a, code := impl.ColouringAt(r, number)
			back, _ := impl.NumberOf(r, a)
			if code != impl.OK || back != number {
				t.Errorf("%v: the colouring %d is %v %d, which has the number %d", r, number, a, code, back)
			}
		}
	}
	for _, number := range list(0, 5, 6, 46655, 46656, 123456, 279934, 279935) {
		named("ColouringAt").compare(t, overRoads()[2], number)
	}
}

// reversed returns lists with their elements from the last one to the first one.
func reversed(all [][]int64) [][]int64 {
	var out [][]int64
	for _, numbers := range all {
		numbers = slices.Clone(numbers)
		slices.Reverse(numbers)
		out = append(out, numbers)
	}
	return out
}

func TestPromise12NumbersOfNoColouring(t *testing.T) {
	for _, r := range slices.Concat(validRoads(), fullRoads(), overRoads()) {
		count, _ := modelCountColourings(r)
		for _, number := range list(-1, count, count+1, -count, math.MinInt64, math.MaxInt64) {
			expect(t, "ColouringAt", impl.ColouringAt, []any{r, number}, []any{impl.Automaton{}, impl.ErrRange})
		}
	}
	for _, bad := range invalidRoads() {
		for _, number := range list(-1, 0, 1, math.MaxInt64) {
			expect(t, "ColouringAt", impl.ColouringAt, []any{bad, number}, []any{impl.Automaton{}, impl.ErrInvalid})
		}
	}
}

// TestPromise12EqualWeights tells that all colourings of joined roads have the same weights, and that the colourings of others have none.
func TestPromise12EqualWeights(t *testing.T) {
	t.Parallel()
	uneven := 0
	for _, r := range slices.Concat(validRoads(), smallRoads(), randomRoads(60, 3, 7, 700)) {
		joined, _ := impl.IsJoined(r)
		var first []int64
		for number, a := range coloured(r) {
			weights, code := impl.WeightsOf(a)
			if joined != (code == impl.OK) {
				t.Fatalf("WeightsOf(%v): %d", a, code)
			}
			if number == 0 {
				first = weights
			}
			if !slices.Equal(weights, first) {
				t.Errorf("%v: the colouring %d has the weights %v, the first one %v", r, number, weights, first)
			}
		}
		if joined && slices.Min(first) < slices.Max(first) {
			uneven++
		}
	}
	if uneven < 50 {
		t.Errorf("only %d roads whose towns have different weights", uneven)
	}
}
