package tests

import (
	"math"
	"slices"
	"testing"

	"loop.example/g01102/impl"
)

func TestPromise13ExampleOfChapter5(t *testing.T) {
	r, code := impl.ReadRoads(roadsText)
	if code != impl.OK {
		t.Fatalf("ReadRoads: %d", code)
	}
	expect(t, "RoadPeriod", impl.RoadPeriod, []any{r}, []any{1, impl.OK})
	expect(t, "FirstResetColouring", impl.FirstResetColouring, []any{r}, []any{0, impl.OK})
}

func TestPromise13Joined(t *testing.T) {
	joined := func(text string, want bool) {
		t.Helper()
		r := readRoads(text)
		expect(t, "IsJoined", impl.IsJoined, []any{r}, []any{want, impl.OK})
		if !want {
			expect(t, "RoadPeriod", impl.RoadPeriod, []any{r}, []any{0, impl.ErrState})
		}
	}
	joined("town 0\n", true)
	joined("town 0 0 0\n", true)
	joined("town 1\ntown 0\n", true)
	joined("town 0\ntown 1\n", false)
	joined("town 1\ntown 1\n", false)
	joined("town 0\ntown 0\n", false)
	joined("town 0 1\ntown 1 1\n", false)
	joined("town 0 0\ntown 0 1\n", false)
	joined("town 0 1\ntown 0 1\n", true)
	joined(roadsText, true)
	joined("town 1 1\ntown 0 0\ntown 0 2\n", false)
	joined("town 1 1\ntown 0 2\ntown 2 2\n", false)
	joined("town 1 1\ntown 0 0\ntown 3 3\ntown 2 2\n", false)
	joined("town 1\ntown 2\ntown 3\ntown 4\ntown 5\ntown 6\ntown 0\n", true)
	joined("town 1\ntown 2\ntown 3\ntown 4\ntown 5\ntown 6\ntown 1\n", false)
	// Only the last road of all leads back.
	joined("town 0 0 1\ntown 0 1 2\ntown 1 2 3\ntown 2 3 4\ntown 3 4 5\ntown 4 5 6\ntown 6 6 6\n", false)
	joined("town 0 0 1\ntown 1 1 2\ntown 2 2 3\ntown 3 3 4\ntown 4 4 5\ntown 5 5 6\ntown 0 6 6\n", true)
	for _, r := range slices.Concat(validRoads(), invalidRoads(), smallRoads(), fullRoads(), overRoads(), randomRoads(200, 3, 7, 1<<20)) {
		named("IsJoined").compare(t, r)
		named("RoadPeriod").compare(t, r)
	}
}

func TestPromise13Periods(t *testing.T) {
	for n := int64(1); n <= impl.MaxTowns; n++ {
		for count := range impl.MaxLetters {
			expect(t, "RoadPeriod", impl.RoadPeriod, []any{circuit(n, count+1)}, []any{n, impl.OK})
		}
	}
	period := func(text string, want int) {
		t.Helper()
		expect(t, "RoadPeriod", impl.RoadPeriod, []any{readRoads(text)}, []any{want, impl.OK})
	}
	period(roadsText, 1)
	period("town 0 1\ntown 0 0\n", 1)
	period("town 1 2\ntown 0 0\ntown 0 0\n", 2)
	// Round trips of three and of two roads, of three and of six, of four and of six.
	period("town 1 1\ntown 0 2\ntown 0 0\n", 1)
	period("town 1 1\ntown 2 2\ntown 0 3\ntown 4 4\ntown 5 5\ntown 0 0\n", 3)
	period("town 1 1\ntown 2 2\ntown 3 3\ntown 0 4\ntown 5 5\ntown 0 0\n", 2)
	// A road back to its own town is a round trip.
	period("town 1 1\ntown 2 2\ntown 3 3\ntown 4 4\ntown 5 5\ntown 6 6\ntown 0 6\n", 1)
	// The periods of round trips at other towns than the town 0 count too.
	period("town 1 1\ntown 2 2\ntown 1 3\ntown 4 4\ntown 5 5\ntown 0 0\n", 2)
	period("town 1 1\ntown 2 2\ntown 3 3\ntown 1 4\ntown 5 5\ntown 0 0\n", 3)
}

// lookAtAll tells by a plain look at all colourings, with the functions of chapters 2 and 3, what the functions that look at colourings should return.
func lookAtAll(t *testing.T, r impl.Roads) {
	t.Helper()
	resets, first, quickest := 0, -1, -1
	leastRank, leastAt := int64(math.MaxInt64), -1
	var quick []int64
	for number, a := range coloured(r) {
		if rank, _ := impl.RankOf(a); rank < leastRank {
			leastRank, leastAt = rank, number
		}
		if yes, _ := impl.CanReset(a); !yes {
			continue
		}
		resets++
		if first < 0 {
			first = number
		}
		if w, _ := impl.ShortestReset(a); quickest < 0 || len(w) < len(quick) {
			quickest, quick = number, w
		}
	}
	code := impl.OK
	if resets == 0 {
		first, quickest, code = 0, 0, impl.ErrNotFound
	}
	expect(t, "HasResetColouring", impl.HasResetColouring, []any{r}, []any{resets > 0, impl.OK})
	expect(t, "FirstResetColouring", impl.FirstResetColouring, []any{r}, []any{first, code})
	expect(t, "CountResetColourings", impl.CountResetColourings, []any{r}, []any{resets, impl.OK})
	expect(t, "LeastRankColouring", impl.LeastRankColouring, []any{r}, []any{leastRank, leastAt, impl.OK})
	expect(t, "QuickestColouring", impl.QuickestColouring, []any{r}, []any{quickest, quick, code})
}

func TestPromise13LookAtAllColourings(t *testing.T) {
	t.Parallel()
	for _, r := range slices.Concat(validRoads(), smallRoads(), randomRoads(100, 3, 7, 700)) {
		lookAtAll(t, r)
	}
}

// TestPromise13LookAtManyColourings takes roads with as many colourings as may be looked at.
func TestPromise13LookAtManyColourings(t *testing.T) {
	for _, r := range append(fullRoads(), randomRoads(4, 7, 7, impl.MaxColourings)...) {
		t.Run("", func(t *testing.T) {
			t.Parallel()
			lookAtAll(t, r)
		})
	}
}

// TestPromise13ModelsOfColourings asks the models, which do not need the program.
func TestPromise13ModelsOfColourings(t *testing.T) {
	all := slices.Concat(validRoads(), smallRoads(), randomRoads(100, 4, 7, 130))
	for _, name := range []string{"HasResetColouring", "FirstResetColouring", "CountResetColourings", "LeastRankColouring", "QuickestColouring"} {
		t.Run(name, func(t *testing.T) {
			t.Parallel()
			for _, r := range all {
				named(name).compare(t, r)
			}
		})
	}
}

// onlyFew returns one of so many roads.
func onlyFew(all []impl.Roads, of int) []impl.Roads {
	var out []impl.Roads
	for i, r := range all {
		if i%of == 0 {
			out = append(out, r)
		}
	}
	return out
}

func TestPromise13FirstResetColourings(t *testing.T) {
	first := func(text string, number, count int) {
		t.Helper()
		r := readRoads(text)
		expect(t, "HasResetColouring", impl.HasResetColouring, []any{r}, []any{true, impl.OK})
		expect(t, "FirstResetColouring", impl.FirstResetColouring, []any{r}, []any{number, impl.OK})
		expect(t, "CountResetColourings", impl.CountResetColourings, []any{r}, []any{count, impl.OK})
	}
	first("town 0\n", 0, 1)
	first("town 0 0 0\n", 0, 1)
	first("town 0\ntown 0\n", 0, 1)
	first("town 0 1\ntown 0 0\n", 0, 2)
	// The letters of both towns have to be the same ones: so it is in the first and in the last colouring.
	first("town 0 1\ntown 0 1\n", 0, 2)
	first("town 0 0 1\ntown 0 1 1\n", 0, 6)
	// By the letters 0, 1, 0 and 1, 2, 1, the states 0 and 1 lead to 0 and 1, or to 1 and 2, and so do 1 and 2.
	first("town 0 1\ntown 1 2\ntown 0 1\n", 1, 6)
	first("town 0 1\ntown 1 2\ntown 0 1\ntown 0 1\n", 2, 12)
	first("town 0 1\ntown 2 2\ntown 2 3\ntown 0 0\n", 1, 2)
	none := func(text string) {
		t.Helper()
		r := readRoads(text)
		expect(t, "HasResetColouring", impl.HasResetColouring, []any{r}, []any{false, impl.OK})
		expect(t, "FirstResetColouring", impl.FirstResetColouring, []any{r}, []any{0, impl.ErrNotFound})
		expect(t, "CountResetColourings", impl.CountResetColourings, []any{r}, []any{0, impl.OK})
		expect(t, "QuickestColouring", impl.QuickestColouring, []any{r}, []any{0, nil, impl.ErrNotFound})
	}
	none("town 1\ntown 0\n")
	none("town 0\ntown 1\n")
	none("town 1 1\ntown 0 0\n")
	none("town 1 2\ntown 0 0\ntown 0 0\n")
	none("town 0 0\ntown 1 1\ntown 0 1\n")
	none("town 1\ntown 2\ntown 3\ntown 4\ntown 5\ntown 6\ntown 0\n")
}

func TestPromise13LeastRanks(t *testing.T) {
	least := func(text string, rank, number int) {
		t.Helper()
		expect(t, "LeastRankColouring", impl.LeastRankColouring, []any{readRoads(text)}, []any{rank, number, impl.OK})
	}
	least("town 0\n", 1, 0)
	least("town 1 1\ntown 0 0\n", 2, 0)
	least("town 0 1\ntown 0 1\n", 1, 0)
	least("town 0 1\ntown 1 2\ntown 0 1\n", 1, 1)
	// Not joined: the town 0 keeps itself, and the first colouring leaves two of the other towns apart.
	least("town 0 0\ntown 1 2\ntown 2 3\ntown 1 2\n", 2, 1)
	// Joined, with the period 2: the first colouring has the rank 4.
	least("town 3 3\ntown 4 4\ntown 5 5\ntown 0 1\ntown 1 2\ntown 0 1\n", 2, 1)
	least("town 0\ntown 1\ntown 2\ntown 3\ntown 4\ntown 5\ntown 6\n", 7, 0)
	least("town 1 2\ntown 0 0\ntown 0 0\n", 2, 0)
	for n := int64(1); n <= impl.MaxTowns; n++ {
		expect(t, "LeastRankColouring", impl.LeastRankColouring, []any{circuit(n, 3)}, []any{n, 0, impl.OK})
	}
}

func TestPromise13QuickestColourings(t *testing.T) {
	quickest := func(text string, number int, reset string) {
		t.Helper()
		expect(t, "QuickestColouring", impl.QuickestColouring, []any{readRoads(text)}, []any{number, word(reset), impl.OK})
	}
	quickest(roadsText, 0, "aba")
	// One town is known from the beginning.
	quickest("town 0\n", 0, "-")
	quickest("town 0 0 0\n", 0, "-")
	quickest("town 0 1\ntown 0 0\n", 0, "a")
	quickest("town 1 1\ntown 0 1\n", 0, "b")
	// The first colouring that can be reset is not the quickest one.
	quickest("town 0 1\ntown 1 2\ntown 0 1\n", 2, "b")
	quickest("town 1 2\ntown 1 2\ntown 0 1\n", 1, "a")
	quickest("town 0 0 1\ntown 0 1 2\ntown 1 2 2\n", 5, "c")
	// Of several colourings with words of one length, the first one counts, and not the first word: the letter 0 resets the colouring 6.
	quickest("town 1 2\ntown 0 1\ntown 0 1\n", 3, "a")
	quickest("town 0 1\ntown 2 2\ntown 2 3\ntown 0 0\n", 1, "aaa")
	quickest("town 0 1\ntown 1 2\ntown 2 3\ntown 0 1\n", 2, "bb")
}

// TestPromise13EarlierColouringsAreSlower tells for roads of which the first ones that can be reset are not the quickest ones, and those of which several are equally quick, that there are many.
func TestPromise13EarlierColouringsAreSlower(t *testing.T) {
	t.Parallel()
	late, slower, equal, rankLate := 0, 0, 0, 0
	for _, r := range slices.Concat(smallRoads(), onlyFew(allRoads(4, 2), 3), randomRoads(100, 3, 7, 700)) {
		first, _ := impl.FirstResetColouring(r)
		quickest, w, code := impl.QuickestColouring(r)
		rank, at, _ := impl.LeastRankColouring(r)
		if first > 0 {
			late++
		}
		if quickest > first {
			slower++
		}
		if at > 0 && rank > 1 {
			rankLate++
		}
		for number, a := range coloured(r) {
			reset, can := impl.ShortestReset(a)
			if can != impl.OK {
				continue
			}
			if code != impl.OK || len(reset) < len(w) || len(reset) == len(w) && int64(number) < quickest {
				t.Errorf("QuickestColouring(%v): got %d %v, but %d has %v", r, quickest, w, number, reset)
			}
			if len(reset) == len(w) && !slices.Equal(reset, w) {
				equal++
			}
		}
	}
	if late < 20 || slower < 50 || equal < 50 || rankLate < 3 {
		t.Errorf("roads: %d whose first colouring can not be reset, %d whose first one is slow, %d equally quick ones, %d of a least rank that comes late", late, slower, equal, rankLate)
	}
}

// TestPromise13JoinedRoads tells that joined roads have a colouring whose rank is their period, and none with a lesser one, and that they have one that can be reset just if the period is 1.
func TestPromise13JoinedRoads(t *testing.T) {
	t.Parallel()
	between, greater := map[int64]int{}, 0
	for _, r := range onlyJoined(slices.Concat(validRoads(), smallRoads(), allRoads(3, 3), fullRoads(), randomRoads(300, 3, 7, 1300))) {
		period, code := impl.RoadPeriod(r)
		if code != impl.OK {
			t.Fatalf("RoadPeriod(%v): %d", r, code)
		}
		rank, number, code := impl.LeastRankColouring(r)
		if code != impl.OK || rank != period {
			t.Errorf("LeastRankColouring(%v): got %d %d %d, the period is %d", r, rank, number, code, period)
		}
		a, _ := impl.ColouringAt(r, number)
		if rank, _ := impl.RankOf(a); rank != period {
			t.Errorf("RankOf(%v): got %d, the period is %d", a, rank, period)
		}
		expect(t, "HasResetColouring", impl.HasResetColouring, []any{r}, []any{period == 1, impl.OK})
		between[period]++
		if number > 0 && period > 1 {
			greater++
		}
	}
	for period := int64(1); period <= 4; period++ {
		if between[period] < 10 {
			t.Errorf("only %d roads with the period %d", between[period], period)
		}
	}
	if greater < 1 {
		t.Error("no joined roads whose period is greater than 1, and less than the rank of the first colouring")
	}
}

func TestPromise13TooManyColourings(t *testing.T) {
	for _, r := range overRoads() {
		returnErrors(t, []wrongCall{
			{"HasResetColouring", impl.HasResetColouring, []any{r}, impl.ErrLimit, []any{false}},
			{"FirstResetColouring", impl.FirstResetColouring, []any{r}, impl.ErrLimit, []any{0}},
			{"CountResetColourings", impl.CountResetColourings, []any{r}, impl.ErrLimit, []any{0}},
			{"LeastRankColouring", impl.LeastRankColouring, []any{r}, impl.ErrLimit, []any{0, 0}},
			{"QuickestColouring", impl.QuickestColouring, []any{r}, impl.ErrLimit, []any{0, nil}},
		})
		// The others need not look at all colourings.
		named("IsJoined").compare(t, r)
		named("RoadPeriod").compare(t, r)
		named("ContractRoads").compare(t, r, repeated(0, 7))
	}
}

// TestPromise13ManyColouringsWithoutReset tells that roads with as many colourings as may be looked at, of which none can be reset, have not too many.
func TestPromise13ManyColouringsWithoutReset(t *testing.T) {
	t.Parallel()
	r := fullRoads()[1]
	has, one := impl.HasResetColouring(r)
	first, two := impl.FirstResetColouring(r)
	count, three := impl.CountResetColourings(r)
	rank, number, four := impl.LeastRankColouring(r)
	quickest, w, five := impl.QuickestColouring(r)
	got := list(one, first, two, count, three, rank, number, four, quickest, five)
	if has || len(w) > 0 || !slices.Equal(got, list(impl.OK, 0, impl.ErrNotFound, 0, impl.OK, 2, 0, impl.OK, 0, impl.ErrNotFound)) {
		t.Errorf("%v: got %v %v %v", r, has, w, got)
	}
}

func TestPromise13SwappedColours(t *testing.T) {
	swap := func(a impl.Automaton, s, x, y int64, want impl.Automaton) {
		t.Helper()
		expect(t, "SwapColours", impl.SwapColours, []any{a, s, x, y}, []any{want, impl.OK})
		expect(t, "SwapColours", impl.SwapColours, []any{a, s, y, x}, []any{want, impl.OK})
	}
	a := auto(3, list(1, 0, 0), list(1, 2, 0), list(2, 2, 1))
	swap(a, 0, 0, 1, a)
	swap(a, 0, 0, 2, auto(3, list(2, 0, 0), list(1, 2, 0), list(1, 2, 1)))
	swap(a, 1, 0, 1, auto(3, list(1, 2, 0), list(1, 0, 0), list(2, 2, 1)))
	swap(a, 1, 0, 2, auto(3, list(1, 2, 0), list(1, 2, 0), list(2, 0, 1)))
	swap(a, 2, 1, 2, auto(3, list(1, 0, 0), list(1, 2, 1), list(2, 2, 0)))
	for s := range int64(3) {
		for x := range int64(3) {
			swap(a, s, x, x, a)
		}
	}
	swap(auto(1, list(0)), 0, 0, 0, auto(1, list(0)))
	// An automaton may have more states than there are towns.
	swap(auto(10, upTo(10), repeated(9, 10)), 8, 0, 1, auto(10, list(0, 1, 2, 3, 4, 5, 6, 7, 9, 9), append(repeated(9, 8), 8, 9)))
	for _, wrong := range lists(list(-1, 0, 0), list(3, 0, 0), list(0, -1, 0), list(0, 3, 0), list(0, 0, -1), list(0, 0, 3), list(3, 3, 3), list(0, 3, 3), list(-1, -1, -1),
		list(math.MinInt64, 0, 1), list(math.MaxInt64, 0, 1), list(1, math.MinInt64, 1), list(1, 1, math.MaxInt64)) {
		expect(t, "SwapColours", impl.SwapColours, []any{a, wrong[0], wrong[1], wrong[2]}, []any{impl.Automaton{}, impl.ErrRange})
	}
	for _, b := range slices.Concat(validAutomata(), smallAutomata()) {
		for s := range b.States {
			for x := range b.Next {
				for y := range b.Next {
					named("SwapColours").compare(t, b, s, int64(x), int64(y))
				}
			}
		}
	}
}

// TestPromise13SwapsLeadToAllColourings tells that swapping colours leads from a colouring to colourings of the same roads, and from the first one to all others.
func TestPromise13SwapsLeadToAllColourings(t *testing.T) {
	for _, r := range slices.Concat(validRoads(), onlyFew(smallRoads(), 3), randomRoads(20, 3, 7, 300)) {
		count, _ := impl.CountColourings(r)
		reached := map[int64]bool{0: true}
		for todo := list(0); len(todo) > 0; todo = todo[1:] {
			a, _ := impl.ColouringAt(r, todo[0])
			for s := range a.States {
				for x := range a.Next {
					for y := range x {
						b, _ := impl.SwapColours(a, s, int64(x), int64(y))
						number, code := impl.NumberOf(r, b)
						if code != impl.OK {
							t.Fatalf("NumberOf(%v, %v): %d", r, b, code)
						}
						if !reached[number] {
							reached[number] = true
							todo = append(todo, number)
						}
					}
				}
			}
		}
		if int64(len(reached)) != count {
			t.Errorf("%v: swaps lead to %d of %d colourings", r, len(reached), count)
		}
	}
}

func TestPromise13ContractedRoads(t *testing.T) {
	contract := func(r impl.Roads, class []int64, want impl.Roads) {
		t.Helper()
		expect(t, "ContractRoads", impl.ContractRoads, []any{r, class}, []any{want, impl.OK})
	}
	refuse := func(r impl.Roads, class []int64, code int) {
		t.Helper()
		expect(t, "ContractRoads", impl.ContractRoads, []any{r, class}, []any{impl.Roads{}, code})
	}
	contract(roadsExample(), list(0, 0, 0), roads(list(0, 0)))
	contract(roadsExample(), list(0, 1, 2), roadsExample())
	refuse(roadsExample(), list(0, 0, 1), impl.ErrState)
	refuse(roadsExample(), list(0, 1, 0), impl.ErrState)
	contract(roads(list(1, 1), list(0, 2), list(1, 1)), list(0, 1, 0), roads(list(1, 1), list(0, 0)))
	contract(roads(list(0, 2), list(1, 3), list(0, 1), list(1, 1)), list(0, 0, 1, 1), roads(list(0, 1), list(0, 0)))
	// Roads of the town 0 lead to the classes 1 and 0; those of the class 0 are put in order.
	contract(roads(list(1, 2), list(1, 1), list(0, 1)), list(0, 1, 0), roads(list(0, 1), list(1, 1)))
	// Each class has to be reached as often: once or twice is not the same.
	contract(roads(list(0, 0, 2), list(0, 1, 2), list(2, 2, 2)), list(0, 0, 1), roads(list(0, 0, 1), list(1, 1, 1)))
	refuse(roads(list(0, 0, 2), list(0, 2, 2), list(2, 2, 2)), list(0, 0, 1), impl.ErrState)
	refuse(roads(list(0, 2, 2), list(0, 1, 2), list(2, 2, 2)), list(0, 0, 1), impl.ErrState)
	// Only the last town of a class leads elsewhere.
	contract(roads(list(0), list(1), list(2), list(3)), list(0, 0, 0, 1), roads(list(0), list(1)))
	refuse(roads(list(0), list(1), list(3), list(3)), list(0, 0, 0, 1), impl.ErrState)
	contract(roads(list(0)), list(0), roads(list(0)))
	contract(circuit(6, 3), list(0, 1, 2, 0, 1, 2), circuit(3, 3))
	contract(circuit(6, 2), list(0, 1, 0, 1, 0, 1), circuit(2, 2))
	refuse(circuit(7, 2), list(0, 1, 0, 1, 0, 1, 0), impl.ErrState)
	for _, r := range slices.Concat(validRoads(), fullRoads(), overRoads()) {
		// With all classes, the roads stay as they are; with one, all of them lead back.
		contract(r, upTo(r.Towns), r)
		contract(r, repeated(0, int(r.Towns)), roads(repeated(0, len(r.Out[0]))))
		refuse(r, upTo(r.Towns+1), impl.ErrRange)
		refuse(r, upTo(r.Towns-1), impl.ErrRange)
		refuse(r, repeated(1, int(r.Towns)), impl.ErrRange)
	}
	for _, class := range lists(nil, list(0), list(0, 0), list(0, 0, 0, 0), list(1, 0, 0), list(1, 1, 1), list(0, 2, 1), list(0, 0, 2), list(0, -1, 0), list(0, 1, 3), list(math.MinInt64, 0, 0), list(0, 0, math.MaxInt64)) {
		refuse(roadsExample(), class, impl.ErrRange)
	}
}

// TestPromise13ContractionsAreQuotients tells that roads can be contracted just if the division is a congruence of a colouring, and that the quotients of such colourings are colourings of the contracted roads.
func TestPromise13ContractionsAreQuotients(t *testing.T) {
	t.Parallel()
	contracted, refused := 0, 0
	for _, r := range slices.Concat(validRoads(), onlyFew(smallRoads(), 2), randomRoads(20, 3, 5, 100)) {
		all := coloured(r)
		modelDivisions(r.Towns, func(class []int64) {
			named("ContractRoads").compare(t, r, class)
			small, code := impl.ContractRoads(r, class)
			found := false
			for _, a := range all {
				quotient, isNone := impl.QuotientOf(a, class)
				if isNone != impl.OK {
					continue
				}
				found = true
				if yes, _ := impl.IsColouring(small, quotient); !yes {
					t.Errorf("ContractRoads(%v, %v): got %v, but a quotient is %v", r, class, small, quotient)
				}
			}
			if found != (code == impl.OK) {
				t.Errorf("ContractRoads(%v, %v): got %d", r, class, code)
			}
			if classes := slices.Max(class) + 1; classes > 1 && classes < r.Towns {
				if found {
					contracted++
				} else {
					refused++
				}
			}
		})
	}
	if contracted < 200 || refused < 200 {
		t.Errorf("%d divisions contract roads, %d do not", contracted, refused)
	}
}

// TestPromise13ListsAsDivisions gives all short lists, divisions and others.
func TestPromise13ListsAsDivisions(t *testing.T) {
	for _, r := range slices.Concat(allRoads(1, 2), allRoads(2, 2), onlyFew(allRoads(3, 2), 9), allRoads(3, 1)) {
		for _, length := range list(r.Towns-1, r.Towns, r.Towns+1) {
			for _, class := range allLists(int(length), -1, r.Towns) {
				named("ContractRoads").compare(t, r, class)
			}
		}
	}
}
