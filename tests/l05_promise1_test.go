package tests

import (
	"math"
	"reflect"
	"slices"
	"strings"
	"testing"

	"loop.example/g01102/impl"
)

func someRoadTexts() []string {
	return append(someTexts(), roadsText, "town 0\n", "town 0 0\n", "town 1\ntown 0\n", "town\n", "town 1 0\ntown 0 0\n", "town 0 1\ntown 0\n",
		strings.Repeat("town 6\n", 7), strings.Repeat("town 6\n", 8), strings.Repeat("town 0\n", 285), strings.Repeat("town 0\n", 286))
}

// someColourings returns the first and the last colouring of roads.
func someColourings() []impl.Automaton {
	var out []impl.Automaton
	for _, r := range slices.Concat(validRoads(), fullRoads(), overRoads()) {
		out = append(out, modelPainted(r.Out), modelPainted(reversed(r.Out)))
	}
	return out
}

func chapter5Pools() pools {
	numbers := list(-1, 0, 1, 2, 3, 7, 31, 46656, math.MinInt64, math.MaxInt64)
	divisions := lists(list(0, 1, 1), list(0, 1, 0), list(0, 0, 1), list(0, 1, 1, 0), list(0, 1, 2, 0, 1, 2), list(0, 1, 0, 1, 0, 1), list(0, 1, 2, 3, 4, 5, 0), repeated(0, 7))
	return pools{
		reflect.TypeFor[impl.Roads]():     anyOf(slices.Concat(invalidRoads(), validRoads(), overRoads())),
		reflect.TypeFor[impl.Automaton](): anyOf(slices.Concat(invalidAutomata(), validAutomata(), someColourings())),
		reflect.TypeFor[[]int64]():        anyOf(append(someLists(), divisions...)),
		reflect.TypeFor[int64]():          anyOf(numbers),
		reflect.TypeFor[string]():         anyOf(someRoadTexts()),
	}
}

// TestPromise1Chapter5 calls each function with all choices of arguments, right and wrong ones, and compares what it returns with its model, where the conventions of each call are checked as well.
func TestPromise1Chapter5(t *testing.T) {
	all := chapter5Pools()
	for _, f := range chapter5() {
		t.Run(f.name, func(t *testing.T) {
			t.Parallel()
			f.compareAll(t, all)
		})
	}
}

// TestPromise1TogetherChapter5 calls the functions from several goroutines with the same arguments: what they return depends on nothing else.
func TestPromise1TogetherChapter5(t *testing.T) {
	answers := func() []any {
		var out []any
		add := func(results ...any) { out = append(out, results...) }
		for _, r := range validRoads() {
			number, code := impl.FirstResetColouring(r)
			add(number, code)
			number, code = impl.CountResetColourings(r)
			add(number, code)
			rank, number, code := impl.LeastRankColouring(r)
			add(rank, number, code)
			number, w, code := impl.QuickestColouring(r)
			add(number, w, code)
			a, code := impl.ColouringAt(r, number)
			add(a, code)
			q, code := impl.RoadsOf(a)
			add(q, code)
			q, code = impl.ContractRoads(r, repeated(0, int(r.Towns)))
			add(q, code)
			a, code = impl.SwapColours(a, 0, 0, int64(len(a.Next)-1))
			add(a, code)
			number, code = impl.NumberOf(r, a)
			add(number, code)
			q, code = impl.ReadRoads(impl.RoadsText(r))
			add(q, code)
		}
		return out
	}
	agreeTogether(t, answers)
}

// TestPromise1LargeArgumentsChapter5 gives arguments far beyond all limits.
func TestPromise1LargeArgumentsChapter5(t *testing.T) {
	const size = 1 << 20
	long := make([]int64, size)
	r, a := roadsExample(), example()
	returnErrors(t, []wrongCall{
		{"ReadRoads", impl.ReadRoads, []any{strings.Repeat("town 0\n", size)}, impl.ErrRange, []any{impl.Roads{}}},
		{"ContractRoads", impl.ContractRoads, []any{r, long}, impl.ErrRange, []any{impl.Roads{}}},
		{"ColouringAt", impl.ColouringAt, []any{r, math.MaxInt64}, impl.ErrRange, []any{impl.Automaton{}}},
		{"SwapColours", impl.SwapColours, []any{a, math.MaxInt64, math.MinInt64, math.MaxInt64}, impl.ErrRange, []any{impl.Automaton{}}},
	})
	many := make([][]int64, size)
	for s := range many {
		many[s] = list(0)
	}
	for _, large := range []impl.Roads{{Towns: 1, Out: many}, {Towns: size, Out: many}, roads(long), roads(long, long)} {
		if impl.ValidRoads(large) || impl.RoadsText(large) != "" || !impl.SameRoads(large, large) {
			t.Errorf("large roads are valid, or not the same")
		}
		if number, w, code := impl.QuickestColouring(large); number != 0 || len(w) > 0 || code != impl.ErrInvalid {
			t.Errorf("QuickestColouring of large roads: %d %v %d", number, w, code)
		}
		if yes, code := impl.IsColouring(large, a); yes || code != impl.ErrInvalid {
			t.Errorf("IsColouring of large roads: %v %d", yes, code)
		}
	}
	for _, large := range []impl.Automaton{{States: 1, Next: many}, {States: size, Next: lists(long)}} {
		if of, code := impl.RoadsOf(large); of.Towns != 0 || len(of.Out) > 0 || code != impl.ErrInvalid {
			t.Errorf("RoadsOf a large automaton: %v %d", of, code)
		}
		if number, code := impl.NumberOf(r, large); number != 0 || code != impl.ErrInvalid {
			t.Errorf("NumberOf a large automaton: %d %d", number, code)
		}
	}
}

// TestPromise1FirstErrorsChapter5 gives functions several wrong arguments at once: the error that the document lists first is returned.
func TestPromise1FirstErrorsChapter5(t *testing.T) {
	// These would have too many colourings and too many towns as well.
	wide := roads(slices.Repeat(lists(list(0, 1, 2)), 8)...)
	bad, r := auto(2, list(0, 2)), roadsExample()
	var none impl.Automaton
	returnErrors(t, []wrongCall{
		{"ReadRoads", impl.ReadRoads, []any{strings.Repeat("x", impl.MaxText+1)}, impl.ErrRange, []any{impl.Roads{}}},
		{"RoadsOf", impl.RoadsOf, []any{auto(9, repeated(9, 9))}, impl.ErrInvalid, []any{impl.Roads{}}},
		{"IsColouring", impl.IsColouring, []any{wide, bad}, impl.ErrInvalid, []any{false}},
		{"IsColouring", impl.IsColouring, []any{wide, cycle(8)}, impl.ErrInvalid, []any{false}},
		{"IsColouring", impl.IsColouring, []any{r, bad}, impl.ErrInvalid, []any{false}},
		{"NumberOf", impl.NumberOf, []any{wide, cycle(8)}, impl.ErrInvalid, []any{0}},
		{"NumberOf", impl.NumberOf, []any{r, bad}, impl.ErrInvalid, []any{0}},
		{"NumberOf", impl.NumberOf, []any{r, cycle(8)}, impl.ErrState, []any{0}},
		{"ColouringAt", impl.ColouringAt, []any{wide, -1}, impl.ErrInvalid, []any{none}},
		{"ColouringAt", impl.ColouringAt, []any{overRoads()[2], 279936}, impl.ErrRange, []any{none}},
		{"RoadPeriod", impl.RoadPeriod, []any{roads(list(0), list(2))}, impl.ErrInvalid, []any{0}},
		// There are too many colourings, of which none can be reset.
		{"FirstResetColouring", impl.FirstResetColouring, []any{wide}, impl.ErrInvalid, []any{0}},
		{"FirstResetColouring", impl.FirstResetColouring, []any{overRoads()[2]}, impl.ErrLimit, []any{0}},
		{"QuickestColouring", impl.QuickestColouring, []any{wide}, impl.ErrInvalid, []any{0, nil}},
		{"QuickestColouring", impl.QuickestColouring, []any{overRoads()[2]}, impl.ErrLimit, []any{0, nil}},
		{"HasResetColouring", impl.HasResetColouring, []any{wide}, impl.ErrInvalid, []any{false}},
		{"CountResetColourings", impl.CountResetColourings, []any{wide}, impl.ErrInvalid, []any{0}},
		{"LeastRankColouring", impl.LeastRankColouring, []any{wide}, impl.ErrInvalid, []any{0, 0}},
		{"SwapColours", impl.SwapColours, []any{bad, 2, 1, 1}, impl.ErrInvalid, []any{none}},
		{"ContractRoads", impl.ContractRoads, []any{wide, list(1)}, impl.ErrInvalid, []any{impl.Roads{}}},
		// The roads of two towns of one class lead to different classes, but this is no division.
		{"ContractRoads", impl.ContractRoads, []any{r, list(1, 1, 0)}, impl.ErrRange, []any{impl.Roads{}}},
		{"ContractRoads", impl.ContractRoads, []any{r, list(0, 0, 1)}, impl.ErrState, []any{impl.Roads{}}},
	})
}

// TestPromise1InvalidChapter5 tells that no function takes roads or an automaton that are not valid.
func TestPromise1InvalidChapter5(t *testing.T) {
	var none impl.Automaton
	for _, bad := range invalidRoads() {
		expect(t, "RoadsText", impl.RoadsText, []any{bad}, []any{""})
		returnErrors(t, []wrongCall{
			{"IsColouring", impl.IsColouring, []any{bad, example()}, impl.ErrInvalid, []any{false}},
			{"CountColourings", impl.CountColourings, []any{bad}, impl.ErrInvalid, []any{0}},
			{"ColouringAt", impl.ColouringAt, []any{bad, 0}, impl.ErrInvalid, []any{none}},
			{"NumberOf", impl.NumberOf, []any{bad, example()}, impl.ErrInvalid, []any{0}},
			{"IsJoined", impl.IsJoined, []any{bad}, impl.ErrInvalid, []any{false}},
			{"RoadPeriod", impl.RoadPeriod, []any{bad}, impl.ErrInvalid, []any{0}},
			{"HasResetColouring", impl.HasResetColouring, []any{bad}, impl.ErrInvalid, []any{false}},
			{"FirstResetColouring", impl.FirstResetColouring, []any{bad}, impl.ErrInvalid, []any{0}},
			{"CountResetColourings", impl.CountResetColourings, []any{bad}, impl.ErrInvalid, []any{0}},
			{"LeastRankColouring", impl.LeastRankColouring, []any{bad}, impl.ErrInvalid, []any{0, 0}},
			{"QuickestColouring", impl.QuickestColouring, []any{bad}, impl.ErrInvalid, []any{0, nil}},
			{"ContractRoads", impl.ContractRoads, []any{bad, list(0)}, impl.ErrInvalid, []any{impl.Roads{}}},
		})
	}
	for _, bad := range invalidAutomata() {
		returnErrors(t, []wrongCall{
			{"RoadsOf", impl.RoadsOf, []any{bad}, impl.ErrInvalid, []any{impl.Roads{}}},
			{"IsColouring", impl.IsColouring, []any{roadsExample(), bad}, impl.ErrInvalid, []any{false}},
			{"NumberOf", impl.NumberOf, []any{roadsExample(), bad}, impl.ErrInvalid, []any{0}},
			{"SwapColours", impl.SwapColours, []any{bad, 0, 0, 0}, impl.ErrInvalid, []any{none}},
		})
	}
}
