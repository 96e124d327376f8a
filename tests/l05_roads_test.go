package tests

import (
	"math"
	"math/rand"
	"slices"

	"loop.example/g01102/impl"
)

// roads returns roads with a list for each town.
func roads(out ...[]int64) impl.Roads {
	return impl.Roads{Towns: int64(len(out)), Out: out}
}

const roadsText = "town 1 1\ntown 0 2\ntown 0 0\n"

func roadsExample() impl.Roads { return roads(list(1, 1), list(0, 2), list(0, 0)) }

// readRoads returns the roads with a text.
func readRoads(text string) impl.Roads {
	r, code := modelReadRoads(text)
	if code != impl.OK {
		panic("no roads: " + text)
	}
	return r
}

// circuit returns n towns in a circle, with so many roads from each one to the next one.
func circuit(n int64, count int) impl.Roads {
	var out [][]int64
	for s := range n {
		out = append(out, repeated((s+1)%n, count))
	}
	return roads(out...)
}

// invalidRoads has one for each way not to be valid.
func invalidRoads() []impl.Roads {
	return []impl.Roads{
		{},
		{Towns: 1},
		{Out: lists(list(0))},
		{Towns: 0, Out: lists(nil)},
		{Towns: -1, Out: lists(list(0))},
		{Towns: math.MinInt64, Out: lists(list(0))},
		{Towns: math.MaxInt64, Out: lists(list(0))},
		{Towns: 2, Out: lists(list(0))},
		{Towns: 1, Out: lists(list(0), list(0))},
		{Towns: 2, Out: lists(list(0), list(0), list(0))},
		circuit(8, 1),
		circuit(8, 3),
		circuit(500, 1),
		// An empty list, and nothing but empty lists.
		roads(nil),
		roads(list(), list()),
		roads(list(), list(0)),
		roads(list(0), nil),
		roads(list(0), list(1), nil),
		// Lists of different lengths.
		roads(list(0, 1), list(0)),
		roads(list(0), list(0, 1)),
		roads(list(0, 0), list(0, 1), list(0, 1, 1)),
		roads(list(0, 0, 0), list(0, 1)),
		// Too many roads.
		roads(repeated(0, 4)),
		roads(list(0, 0, 0, 1), list(0, 0, 0, 1)),
		roads(list(0, 0, 0), list(0, 0, 0, 0)),
		roads(make([]int64, 500)),
		// Numbers that are no towns.
		roads(list(1)),
		roads(list(-1)),
		roads(list(0, 2), list(0, 1)),
		roads(list(0, 1), list(-1, 1)),
		roads(list(0, 1), list(1, math.MaxInt64)),
		roads(list(math.MinInt64, 0), list(0, 1)),
		// A number less than the one before it.
		roads(list(1, 0), list(0, 1)),
		roads(list(0, 1), list(1, 0)),
		roads(list(0, 1, 0), list(0, 0, 0)),
		roads(list(0, 0, 0), list(1, 1, 0)),
		roads(list(0, 1, 2), list(0, 2, 1), list(0, 1, 2)),
	}
}

// validRoads has small roads of many kinds, and some at the limits; they have few colourings.
func validRoads() []impl.Roads {
	return []impl.Roads{
		roadsExample(),
		roads(list(0)),
		roads(list(0, 0)),
		roads(list(0, 0, 0)),
		roads(list(1), list(0)),
		roads(list(0), list(1)),
		roads(list(1, 1), list(0, 0)),
		roads(list(0, 1), list(0, 1)),
		roads(list(0, 0, 1), list(0, 1, 1)),
		roads(list(1, 1, 1), list(0, 0, 1)),
		// The first colouring can not be reset; the second one can be, and the third one more quickly.
		lateRoads(),
		stretched(lateRoads()),
		roads(list(0, 1), list(2, 2), list(2, 3), list(0, 0)),
		// The least rank is 2, and the first colouring has a greater one.
		roads(list(0, 0), list(1, 2), list(2, 3), list(1, 2)),
		roads(list(0, 0), list(1, 1), list(0, 1)),
		roads(list(1, 2), list(3, 3), list(3, 3), list(0, 0)),
		roads(list(2, 3), list(2, 3), list(0, 1), list(0, 1)),
		roads(list(1, 2, 2), list(0, 0, 0), list(0, 0, 0)),
		roads(list(1, 2, 3), list(0, 0, 0), list(0, 0, 0), list(0, 0, 0)),
		roads(list(0, 1, 2), list(0, 0, 1), list(2, 2, 2)),
		roads(list(1, 2), list(3, 4), list(3, 4), list(5, 5), list(5, 5), list(0, 0)),
		circuit(5, 2),
		circuit(7, 1),
		circuit(7, 3),
		roads(list(0), list(1), list(2), list(3), list(4), list(5), list(6)),
		roads(list(6), list(6), list(6), list(6), list(6), list(6), list(6)),
		roads(list(1, 1, 1), list(2, 2, 2), list(3, 3, 3), list(4, 4, 4), list(5, 5, 5), list(6, 6, 6), list(0, 0, 1)),
		roads(list(1, 2), list(3, 4), list(3, 4), list(5, 6), list(5, 6), list(0, 0), list(0, 0)),
	}
}

// lateRoads have colourings of which the first one and the last one can not be reset.
func lateRoads() impl.Roads { return roads(list(0, 1), list(1, 2), list(0, 1)) }

// stretched puts a town into the way of the roads of each town, so that round trips are twice as long.
func stretched(r impl.Roads) impl.Roads {
	var out [][]int64
	for s := range r.Towns {
		out = append(out, repeated(r.Towns+s, len(r.Out[s])))
	}
	return roads(append(out, r.Out...)...)
}

// fullRoads have 46656 colourings, as many as valid roads can have if they have no more than MaxColourings; overRoads have more: 69984, 139968 and 279936. In the last one of each, no colouring can be reset.
func fullRoads() []impl.Roads {
	return []impl.Roads{
		readRoads("town 1 2 3\ntown 2 3 4\ntown 3 4 5\ntown 4 5 6\ntown 0 5 6\ntown 0 1 6\ntown 0 0 0\n"),
		readRoads("town 3 4 5\ntown 3 4 6\ntown 4 5 6\ntown 0 1 2\ntown 0 1 2\ntown 0 1 2\ntown 0 0 0\n"),
	}
}

func overRoads() []impl.Roads {
	return []impl.Roads{
		readRoads("town 1 2 3\ntown 2 3 4\ntown 3 4 5\ntown 4 5 6\ntown 0 5 6\ntown 0 1 1\ntown 0 0 1\n"),
		readRoads("town 1 2 3\ntown 2 3 4\ntown 3 4 5\ntown 4 5 6\ntown 0 5 6\ntown 0 1 6\ntown 0 0 1\n"),
		readRoads("town 3 4 5\ntown 3 4 6\ntown 4 5 6\ntown 0 1 2\ntown 0 1 2\ntown 0 1 2\ntown 0 1 2\n"),
	}
}

// orderedLists returns all lists of so many numbers, none of which is less than the one before it.
func orderedLists(length int, least, most int64) [][]int64 {
	return slices.DeleteFunc(allLists(length, least, most), func(numbers []int64) bool { return !slices.IsSorted(numbers) })
}

// allRoads returns all roads with so many towns, and so many roads out of each one.
func allRoads(towns int64, count int) []impl.Roads {
	var out []impl.Roads
	choices := orderedLists(count, 0, towns-1)
	for _, numbers := range allLists(int(towns), 0, int64(len(choices))-1) {
		var all [][]int64
		for _, n := range numbers {
			all = append(all, slices.Clone(choices[n]))
		}
		out = append(out, roads(all...))
	}
	return out
}

// smallRoads returns all roads with up to two towns, those with three towns and one road or two, and some of those with three or four towns and more roads.
func smallRoads() []impl.Roads {
	out := slices.Concat(allRoads(1, 1), allRoads(1, 2), allRoads(1, 3), allRoads(2, 1), allRoads(2, 2), allRoads(2, 3), allRoads(3, 1), allRoads(3, 2))
	for i, r := range slices.Concat(allRoads(3, 3), allRoads(4, 2)) {
		if i%37 == 0 {
			out = append(out, r)
		}
	}
	return out
}

// randomRoads returns roads with at most so many colourings, always the same ones. The towns of many of them are of several parts, each of which leads to the next one, so that they often have a period.
func randomRoads(count int, least, most int64, colourings int64) []impl.Roads {
	source := rand.New(rand.NewSource(5))
	var out []impl.Roads
	for len(out) < count {
		towns := least + source.Int63n(most-least+1)
		parts := 1 + source.Int63n(min(towns, 4))
		width := 1 + source.Intn(3)
		var all [][]int64
		for s := range towns {
			// The towns of a part have the same remainder.
			next := (s%parts + 1) % parts
			members := (towns - next + parts - 1) / parts
			var numbers []int64
			for range width {
				numbers = append(numbers, next+parts*source.Int63n(members))
			}
			slices.Sort(numbers)
			all = append(all, numbers)
		}
		r := shuffledRoads(source, roads(all...))
		if number, _ := modelCountColourings(r); number <= colourings {
			out = append(out, r)
		}
	}
	return out
}

// shuffledRoads numbers the towns in another order.
func shuffledRoads(source *rand.Rand, r impl.Roads) impl.Roads {
	order := source.Perm(int(r.Towns))
	out := make([][]int64, r.Towns)
	for s, numbers := range r.Out {
		for _, t := range numbers {
			out[order[s]] = append(out[order[s]], int64(order[t]))
		}
		slices.Sort(out[order[s]])
	}
	return roads(out...)
}

// onlyJoined returns those roads that are joined.
func onlyJoined(all []impl.Roads) []impl.Roads {
	return slices.DeleteFunc(slices.Clone(all), func(r impl.Roads) bool {
		joined, code := modelIsJoined(r)
		return code != impl.OK || !joined
	})
}

// coloured returns all colourings of roads by calls of ColouringAt.
func coloured(r impl.Roads) []impl.Automaton {
	count, _ := impl.CountColourings(r)
	var out []impl.Automaton
	for number := range count {
		a, _ := impl.ColouringAt(r, number)
		out = append(out, a)
	}
	return out
}

// chapter5 are the functions of chapter 5, with their models.
func chapter5() []function {
	return []function{
		{"ValidRoads", impl.ValidRoads, modelValidRoads},
		{"SameRoads", impl.SameRoads, modelSameRoads},
		{"RoadsText", impl.RoadsText, modelRoadsText},
		{"ReadRoads", impl.ReadRoads, modelReadRoads},
		{"RoadsOf", impl.RoadsOf, modelRoadsOf},
		{"IsColouring", impl.IsColouring, modelIsColouring},
		{"CountColourings", impl.CountColourings, modelCountColourings},
		{"ColouringAt", impl.ColouringAt, modelColouringAt},
		{"NumberOf", impl.NumberOf, modelNumberOf},
		{"IsJoined", impl.IsJoined, modelIsJoined},
		{"RoadPeriod", impl.RoadPeriod, modelRoadPeriod},
		{"HasResetColouring", impl.HasResetColouring, modelHasResetColouring},
		{"FirstResetColouring", impl.FirstResetColouring, modelFirstResetColouring},
		{"CountResetColourings", impl.CountResetColourings, modelCountResetColourings},
		{"LeastRankColouring", impl.LeastRankColouring, modelLeastRankColouring},
		{"QuickestColouring", impl.QuickestColouring, modelQuickestColouring},
		{"SwapColours", impl.SwapColours, modelSwapColours},
		{"ContractRoads", impl.ContractRoads, modelContractRoads},
	}
}
