package tests

import (
	"fmt"
	"slices"
	"strconv"
	"strings"

	"loop.example/g01102/impl"
)

// The functions of this file tell what those of chapter 5 should return, as directly as the document does. They go through all colourings, and ask the models of chapters 1 to 3 of each one.

func modelValidRoads(r impl.Roads) bool {
	valid := 1 <= r.Towns && r.Towns <= 7 && int64(len(r.Out)) == r.Towns
	for _, out := range r.Out {
		valid = valid && 1 <= len(out) && len(out) <= 3 && len(out) == len(r.Out[0])
		valid = valid && modelAllBelow(out, r.Towns) && slices.Equal(out, slices.Sorted(slices.Values(out)))
	}
	return valid
}

func modelSameRoads(r, q impl.Roads) bool {
	// Nil and empty slices print alike.
	return fmt.Sprint(r) == fmt.Sprint(q)
}

func modelRoadsText(r impl.Roads) string {
	if !modelValidRoads(r) {
		return ""
	}
	text := ""
	for _, out := range r.Out {
		text += "town " + strings.Trim(fmt.Sprint(out), "[]") + "\n"
	}
	return text
}

// modelReadRoads guesses the roads of a text, and looks whether they have this text.
func modelReadRoads(text string) (impl.Roads, int64) {
	if len(text) > 2000 {
		return impl.Roads{}, impl.ErrRange
	}
	var r impl.Roads
	for _, line := range strings.Split(strings.TrimSuffix(text, "\n"), "\n") {
		var out []int64
		for _, field := range strings.Split(line, " ")[1:] {
			n, _ := strconv.ParseInt(field, 10, 64)
			out = append(out, n)
		}
		r.Out = append(r.Out, out)
		r.Towns++
	}
	if !modelValidRoads(r) || modelRoadsText(r) != text {
		return impl.Roads{}, impl.ErrSyntax
	}
	return r, impl.OK
}

// modelLeadsFrom returns where the letters of an automaton lead from s, in the order of the letters.
func modelLeadsFrom(a impl.Automaton, s int64) []int64 {
	var out []int64
	for letter := range a.Next {
		out = append(out, modelLead(a, s, list(int64(letter))))
	}
	return out
}

func modelRoadsOf(a impl.Automaton) (impl.Roads, int64) {
	if !modelValid(a) {
		return impl.Roads{}, impl.ErrInvalid
	}
	if a.States > 7 {
		return impl.Roads{}, impl.ErrLimit
	}
	var out [][]int64
	for s := range a.States {
		out = append(out, slices.Sorted(slices.Values(modelLeadsFrom(a, s))))
	}
	return roads(out...), impl.OK
}

// modelIsColouring counts for each two towns how many roads and how many letters lead from the one to the other.
func modelIsColouring(r impl.Roads, a impl.Automaton) (bool, int64) {
	if !modelValidRoads(r) || !modelValid(a) {
		return false, impl.ErrInvalid
	}
	if r.Towns != a.States {
		return false, impl.OK
	}
	count := func(all []int64, goal int64) int {
		return len(slices.DeleteFunc(slices.Clone(all), func(t int64) bool { return t != goal }))
	}
	for s := range r.Towns {
		for t := range r.Towns {
			if count(r.Out[s], t) != count(modelLeadsFrom(a, s), t) {
				return false, impl.OK
			}
		}
	}
	return true, impl.OK
}

// modelArrangements returns the different lists that come from the orders of the places of a list.
func modelArrangements(numbers []int64) [][]int64 {
	var out [][]int64
	for _, order := range modelOrders(int64(len(numbers))) {
		var arranged []int64
		for _, i := range order {
			arranged = append(arranged, numbers[i])
		}
		out = append(out, arranged)
	}
	slices.SortFunc(out, slices.Compare)
	return slices.CompactFunc(out, slices.Equal)
}

// modelColourings calls visit with the arrangements of the towns in all colourings, in the order of their numbers, until it reports false. For each arrangement of a town, it goes through all those of the towns behind it.
func modelColourings(r impl.Roads, visit func(number int64, rows [][]int64) bool) {
	number := int64(0)
	var all [][][]int64
	for _, out := range r.Out {
		all = append(all, modelArrangements(out))
	}
	var choose func(rows [][]int64) bool
	choose = func(rows [][]int64) bool {
		if len(rows) == len(all) {
			number++
			return visit(number-1, rows)
		}
		for _, row := range all[len(rows)] {
			if !choose(append(rows, row)) {
				return false
			}
		}
		return true
	}
	choose(nil)
}

// modelPainted returns the automaton whose letters lead from the towns to the elements of their rows.
func modelPainted(rows [][]int64) impl.Automaton {
	a := auto(int64(len(rows)))
	for letter := range rows[0] {
		var next []int64
		for _, row := range rows {
			next = append(next, row[letter])
		}
		a.Next = append(a.Next, next)
	}
	return a
}

func modelCountColourings(r impl.Roads) (int64, int64) {
	if !modelValidRoads(r) {
		return 0, impl.ErrInvalid
	}
	count := int64(1)
	for _, out := range r.Out {
		count *= int64(len(modelArrangements(out)))
	}
	return count, impl.OK
}

func modelColouringAt(r impl.Roads, wanted int64) (impl.Automaton, int64) {
	count, code := modelCountColourings(r)
	if code != impl.OK {
		return impl.Automaton{}, code
	}
	if wanted < 0 || wanted >= count {
		return impl.Automaton{}, impl.ErrRange
	}
	var found impl.Automaton
	modelColourings(r, func(number int64, rows [][]int64) bool {
		if number == wanted {
			found = modelPainted(rows)
		}
		return number < wanted
	})
	return found, impl.OK
}

func modelNumberOf(r impl.Roads, a impl.Automaton) (int64, int64) {
	yes, code := modelIsColouring(r, a)
	if code != impl.OK {
		return 0, code
	}
	if !yes {
		return 0, impl.ErrState
	}
	found := int64(-1)
	modelColourings(r, func(number int64, rows [][]int64) bool {
		if modelSame(modelPainted(rows), a) {
			found = number
		}
		return found < 0
	})
	return found, impl.OK
}

// modelIsJoined goes along one road more as long as there are towns.
func modelIsJoined(r impl.Roads) (bool, int64) {
	if !modelValidRoads(r) {
		return false, impl.ErrInvalid
	}
	for s := range r.Towns {
		reached := map[int64]bool{}
		at := list(s)
		for range r.Towns {
			var then []int64
			for _, t := range at {
				then = append(then, r.Out[t]...)
			}
			slices.Sort(then)
			at = slices.Compact(then)
			for _, t := range at {
				reached[t] = true
			}
		}
		if int64(len(reached)) != r.Towns {
			return false, impl.OK
		}
	}
	return true, impl.OK
}

// modelRoadPeriod is that of any colouring; the lists of the roads are one.
func modelRoadPeriod(r impl.Roads) (int64, int64) {
	if joined, code := modelIsJoined(r); code != impl.OK {
		return 0, code
	} else if !joined {
		return 0, impl.ErrState
	}
	return modelPeriodOf(modelPainted(r.Out))
}

// modelLooked returns all colourings in the order of their numbers, or the first error of a function that looks at them.
func modelLooked(r impl.Roads) ([]impl.Automaton, int64) {
	count, code := modelCountColourings(r)
	if code != impl.OK {
		return nil, code
	}
	if count > 50000 {
		return nil, impl.ErrLimit
	}
	var all []impl.Automaton
	modelColourings(r, func(_ int64, rows [][]int64) bool {
		all = append(all, modelPainted(rows))
		return true
	})
	return all, impl.OK
}

// modelResets returns the numbers of the colourings that can be reset.
func modelResets(r impl.Roads) ([]int64, int64) {
	all, code := modelLooked(r)
	var numbers []int64
	for number, a := range all {
		if yes, _ := modelCanReset(a); yes {
			numbers = append(numbers, int64(number))
		}
	}
	return numbers, code
}

func modelHasResetColouring(r impl.Roads) (bool, int64) {
	numbers, code := modelResets(r)
	return len(numbers) > 0, code
}

func modelFirstResetColouring(r impl.Roads) (int64, int64) {
	numbers, code := modelResets(r)
	if code != impl.OK {
		return 0, code
	}
	if len(numbers) == 0 {
		return 0, impl.ErrNotFound
	}
	return numbers[0], impl.OK
}

func modelCountResetColourings(r impl.Roads) (int64, int64) {
	numbers, code := modelResets(r)
	return int64(len(numbers)), code
}

func modelLeastRankColouring(r impl.Roads) (int64, int64, int64) {
	all, code := modelLooked(r)
	if code != impl.OK {
		return 0, 0, code
	}
	var ranks []int64
	for _, a := range all {
		rank, _ := modelRankOf(a)
		ranks = append(ranks, rank)
	}
	least := slices.Min(ranks)
	return least, int64(slices.Index(ranks, least)), impl.OK
}

// modelQuickestColouring goes through the words of all lengths, beginning with the empty one, and asks all colourings for one of this length.
func modelQuickestColouring(r impl.Roads) (int64, []int64, int64) {
	numbers, code := modelResets(r)
	if code != impl.OK {
		return 0, nil, code
	}
	if len(numbers) == 0 {
		return 0, nil, impl.ErrNotFound
	}
	for length := 0; ; length++ {
		for _, number := range numbers {
			a, _ := modelColouringAt(r, number)
			if w, _ := modelShortestReset(a); len(w) == length {
				return number, w, impl.OK
			}
		}
	}
}

func modelSwapColours(a impl.Automaton, s, x, y int64) (impl.Automaton, int64) {
	if !modelValid(a) {
		return impl.Automaton{}, impl.ErrInvalid
	}
	letters := int64(len(a.Next))
	if !modelIsState(a, s) || x < 0 || x >= letters || y < 0 || y >= letters {
		return impl.Automaton{}, impl.ErrRange
	}
	out := auto(a.States)
	for letter := range letters {
		var next []int64
		for t := range a.States {
			from := letter
			if t == s && letter == x {
				from = y
			} else if t == s && letter == y {
				from = x
			}
			next = append(next, a.Next[from][t])
		}
		out.Next = append(out.Next, next)
	}
	return out, impl.OK
}

// modelContractRoads counts how many roads lead from each town to each class.
func modelContractRoads(r impl.Roads, class []int64) (impl.Roads, int64) {
	if !modelValidRoads(r) {
		return impl.Roads{}, impl.ErrInvalid
	}
	if !modelIsDivision(auto(r.Towns), class) {
		return impl.Roads{}, impl.ErrRange
	}
	counts := make([]map[int64]int, r.Towns)
	for s, out := range r.Out {
		counts[s] = map[int64]int{}
		for _, t := range out {
			counts[s][class[t]]++
		}
	}
	var out [][]int64
	for c := range slices.Max(class) + 1 {
		first := slices.Index(class, c)
		for s := range class {
			// Maps are printed in the order of their keys.
			if class[s] == c && fmt.Sprint(counts[s]) != fmt.Sprint(counts[first]) {
				return impl.Roads{}, impl.ErrState
			}
		}
		var goals []int64
		for goal := range slices.Max(class) + 1 {
			goals = append(goals, repeated(goal, counts[first][goal])...)
		}
		out = append(out, goals)
	}
	return roads(out...), impl.OK
}
