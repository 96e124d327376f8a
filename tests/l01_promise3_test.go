package tests

import (
	"math"
	"math/rand"
	"slices"
	"testing"

	"loop.example/g01102/impl"
)

// manyAutomata returns all small automata and some larger ones.
func manyAutomata() []impl.Automaton {
	return slices.Concat(smallAutomata(), allAutomata(2, 3), validAutomata(), randomAutomata(150, 4, 10))
}

// subsets returns all sets of so many states.
func subsets(states int64) [][]int64 {
	var out [][]int64
	for bits := range 1 << states {
		out = append(out, modelSetOf(auto(states), func(s int64) bool { return bits>>s&1 == 1 }))
	}
	return out
}

func TestPromise3ReachedStates(t *testing.T) {
	b := auto(3, list(1, 2, 1))
	reached := func(a impl.Automaton, s int64, want []int64) {
		t.Helper()
		expect(t, "ReachedFrom", impl.ReachedFrom, []any{a, s}, []any{want, impl.OK})
	}
	reached(auto(1, list(0)), 0, list(0))
	reached(b, 0, list(0, 1, 2))
	reached(b, 1, list(1, 2))
	reached(b, 2, list(1, 2))
	reached(auto(2, list(0, 1)), 1, list(1))
	reached(auto(3, list(0, 0, 2), list(0, 2, 2)), 1, list(0, 1, 2))
	reached(cycle(10), 9, upTo(10))
	for _, s := range list(-1, 3, 10, math.MinInt64, math.MaxInt64) {
		expect(t, "ReachedFrom", impl.ReachedFrom, []any{b, s}, []any{nil, impl.ErrRange})
	}
	for _, a := range manyAutomata() {
		for s := range a.States {
			named("ReachedFrom").compare(t, a, s)
		}
	}
}

func TestPromise3Connected(t *testing.T) {
	connected := func(a impl.Automaton, want bool) {
		t.Helper()
		expect(t, "IsConnected", impl.IsConnected, []any{a}, []any{want, impl.OK})
	}
	connected(auto(1, list(0)), true)
	connected(example(), true)
	connected(cycle(10), true)
	connected(auto(2, list(1, 1), list(0, 0)), true)
	connected(auto(2, list(0, 1)), false)
	connected(auto(2, list(1, 1)), false)
	connected(auto(2, list(0, 0)), false)
	connected(auto(4, list(1, 0, 3, 2)), false)
	connected(auto(10, append(upTo(10)[1:], 1)), false)
	for _, a := range manyAutomata() {
		named("IsConnected").compare(t, a)
	}
}

func TestPromise3Sinks(t *testing.T) {
	sink := func(a impl.Automaton, want []int64) {
		t.Helper()
		expect(t, "SinkOf", impl.SinkOf, []any{a}, []any{want, impl.OK})
	}
	none := func(a impl.Automaton) {
		t.Helper()
		expect(t, "SinkOf", impl.SinkOf, []any{a}, []any{nil, impl.ErrNotFound})
	}
	sink(auto(1, list(0)), list(0))
	sink(example(), list(0, 1, 2))
	sink(auto(3, list(1, 2, 1)), list(1, 2))
	sink(auto(4, list(1, 1, 3, 1)), list(1))
	sink(auto(10, append(upTo(10)[1:], 9)), list(9))
	none(auto(2, list(0, 1)))
	none(auto(4, list(1, 0, 3, 2)))
	none(auto(3, list(0, 1, 0), list(0, 1, 1)))
	for _, a := range manyAutomata() {
		named("SinkOf").compare(t, a)
	}
}

func TestPromise3Periods(t *testing.T) {
	for n := range int64(10) {
		expect(t, "PeriodOf", impl.PeriodOf, []any{cycle(n + 1)}, []any{n + 1, impl.OK})
	}
	period := func(a impl.Automaton, want int64) {
		t.Helper()
		expect(t, "PeriodOf", impl.PeriodOf, []any{a}, []any{want, impl.OK})
	}
	period(example(), 1)
	period(auto(2, list(1, 1), list(0, 0)), 1)
	period(auto(4, list(1, 2, 3, 0), list(1, 0, 3, 2)), 2)
	period(auto(6, list(1, 2, 3, 4, 5, 0), list(1, 2, 0, 4, 5, 3)), 3)
	period(auto(5, list(1, 2, 3, 4, 0), list(1, 2, 3, 1, 0)), 1)
	period(auto(10, list(1, 2, 3, 4, 5, 6, 7, 8, 9, 0), list(1, 2, 3, 4, 5, 0, 7, 8, 9, 0)), 2)
	for _, a := range []impl.Automaton{auto(2, list(0, 1)), auto(3, list(1, 2, 1)), auto(4, list(1, 0, 3, 2))} {
		expect(t, "PeriodOf", impl.PeriodOf, []any{a}, []any{0, impl.ErrState})
	}
	for _, a := range manyAutomata() {
		named("PeriodOf").compare(t, a)
	}
}

func TestPromise3Divisions(t *testing.T) {
	a := auto(4, list(0, 1, 2, 3))
	for _, class := range lists(list(0, 0, 0, 0), list(0, 1, 2, 3), list(0, 1, 0, 2), list(0, 0, 1, 0), list(0, 1, 2, 1)) {
		expect(t, "IsCongruence", impl.IsCongruence, []any{a, class}, []any{true, impl.OK})
	}
	wrong := lists(nil, list(0), list(0, 0, 0), list(0, 0, 0, 0, 0), list(1, 0, 1, 0), list(1, 1, 1, 1), list(0, 2, 1, 0), list(0, 0, 2, 1),
		list(0, 1, 3, 2), list(0, 1, 1, 3), list(-1, 0, 1, 2), list(0, -1, 0, 0), list(0, 0, 0, -1), list(0, 1, 2, 4), list(0, 0, 0, math.MaxInt64), list(math.MinInt64, 0, 0, 0))
	for _, class := range wrong {
		expect(t, "IsCongruence", impl.IsCongruence, []any{a, class}, []any{false, impl.ErrRange})
		expect(t, "QuotientOf", impl.QuotientOf, []any{a, class}, []any{impl.Automaton{}, impl.ErrRange})
	}
	expect(t, "IsCongruence", impl.IsCongruence, []any{auto(10, upTo(10)), upTo(10)}, []any{true, impl.OK})
	expect(t, "IsCongruence", impl.IsCongruence, []any{auto(10, upTo(10)), upTo(11)}, []any{false, impl.ErrRange})
	expect(t, "IsCongruence", impl.IsCongruence, []any{auto(1, list(0)), list(0)}, []any{true, impl.OK})
	expect(t, "IsCongruence", impl.IsCongruence, []any{auto(1, list(0)), nil}, []any{false, impl.ErrRange})
}

// TestPromise3ListsAsDivisions gives all short lists, divisions and others.
func TestPromise3ListsAsDivisions(t *testing.T) {
	for _, a := range slices.Concat(allAutomata(1, 1), allAutomata(2, 2), allAutomata(3, 1), []impl.Automaton{cycle(4), auto(4, list(1, 0, 3, 2), list(2, 3, 0, 1))}) {
		for _, length := range list(a.States-1, a.States, a.States+1) {
			for _, class := range allLists(int(length), -1, a.States) {
				named("IsCongruence").compare(t, a, class)
				named("QuotientOf").compare(t, a, class)
			}
		}
	}
}

func TestPromise3ExampleOfChapter1(t *testing.T) {
	a := example()
	expect(t, "IsConnected", impl.IsConnected, []any{a}, []any{true, impl.OK})
	expect(t, "PeriodOf", impl.PeriodOf, []any{a}, []any{1, impl.OK})
	var congruences [][]int64
	modelDivisions(3, func(class []int64) {
		if yes, _ := impl.IsCongruence(a, class); yes {
			congruences = append(congruences, class)
		}
	})
	if wanted(congruences) != wanted(lists(list(0, 0, 0), list(0, 1, 2))) {
		t.Errorf("congruences: %v", congruences)
	}
}

func TestPromise3Congruences(t *testing.T) {
	c := cycle(4)
	expect(t, "IsCongruence", impl.IsCongruence, []any{c, list(0, 1, 0, 1)}, []any{true, impl.OK})
	expect(t, "IsCongruence", impl.IsCongruence, []any{c, list(0, 0, 1, 1)}, []any{false, impl.OK})
	expect(t, "IsCongruence", impl.IsCongruence, []any{c, list(0, 1, 0, 2)}, []any{false, impl.OK})
	expect(t, "IsCongruence", impl.IsCongruence, []any{auto(3, list(0, 1, 2), list(0, 1, 0)), list(0, 0, 1)}, []any{true, impl.OK})
	expect(t, "IsCongruence", impl.IsCongruence, []any{auto(3, list(0, 1, 2), list(0, 2, 0)), list(0, 0, 1)}, []any{false, impl.OK})
	least := func(a impl.Automaton, s, t2 int64, want []int64) {
		t.Helper()
		expect(t, "LeastCongruence", impl.LeastCongruence, []any{a, s, t2}, []any{want, impl.OK})
		expect(t, "LeastCongruence", impl.LeastCongruence, []any{a, t2, s}, []any{want, impl.OK})
	}
	least(auto(1, list(0)), 0, 0, list(0))
	least(c, 0, 2, list(0, 1, 0, 1))
	least(c, 1, 3, list(0, 1, 0, 1))
	least(c, 0, 1, list(0, 0, 0, 0))
	least(c, 3, 3, list(0, 1, 2, 3))
	least(auto(4, list(0, 1, 2, 3)), 1, 3, list(0, 1, 2, 1))
	least(auto(5, list(1, 2, 3, 4, 4)), 1, 4, list(0, 1, 1, 1, 1))
	least(auto(5, list(0, 1, 2, 1, 2), list(0, 1, 2, 3, 4)), 3, 4, list(0, 1, 1, 2, 2))
	least(cycle(10), 7, 2, list(0, 1, 2, 3, 4, 0, 1, 2, 3, 4))
	for _, pair := range lists(list(-1, 0), list(0, -1), list(4, 0), list(0, 4), list(math.MaxInt64, 0), list(0, math.MinInt64)) {
		expect(t, "LeastCongruence", impl.LeastCongruence, []any{c, pair[0], pair[1]}, []any{nil, impl.ErrRange})
	}
}

// TestPromise3LeastCongruences compares with all divisions that are congruences.
func TestPromise3LeastCongruences(t *testing.T) {
	for _, a := range slices.Concat(smallAutomata(), allAutomata(2, 3), allAutomata(4, 1), randomAutomata(60, 4, 7)) {
		for s := range a.States {
			for u := range a.States {
				named("LeastCongruence").compare(t, a, s, u)
			}
		}
	}
}

func TestPromise3Quotients(t *testing.T) {
	quotient := func(a impl.Automaton, class []int64, want impl.Automaton) {
		t.Helper()
		expect(t, "QuotientOf", impl.QuotientOf, []any{a, class}, []any{want, impl.OK})
	}
	quotient(cycle(4), list(0, 1, 0, 1), cycle(2))
	quotient(cycle(4), list(0, 0, 0, 0), auto(1, list(0)))
	quotient(cycle(4), list(0, 1, 2, 3), cycle(4))
	quotient(auto(1, list(0), list(0)), list(0), auto(1, list(0), list(0)))
	quotient(auto(4, list(2, 3, 1, 1), list(0, 1, 2, 3)), list(0, 0, 1, 1), auto(2, list(1, 0), list(0, 1)))
	expect(t, "QuotientOf", impl.QuotientOf, []any{cycle(4), list(0, 0, 1, 1)}, []any{impl.Automaton{}, impl.ErrState})
	expect(t, "QuotientOf", impl.QuotientOf, []any{example(), list(0, 1, 1)}, []any{impl.Automaton{}, impl.ErrState})
	for _, a := range slices.Concat(smallAutomata(), allAutomata(2, 3), randomAutomata(30, 4, 5)) {
		modelDivisions(a.States, func(class []int64) { named("QuotientOf").compare(t, a, class) })
	}
}

func TestPromise3Products(t *testing.T) {
	product := func(a, b, want impl.Automaton) {
		t.Helper()
		expect(t, "ProductOf", impl.ProductOf, []any{a, b}, []any{want, impl.OK})
	}
	product(cycle(2), cycle(2), auto(4, list(3, 2, 1, 0)))
	product(cycle(2), cycle(3), auto(6, list(4, 5, 3, 1, 2, 0)))
	product(cycle(3), cycle(2), auto(6, list(3, 2, 5, 4, 1, 0)))
	product(auto(1, list(0), list(0)), example(), example())
	product(example(), auto(1, list(0), list(0)), example())
	product(cycle(10), cycle(1), cycle(10))
	product(cycle(1), cycle(10), cycle(10))
	product(auto(2, list(0, 0)), cycle(5), auto(10, list(1, 2, 3, 4, 0, 1, 2, 3, 4, 0)))
	product(cycle(5), auto(2, list(1, 1)), auto(10, list(3, 3, 5, 5, 7, 7, 9, 9, 1, 1)))
	for _, pair := range [][]impl.Automaton{{cycle(3), cycle(4)}, {cycle(4), cycle(3)}, {cycle(2), cycle(6)}, {cycle(10), cycle(2)}, {cycle(10), cycle(10)}} {
		expect(t, "ProductOf", impl.ProductOf, []any{pair[0], pair[1]}, []any{impl.Automaton{}, impl.ErrLimit})
	}
	expect(t, "ProductOf", impl.ProductOf, []any{cycle(3), example()}, []any{impl.Automaton{}, impl.ErrRange})
	expect(t, "ProductOf", impl.ProductOf, []any{example(), cycle(1)}, []any{impl.Automaton{}, impl.ErrRange})
	few := slices.Concat(allAutomata(1, 1), allAutomata(1, 2), allAutomata(2, 1), allAutomata(2, 2), allAutomata(3, 1), randomAutomata(30, 1, 5))
	for _, a := range few {
		for _, b := range few {
			named("ProductOf").compare(t, a, b)
		}
	}
}

func TestPromise3Restrictions(t *testing.T) {
	a := auto(5, list(1, 0, 4, 2, 3), list(0, 1, 4, 3, 2))
	restricted := func(set []int64, want impl.Automaton) {
		t.Helper()
		expect(t, "RestrictTo", impl.RestrictTo, []any{a, set}, []any{want, impl.OK})
	}
	restricted(list(0, 1), auto(2, list(1, 0), list(0, 1)))
	restricted(list(2, 3, 4), auto(3, list(2, 0, 1), list(2, 1, 0)))
	restricted(upTo(5), a)
	for _, set := range lists(nil, list(), list(0), list(1, 2, 3, 4), list(2, 3), list(0, 1, 2)) {
		expect(t, "RestrictTo", impl.RestrictTo, []any{a, set}, []any{impl.Automaton{}, impl.ErrState})
	}
	for _, set := range lists(list(1, 0), list(0, 0), list(0, 1, 5), list(-1, 0, 1), list(0, 1, 1)) {
		expect(t, "RestrictTo", impl.RestrictTo, []any{a, set}, []any{impl.Automaton{}, impl.ErrRange})
	}
	expect(t, "RestrictTo", impl.RestrictTo, []any{auto(1, list(0)), list(0)}, []any{auto(1, list(0)), impl.OK})
	for _, a := range slices.Concat(smallAutomata(), allAutomata(4, 1), randomAutomata(30, 4, 7)) {
		for _, set := range subsets(a.States) {
			named("RestrictTo").compare(t, a, set)
		}
	}
}

func TestPromise3RenumberedStates(t *testing.T) {
	a := example()
	expect(t, "RenumberStates", impl.RenumberStates, []any{a, list(2, 0, 1)}, []any{auto(3, list(1, 2, 0), list(1, 1, 2)), impl.OK})
	expect(t, "RenumberStates", impl.RenumberStates, []any{a, list(1, 0, 2)}, []any{auto(3, list(2, 0, 1), list(0, 1, 1)), impl.OK})
	expect(t, "RenumberStates", impl.RenumberStates, []any{a, list(0, 1, 2)}, []any{a, impl.OK})
	expect(t, "RenumberStates", impl.RenumberStates, []any{auto(1, list(0)), list(0)}, []any{auto(1, list(0)), impl.OK})
	expect(t, "RenumberStates", impl.RenumberStates, []any{cycle(10), list(9, 8, 7, 6, 5, 4, 3, 2, 1, 0)}, []any{auto(10, list(9, 0, 1, 2, 3, 4, 5, 6, 7, 8)), impl.OK})
	for _, order := range lists(nil, list(0, 1), list(0, 1, 2, 3), list(0, 0, 1), list(0, 1, 1), list(0, 1, 3), list(1, 2, 3), list(-1, 0, 1), list(2, 1, math.MaxInt64), list(math.MinInt64, 0, 1)) {
		expect(t, "RenumberStates", impl.RenumberStates, []any{a, order}, []any{impl.Automaton{}, impl.ErrRange})
	}
	for _, a := range slices.Concat(allAutomata(2, 2), allAutomata(3, 1), randomAutomata(40, 3, 4)) {
		for _, order := range allLists(int(a.States), 0, a.States-1) {
			named("RenumberStates").compare(t, a, order)
		}
	}
}

func TestPromise3Renumberings(t *testing.T) {
	found := func(a, b impl.Automaton, want []int64) {
		t.Helper()
		expect(t, "RenumberingOf", impl.RenumberingOf, []any{a, b}, []any{want, impl.OK})
	}
	none := func(a, b impl.Automaton) {
		t.Helper()
		expect(t, "RenumberingOf", impl.RenumberingOf, []any{a, b}, []any{nil, impl.ErrNotFound})
	}
	found(example(), example(), list(0, 1, 2))
	found(example(), auto(3, list(1, 2, 0), list(1, 1, 2)), list(2, 0, 1))
	found(auto(1, list(0)), auto(1, list(0)), list(0))
	found(cycle(3), auto(3, list(2, 0, 1)), list(0, 2, 1))
	found(auto(4, list(0, 1, 3, 2)), auto(4, list(1, 0, 2, 3)), list(2, 3, 0, 1))
	found(auto(4, list(1, 0, 3, 2)), auto(4, list(3, 2, 1, 0)), list(0, 2, 3, 1))
	found(auto(10, repeated(9, 10)), auto(10, repeated(0, 10)), list(9, 0, 1, 2, 3, 4, 5, 6, 7, 8))
	found(auto(10, upTo(10), upTo(10), upTo(10)), auto(10, upTo(10), upTo(10), upTo(10)), upTo(10))
	none(example(), cycle(3))
	none(example(), cycle(4))
	none(cycle(3), cycle(4))
	none(cycle(3), auto(3, list(1, 2, 0), list(0, 1, 2)))
	none(auto(2, list(0, 0), list(1, 1)), auto(2, list(0, 0), list(0, 0)))
	none(auto(2, list(0, 1), list(1, 0)), auto(2, list(1, 0), list(0, 1)))
	none(auto(10, upTo(10)), auto(10, list(0, 1, 2, 3, 4, 5, 6, 7, 9, 8)))
	none(auto(10, list(0, 1, 2, 3, 4, 5, 6, 7, 9, 8)), auto(10, upTo(10)))
	// Two chains of two letters each, or one of three and one of one, at the same state.
	none(auto(5, list(0, 0, 1, 0, 3)), auto(5, list(0, 0, 1, 2, 0)))
	// The two last states lead to two states in common, or to four.
	none(auto(6, list(0, 1, 2, 3, 0, 0), list(0, 1, 2, 3, 1, 1)), auto(6, list(0, 1, 2, 3, 0, 2), list(0, 1, 2, 3, 1, 3)))
	// One state looks like another here, but four roads make one circle, or two.
	none(roadMap(4, list(0, 1, 2, 3), list(1, 2, 3, 0)), roadMap(4, list(0, 1, 2, 3), list(1, 0, 3, 2)))
	none(roadMap(5, upTo(5), list(1, 2, 3, 4, 0)), roadMap(5, upTo(5), list(1, 0, 3, 4, 2)))
	found(roadMap(4, list(0, 1, 2, 3), list(1, 0, 3, 2)), roadMap(4, list(0, 1, 2, 3), list(2, 3, 0, 1)), list(0, 2, 1, 3, 4, 6, 5, 7))
}

// roadMap returns the automaton with some towns, which lead to themselves, and behind them a state for each road, from which the two letters lead to the towns at its ends.
// Orders for it have to fit together in many places: they are those that lead from a map to a map.
func roadMap(towns int64, from, to []int64) impl.Automaton {
	return auto(towns+int64(len(from)), append(upTo(towns), from...), append(upTo(towns), to...))
}

// TestPromise3RenumberingsOfRoadMaps compares with all orders, for maps in which towns can hardly be told apart.
func TestPromise3RenumberingsOfRoadMaps(t *testing.T) {
	source := rand.New(rand.NewSource(4))
	randomEnds := func(towns int64, roads int) []int64 {
		ends := make([]int64, roads)
		for i := range ends {
			ends[i] = source.Int63n(towns)
		}
		return ends
	}
	for range 60 {
		towns, roads := int64(3), 3
		a := roadMap(towns, randomEnds(towns, roads), randomEnds(towns, roads))
		b := roadMap(towns, randomEnds(towns, roads), randomEnds(towns, roads))
		named("RenumberingOf").compare(t, a, b)
		order := upTo(a.States)
		source.Shuffle(len(order), func(i, k int) { order[i], order[k] = order[k], order[i] })
		named("RenumberingOf").compare(t, a, modelSelect(a, order))
	}
	for range 12 {
		// Each town has one road that begins and one that ends there.
		begins, ends := modelOrders(4)[source.Intn(24)], modelOrders(4)[source.Intn(24)]
		a, b := roadMap(4, upTo(4), begins), roadMap(4, upTo(4), ends)
		order, code := impl.RenumberingOf(a, b)
		again, _ := impl.RenumberStates(a, order)
		if alike := slices.Equal(circlesOf(begins), circlesOf(ends)); alike != (code == impl.OK) || alike && !modelSame(again, b) {
			t.Errorf("RenumberingOf(%v, %v): got %v %d", a, b, order, code)
		}
	}
}

// circlesOf returns the lengths of the circles of an order, in ascending order.
func circlesOf(order []int64) []int64 {
	var out []int64
	for s := range order {
		least, length := int64(s), int64(1)
		for u := order[s]; u != int64(s); u = order[u] {
			least, length = min(least, u), length+1
		}
		if least == int64(s) {
			out = append(out, length)
		}
	}
	slices.Sort(out)
	return out
}

// TestPromise3RenumberingsOfFewStates compares with all orders.
func TestPromise3RenumberingsOfFewStates(t *testing.T) {
	for _, all := range [][]impl.Automaton{allAutomata(1, 1), allAutomata(2, 1), allAutomata(2, 2), allAutomata(3, 1)} {
		for _, a := range all {
			for _, b := range all {
				named("RenumberingOf").compare(t, a, b)
			}
		}
	}
	for _, a := range allAutomata(3, 2) {
		for _, order := range modelOrders(3) {
			named("RenumberingOf").compare(t, a, modelSelect(a, order))
		}
	}
	for _, a := range allAutomata(4, 1) {
		for _, order := range modelOrders(4) {
			named("RenumberingOf").compare(t, a, modelSelect(a, order))
		}
	}
}

// TestPromise3RenumberingsAreFirst takes automata that many orders lead to themselves, so that it matters which one comes first.
func TestPromise3RenumberingsAreFirst(t *testing.T) {
	source := rand.New(rand.NewSource(3))
	shuffled := func(states int64) []int64 {
		order := upTo(states)
		source.Shuffle(len(order), func(i, k int) { order[i], order[k] = order[k], order[i] })
		return order
	}
	for range 150 {
		states := 5 + source.Int63n(2)
		a := auto(states)
		for range 1 + source.Intn(2) {
			next := upTo(states)
			for range source.Intn(4) {
				next[source.Int63n(states)] = source.Int63n(states)
			}
			a.Next = append(a.Next, next)
		}
		b := modelSelect(a, shuffled(states))
		named("RenumberingOf").compare(t, a, b)
		b.Next[0][source.Int63n(states)] = source.Int63n(states)
		named("RenumberingOf").compare(t, a, b)
	}
	for _, a := range randomAutomata(100, 8, 10) {
		known := shuffled(a.States)
		b := modelSelect(a, known)
		order, code := impl.RenumberingOf(a, b)
		again, codeOfOrder := impl.RenumberStates(a, order)
		if code != impl.OK || codeOfOrder != impl.OK || !modelSame(again, b) || slices.Compare(order, known) > 0 {
			t.Errorf("RenumberingOf(%v, %v): got %v %d", a, b, order, code)
		}
	}
}
