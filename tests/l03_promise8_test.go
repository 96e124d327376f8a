package tests

import (
	"math"
	"math/rand"
	"slices"
	"testing"

	"loop.example/g01102/impl"
)

func TestPromise8ExampleOfChapter3(t *testing.T) {
	a, code := impl.SlowAutomaton(3)
	if code != impl.OK {
		t.Fatalf("SlowAutomaton(3): %d", code)
	}
	expect(t, "WeightsOf", impl.WeightsOf, []any{a}, []any{list(2, 2, 1), impl.OK})
	expect(t, "ExtendWord", impl.ExtendWord, []any{a, list(0)}, []any{word("b"), impl.OK})
}

func TestPromise8Weights(t *testing.T) {
	weights := func(a impl.Automaton, want ...int64) {
		t.Helper()
		expect(t, "WeightsOf", impl.WeightsOf, []any{a}, []any{want, impl.OK})
	}
	weights(auto(1, list(0)), 1)
	weights(auto(1, list(0), list(0), list(0)), 1)
	weights(auto(2, list(1, 0)), 1, 1)
	weights(auto(2, list(1, 0), list(0, 0)), 2, 1)
	weights(auto(2, list(0, 0), list(1, 1)), 1, 1)
	// Two letters that do the same count twice.
	weights(auto(2, list(0, 0), list(1, 1), list(1, 1)), 1, 2)
	weights(auto(2, list(1, 0), list(1, 0), list(0, 0)), 3, 2)
	weights(crossed(), 2, 1, 2, 1)
	weights(uneven(), 1, 1, 2, 4)
	weights(pairedCycle(3), 2, 1, 2, 1, 2, 1)
	weights(cycle(10), repeated(1, 10)...)
	weights(auto(6, list(1, 2, 3, 4, 5, 0), list(1, 0, 3, 2, 5, 4), list(5, 4, 3, 2, 1, 0)), repeated(1, 6)...)
	for n := 2; n <= impl.MaxStates; n++ {
		weights(slow(int64(n)), append(repeated(2, n-1), 1)...)
	}
	// The weight doubles from state to state.
	weights(auto(5, list(1, 2, 3, 4, 0), repeated(0, 5)), 16, 8, 4, 2, 1)
	weights(auto(10, append(upTo(10)[1:], 0), repeated(0, 10), repeated(0, 10)), 19683, 6561, 2187, 729, 243, 81, 27, 9, 3, 1)
	large := auto(10, list(7, 2, 5, 9, 1, 1, 8, 8, 3, 5), list(5, 6, 4, 0, 2, 6, 9, 7, 5, 4), list(9, 5, 5, 4, 8, 1, 4, 2, 9, 7))
	named("WeightsOf").compare(t, large)
	if most, _ := impl.WeightsOf(large); slices.Max(most) != 7961 {
		t.Errorf("the greatest weight is %d", slices.Max(most))
	}
}

func TestPromise8NotConnected(t *testing.T) {
	for _, a := range []impl.Automaton{
		auto(2, list(0, 1)),
		auto(2, list(1, 1)),
		auto(2, list(0, 0), list(0, 1)),
		auto(3, list(1, 0, 0)),
		auto(4, list(1, 0, 3, 2)),
		mixed(),
		traps(),
		twins(5),
		auto(10, append(upTo(10)[1:], 9)),
		auto(10, append(upTo(10)[1:], 1), append(upTo(10)[1:], 1)),
	} {
		expect(t, "WeightsOf", impl.WeightsOf, []any{a}, []any{nil, impl.ErrState})
		for _, set := range lists(nil, list(), list(0), list(0, 1), upTo(a.States)) {
			expect(t, "WeightOfSet", impl.WeightOfSet, []any{a, set}, []any{0, impl.ErrState})
			expect(t, "ExtendWord", impl.ExtendWord, []any{a, set}, []any{nil, impl.ErrState})
		}
		for _, set := range lists(list(1, 0), list(1, 1), list(-1), list(a.States), list(math.MinInt64), list(0, math.MaxInt64)) {
			expect(t, "WeightOfSet", impl.WeightOfSet, []any{a, set}, []any{0, impl.ErrRange})
			expect(t, "ExtendWord", impl.ExtendWord, []any{a, set}, []any{nil, impl.ErrRange})
		}
	}
}

func TestPromise8WeightsOfSets(t *testing.T) {
	weight := func(a impl.Automaton, set []int64, want int64) {
		t.Helper()
		expect(t, "WeightOfSet", impl.WeightOfSet, []any{a, set}, []any{want, impl.OK})
	}
	weight(slow(3), nil, 0)
	weight(slow(3), list(), 0)
	weight(slow(3), list(2), 1)
	weight(slow(3), list(0, 2), 3)
	weight(slow(3), list(0, 1), 4)
	weight(slow(3), upTo(3), 5)
	weight(auto(1, list(0)), nil, 0)
	weight(auto(1, list(0)), list(0), 1)
	weight(uneven(), list(0, 1, 2), 4)
	weight(uneven(), list(3), 4)
	weight(cycle(10), upTo(10), 10)
	weight(cycle(10), list(3, 9), 2)
	for _, set := range lists(list(1, 0), list(1, 1), list(-1), list(3), list(0, 3), upTo(4), list(math.MaxInt64), list(math.MinInt64, 0)) {
		expect(t, "WeightOfSet", impl.WeightOfSet, []any{slow(3), set}, []any{0, impl.ErrRange})
	}
}

// TestPromise8Balance tells that the weights are what the document says they are; there is only one such list.
func TestPromise8Balance(t *testing.T) {
	for _, a := range connectedAutomata() {
		weights, code := impl.WeightsOf(a)
		if code != impl.OK || int64(len(weights)) != a.States || slices.Min(weights) < 1 {
			t.Fatalf("WeightsOf(%v): got %v %d", a, weights, code)
		}
		come := make([]int64, a.States)
		for _, next := range a.Next {
			for from, s := range next {
				come[s] += weights[from]
			}
		}
		for s, sum := range come {
			if sum != int64(len(a.Next))*weights[s] {
				t.Errorf("WeightsOf(%v): got %v, which are not balanced at %d", a, weights, s)
			}
		}
		for divisor := int64(2); divisor <= slices.Min(weights); divisor++ {
			if !slices.ContainsFunc(weights, func(weight int64) bool { return weight%divisor != 0 }) {
				t.Errorf("WeightsOf(%v): got %v, which %d divides", a, weights, divisor)
			}
		}
	}
}

// TestPromise8PreimagesOnTheAverage tells that the preimages of a set by all letters have together as much weight as the set has for all letters.
func TestPromise8PreimagesOnTheAverage(t *testing.T) {
	source := rand.New(rand.NewSource(8))
	for _, a := range connectedAutomata() {
		for range 5 {
			bits := source.Int63n(1 << a.States)
			set := modelSetOf(a, func(s int64) bool { return bits>>s&1 == 1 })
			named("WeightOfSet").compare(t, a, set)
			weight, _ := impl.WeightOfSet(a, set)
			sum := int64(0)
			for letter := range a.Next {
				before, _ := impl.PreimageOf(a, set, list(int64(letter)))
				heavy, _ := impl.WeightOfSet(a, before)
				sum += heavy
			}
			if sum != weight*int64(len(a.Next)) {
				t.Errorf("%v: the weight of %v is %d, that of its preimages %d", a, set, weight, sum)
			}
		}
	}
}

// TestPromise8KernelsOfEqualWeight tells that all classes of all kernels of least rank have the same weight.
func TestPromise8KernelsOfEqualWeight(t *testing.T) {
	between, unevenClasses := 0, 0
	connected := slices.DeleteFunc(fourStates(), func(a impl.Automaton) bool {
		yes, _ := modelIsConnected(a)
		return !yes
	})
	for _, a := range append(connected, connectedAutomata()...) {
		weights, _ := impl.WeightsOf(a)
		rank, _ := impl.RankOf(a)
		kernels, code := impl.LeastKernels(a)
		if rank > 1 && rank < a.States {
			between++
		}
		for _, kernel := range kernels {
			ofClass, states := make([]int64, rank), make([]int64, rank)
			for s, class := range kernel {
				ofClass[class] += weights[s]
				states[class]++
			}
			if code != impl.OK || slices.Min(ofClass) != slices.Max(ofClass) {
				t.Errorf("%v: the classes of %v have the weights %v", a, kernel, ofClass)
			}
			if slices.Min(states)*rank != a.States {
				unevenClasses++
			}
		}
	}
	if between < 100 || unevenClasses < 20 {
		t.Errorf("%d automata of a rank between, %d kernels with uneven classes", between, unevenClasses)
	}
}

func TestPromise8FirstExtendingWords(t *testing.T) {
	extend := func(a impl.Automaton, set []int64, want string) {
		t.Helper()
		expect(t, "ExtendWord", impl.ExtendWord, []any{a, set}, []any{word(want), impl.OK})
	}
	a := slow(3)
	extend(a, list(0), "b")
	extend(a, list(1), "ba")
	extend(a, list(2), "a")
	extend(a, list(0, 1), "b")
	extend(a, list(0, 2), "aa")
	extend(a, list(1, 2), "a")
	extend(auto(2, list(0, 0), list(1, 1)), list(0), "a")
	extend(auto(2, list(0, 0), list(1, 1)), list(1), "b")
	// Of several words of one length, the first one: here "ba" extends the set as well.
	extend(auto(3, list(0, 0, 1), list(1, 2, 2)), list(1), "ab")
	// The letters of a preimage are taken from the last one on: here "ab" does not extend the set.
	extend(auto(3, list(0, 0, 1), list(2, 0, 1)), list(1), "ba")
	extend(uneven(), list(0, 1), "a")
	// What counts is the weight, not the number of states: {3} weighs 4, {1, 2} only 3.
	extend(uneven(), list(1, 2), "b")
	// The word that extends the set most comes later.
	extend(auto(3, list(0, 0, 2), list(1, 2, 0), list(0, 0, 0)), list(0), "a")
	extend(slow(10), list(6), "baaaaaa")
	for _, set := range lists(list(1, 0), list(1, 1), list(-1), list(3), list(0, 3), upTo(4), list(math.MaxInt64), list(math.MinInt64, 0)) {
		expect(t, "ExtendWord", impl.ExtendWord, []any{a, set}, []any{nil, impl.ErrRange})
	}
}

func TestPromise8NoExtendingWords(t *testing.T) {
	none := func(a impl.Automaton, set []int64) {
		t.Helper()
		expect(t, "ExtendWord", impl.ExtendWord, []any{a, set}, []any{nil, impl.ErrNotFound})
	}
	for _, a := range connectedAutomata() {
		none(a, nil)
		none(a, list())
		none(a, upTo(a.States))
	}
	for _, a := range []impl.Automaton{cycle(4), auto(4, list(1, 0, 3, 2), list(2, 3, 0, 1)), auto(3, list(1, 2, 0), list(1, 0, 2))} {
		for _, set := range subsets(a.States) {
			none(a, set)
		}
	}
	none(cycle(10), list(0, 2, 4, 6, 8))
	none(crossed(), list(0, 1))
	none(crossed(), list(1, 2))
	none(uneven(), list(3))
	none(uneven(), list(0, 1, 2))
	none(pairedCycle(3), list(2, 3))
	none(pairedCycle(3), list(0, 1, 4, 5))
}

// firstExtending returns the first of some words whose preimage of a set is heavier; it reports false if there is none.
func firstExtending(a impl.Automaton, all [][]int64, set []int64) ([]int64, bool) {
	weights := modelWeights(a)
	for _, w := range all {
		before, _ := modelPreimageOf(a, set, w)
		if modelSum(weights, before) > modelSum(weights, set) {
			return w, true
		}
	}
	return nil, false
}

// TestPromise8AllWords goes through all words in order. An automaton with at most three states has six sets that a set can come from and that may be heavier, so no first word has more than six letters.
func TestPromise8AllWords(t *testing.T) {
	found := map[bool]int{}
	for _, a := range append(smallAutomata(), allAutomata(2, 3)...) {
		if connected, _ := modelIsConnected(a); !connected {
			continue
		}
		all := allWords(a, 6)
		for _, set := range subsets(a.States) {
			w, ok := firstExtending(a, all, set)
			found[ok]++
			if ok {
				expect(t, "ExtendWord", impl.ExtendWord, []any{a, set}, []any{w, impl.OK})
			} else {
				expect(t, "ExtendWord", impl.ExtendWord, []any{a, set}, []any{nil, impl.ErrNotFound})
			}
		}
	}
	if found[true] < 500 || found[false] < 500 {
		t.Errorf("sets that can be extended, and others: %v", found)
	}
}

// TestPromise8ManyAutomata compares with words that are chosen by their texts.
func TestPromise8ManyAutomata(t *testing.T) {
	source := rand.New(rand.NewSource(88))
	for _, a := range rankedAutomata() {
		named("WeightsOf").compare(t, a)
	}
	for _, a := range connectedAutomata() {
		named("WeightsOf").compare(t, a)
		for range 8 {
			bits := source.Int63n(1 << a.States)
			set := modelSetOf(a, func(s int64) bool { return bits>>s&1 == 1 })
			named("ExtendWord").compare(t, a, set)
		}
	}
}

// TestPromise8SetsCanBeExtended tells that the word that is found extends the set, and that each set can be extended if it has a state, but not all, and the automaton can be reset.
func TestPromise8SetsCanBeExtended(t *testing.T) {
	stuck := map[bool]int{}
	for _, a := range connectedAutomata() {
		can, _ := impl.CanReset(a)
		permutes, _ := impl.RankOf(a)
		for i, set := range subsets(a.States) {
			// Automata with many states have too many sets for all of them.
			if a.States > 6 && i%11 != 1 {
				continue
			}
			w, code := impl.ExtendWord(a, set)
			before, _ := impl.PreimageOf(a, set, w)
			now, _ := impl.WeightOfSet(a, set)
			then, _ := impl.WeightOfSet(a, before)
			partial := len(set) > 0 && int64(len(set)) < a.States
			if code == impl.OK && then <= now || code != impl.OK && (code != impl.ErrNotFound || can && partial) {
				t.Errorf("ExtendWord(%v, %v): got %v %d", a, set, w, code)
			}
			if code == impl.OK && (!partial || permutes == a.States) {
				t.Errorf("ExtendWord(%v, %v): got %v, where nothing is to be extended", a, set, w)
			}
			if !can && partial {
				stuck[code == impl.OK]++
			}
		}
	}
	if stuck[true] < 50 || stuck[false] < 50 {
		t.Errorf("sets of automata that can not be reset: %v", stuck)
	}
}
