package tests

import (
	"fmt"
	"math"
	"slices"
	"testing"

	"loop.example/g01102/impl"
)

func TestPromise5PairTables(t *testing.T) {
	table := func(a impl.Automaton, rows ...[]int64) {
		t.Helper()
		expect(t, "PairTable", impl.PairTable, []any{a}, []any{rows, impl.OK})
	}
	table(auto(1, list(0)), list(0))
	table(auto(2, list(1, 0), list(0, 0)), list(0, 1), list(1, 0))
	table(cycle(2), list(0, -1), list(-1, 0))
	table(slow(3), list(0, 3, 1), list(3, 0, 2), list(1, 2, 0))
	table(auto(3, list(1, 0, 0)), list(0, -1, -1), list(-1, 0, 1), list(-1, 1, 0))
	table(auto(4, list(1, 2, 3, 3)), list(0, 3, 3, 3), list(3, 0, 2, 2), list(3, 2, 0, 1), list(3, 2, 1, 0))
	table(mixed(), list(0, -1, 1, 1), list(-1, 0, 1, 1), list(1, 1, 0, 1), list(1, 1, 1, 0))
	for _, a := range variedAutomata() {
		named("PairTable").compare(t, a)
	}
}

// TestPromise5TablesTellMergingWords tells that a table has the lengths of the words that MergingWord returns.
func TestPromise5TablesTellMergingWords(t *testing.T) {
	for _, a := range variedAutomata() {
		table, _ := impl.PairTable(a)
		for s := range a.States {
			for u := range a.States {
				w, code := impl.MergingWord(a, s, u)
				met := code == impl.OK && table[s][u] == int64(len(w))
				apart := code == impl.ErrNotFound && table[s][u] == -1
				if !met && !apart || (s == u) != (table[s][u] == 0) {
					t.Errorf("%v: the table has %d for %d and %d, the word is %v %d", a, table[s][u], s, u, w, code)
				}
			}
		}
	}
}

func TestPromise5GreedyWords(t *testing.T) {
	greedy := func(a impl.Automaton, want string) {
		t.Helper()
		expect(t, "GreedyReset", impl.GreedyReset, []any{a}, []any{word(want), impl.OK})
	}
	greedy(auto(2, list(0, 0), list(1, 1)), "a")
	greedy(auto(2, list(1, 0), list(0, 1), list(1, 1)), "c")
	greedy(slow(3), "baab")
	// [0 1] meets by b, and [1 2] by a: the first pair is taken, although it leads to a longer word.
	tie := auto(3, list(0, 1, 1), list(0, 0, 2))
	greedy(tie, "bab")
	expect(t, "ShortestReset", impl.ShortestReset, []any{tie}, []any{word("ab"), impl.OK})
	// With its letters the other way round, the first pair is still [0 1], which meets by a.
	greedy(auto(3, list(0, 0, 2), list(0, 1, 1)), "aba")
	// The nearest pair is [1 2], although [0 1] comes before it.
	greedy(auto(3, list(1, 2, 0), list(0, 2, 2)), "baab")
	for _, a := range stuckAutomata() {
		expect(t, "GreedyReset", impl.GreedyReset, []any{a}, []any{nil, impl.ErrNotFound})
	}
	for _, a := range variedAutomata() {
		named("GreedyReset").compare(t, a)
	}
}

// tiedAutomata have many pairs that are equally near: their letters lead most states to themselves.
func tiedAutomata() []impl.Automaton {
	var out []impl.Automaton
	for i, a := range randomAutomata(150, 4, 7) {
		for letter, next := range a.Next {
			for s := range next {
				if (s*7+i+letter*3)%5 > 1 {
					next[s] = int64(s)
				}
			}
		}
		out = append(out, a)
	}
	return out
}

// TestPromise5FirstNearestPairs takes automata where it matters which one of several pairs is taken.
func TestPromise5FirstNearestPairs(t *testing.T) {
	for _, a := range slices.Concat(tiedAutomata(), allAutomata(4, 1)) {
		named("GreedyReset").compare(t, a)
	}
}

// TestPromise5GreedyBound tells that greedy words reset, are within the bound, and are not shorter than the shortest ones.
func TestPromise5GreedyBound(t *testing.T) {
	for _, a := range slices.Concat(variedAutomata(), tiedAutomata(), randomAutomata(300, 9, 10)) {
		w, code := impl.GreedyReset(a)
		shortest, codeOfShortest := impl.ShortestReset(a)
		if code != codeOfShortest {
			t.Errorf("%v: GreedyReset returns %d, ShortestReset %d", a, code, codeOfShortest)
		}
		if code != impl.OK {
			continue
		}
		bound, _ := impl.ResetBound(a.States)
		resets, _ := impl.IsReset(a, w)
		if !resets || int64(len(w)) > bound || len(w) < len(shortest) {
			t.Errorf("GreedyReset(%v): got %v", a, w)
		}
	}
}

func TestPromise5Bounds(t *testing.T) {
	for i, want := range list(0, 1, 6, 18, 40, 75, 126, 196, 288, 405) {
		expect(t, "ResetBound", impl.ResetBound, []any{i + 1}, []any{want, impl.OK})
	}
	for _, n := range list(0, -1, 11, 12, 100, math.MinInt64, math.MaxInt64) {
		expect(t, "ResetBound", impl.ResetBound, []any{n}, []any{0, impl.ErrRange})
	}
}

func TestPromise5SlowAutomata(t *testing.T) {
	automaton := func(n int64, want impl.Automaton) {
		t.Helper()
		expect(t, "SlowAutomaton", impl.SlowAutomaton, []any{n}, []any{want, impl.OK})
	}
	automaton(2, auto(2, list(1, 0), list(0, 0)))
	automaton(3, auto(3, list(1, 2, 0), list(0, 1, 0)))
	automaton(10, auto(10, list(1, 2, 3, 4, 5, 6, 7, 8, 9, 0), list(0, 1, 2, 3, 4, 5, 6, 7, 8, 0)))
	for _, n := range list(1, 0, -1, 11, 12, math.MinInt64, math.MaxInt64) {
		expect(t, "SlowAutomaton", impl.SlowAutomaton, []any{n}, []any{impl.Automaton{}, impl.ErrRange})
	}
	for n := int64(2); n <= impl.MaxStates; n++ {
		named("SlowAutomaton").compare(t, n)
		a, _ := impl.SlowAutomaton(n)
		w, code := impl.ShortestReset(a)
		if int64(len(w)) != (n-1)*(n-1) || code != impl.OK {
			t.Errorf("ShortestReset of SlowAutomaton(%d): %d letters, %d", n, len(w), code)
		}
		named("GreedyReset").compare(t, a)
		named("PairTable").compare(t, a)
	}
}

func TestPromise5StablePairs(t *testing.T) {
	stable := func(a impl.Automaton, pairs [][]int64, class []int64) {
		t.Helper()
		expect(t, "StablePairs", impl.StablePairs, []any{a}, []any{pairs, impl.OK})
		expect(t, "StableDivision", impl.StableDivision, []any{a}, []any{class, impl.OK})
	}
	stable(auto(1, list(0)), nil, list(0))
	stable(auto(2, list(0, 1)), nil, list(0, 1))
	stable(auto(2, list(0, 0)), lists(list(0, 1)), list(0, 0))
	stable(slow(3), lists(list(0, 1), list(0, 2), list(1, 2)), list(0, 0, 0))
	stable(auto(3, list(1, 0, 0)), lists(list(1, 2)), list(0, 1, 1))
	stable(auto(4, list(1, 1, 3, 3)), lists(list(0, 1), list(2, 3)), list(0, 0, 1, 1))
	stable(auto(4, list(1, 0, 3, 0)), lists(list(0, 2), list(1, 3)), list(0, 1, 0, 1))
	// Five pairs meet here, but only one of them is stable.
	stable(mixed(), lists(list(2, 3)), list(0, 1, 2, 2))
	stable(twins(3), lists(list(0, 1), list(2, 3), list(4, 5)), list(0, 0, 1, 1, 2, 2))
	stable(twins(5), lists(list(0, 1), list(2, 3), list(4, 5), list(6, 7), list(8, 9)), list(0, 0, 1, 1, 2, 2, 3, 3, 4, 4))
	stable(cycle(10), nil, upTo(10))
	stable(slow(10), modelPairs(upTo(10)), repeated(0, 10))
	for _, a := range variedAutomata() {
		named("StablePairs").compare(t, a)
		named("StableDivision").compare(t, a)
	}
}

// TestPromise5StableByAllWords goes through all words behind which the states of a pair may part. Automata with at most three states have three pairs, so words with at most three letters tell all of them.
func TestPromise5StableByAllWords(t *testing.T) {
	for _, a := range append(smallAutomata(), allAutomata(2, 3)...) {
		words := allWords(a, 3)
		var want [][]int64
		for _, pair := range modelPairs(upTo(a.States)) {
			parts := slices.ContainsFunc(words, func(w []int64) bool {
				image := modelImage(a, pair, w)
				_, meets := firstOf(a, words, image, -1)
				return !meets
			})
			if !parts {
				want = append(want, pair)
			}
		}
		if got, code := impl.StablePairs(a); wanted(got) != wanted(want) || code != impl.OK {
			t.Errorf("StablePairs(%v): got %v %d want %v", a, got, code, want)
		}
	}
}

// TestPromise5StableDivisionIsCongruence tells that the states of one class are just the stable pairs, and that the division is a congruence.
func TestPromise5StableDivisionIsCongruence(t *testing.T) {
	partly := 0
	for _, a := range variedAutomata() {
		pairs, _ := impl.StablePairs(a)
		class, code := impl.StableDivision(a)
		congruent, codeOfClass := impl.IsCongruence(a, class)
		if code != impl.OK || codeOfClass != impl.OK || !congruent {
			t.Errorf("StableDivision(%v): got %v, which is no congruence", a, class)
			continue
		}
		var together [][]int64
		for _, pair := range modelPairs(upTo(a.States)) {
			if class[pair[0]] == class[pair[1]] {
				together = append(together, pair)
			}
		}
		if wanted(together) != wanted(pairs) {
			t.Errorf("%v: the division is %v, the pairs are %v", a, class, pairs)
		}
		if len(pairs) > 0 && len(pairs) < len(modelPairs(upTo(a.States))) {
			partly++
		}
	}
	if partly < 100 {
		t.Errorf("only %d automata have stable pairs beside others", partly)
	}
}

// TestPromise5Guarantees tells that an automaton can be reset just if each pair has a merging word, and just if its stable division has one class.
func TestPromise5Guarantees(t *testing.T) {
	seen := map[bool]int{}
	for _, a := range slices.Concat(variedAutomata(), tiedAutomata(), dividedAutomata(200, 10)) {
		can, code := impl.CanReset(a)
		seen[can]++
		table, _ := impl.PairTable(a)
		allMeet := !slices.ContainsFunc(table, func(row []int64) bool { return slices.Contains(row, -1) })
		class, _ := impl.StableDivision(a)
		_, codeOfGreedy := impl.GreedyReset(a)
		_, codeOfTargets := impl.TargetsOf(a)
		answers := fmt.Sprint(allMeet, slices.Max(class) == 0, codeOfGreedy == impl.OK, codeOfTargets == impl.OK)
		if code != impl.OK || answers != fmt.Sprint(can, can, can, can) {
			t.Errorf("%v: CanReset is %v, the others are %s", a, can, answers)
		}
	}
	if seen[true] < 100 || seen[false] < 100 {
		t.Errorf("automata that can be reset, and others: %v", seen)
	}
}
