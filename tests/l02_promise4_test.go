package tests

import (
	"math"
	"math/rand"
	"slices"
	"strings"
	"testing"

	"loop.example/g01102/impl"
)

// allWords returns all words of at most so many letters, in order.
func allWords(a impl.Automaton, longest int) [][]int64 {
	var out [][]int64
	for length := range longest + 1 {
		out = append(out, allLists(length, 0, int64(len(a.Next))-1)...)
	}
	return out
}

func TestPromise4ExampleOfChapter2(t *testing.T) {
	a, code := impl.SlowAutomaton(3)
	if code != impl.OK {
		t.Fatalf("SlowAutomaton(3): %d", code)
	}
	expect(t, "ShortestReset", impl.ShortestReset, []any{a}, []any{word("baab"), impl.OK})
	expect(t, "PairTable", impl.PairTable, []any{a}, []any{lists(list(0, 3, 1), list(3, 0, 2), list(1, 2, 0)), impl.OK})
	expect(t, "GreedyReset", impl.GreedyReset, []any{a}, []any{word("baab"), impl.OK})
}

func TestPromise4ResetWords(t *testing.T) {
	resets := func(a impl.Automaton, w []int64, want bool) {
		t.Helper()
		expect(t, "IsReset", impl.IsReset, []any{a, w}, []any{want, impl.OK})
	}
	a := slow(3)
	resets(a, word("baab"), true)
	resets(a, word("aab"), false)
	resets(a, word("baa"), false)
	resets(a, word("abaab"), true)
	resets(a, word("baaba"), true)
	resets(a, nil, false)
	resets(a, list(), false)
	resets(a, repeated(0, impl.MaxWord), false)
	resets(a, append(repeated(0, impl.MaxWord-4), word("baab")...), true)
	resets(auto(3, list(1, 2, 2)), word("aa"), true)
	resets(auto(3, list(1, 2, 2)), word("a"), false)
	resets(auto(10, upTo(10), repeated(9, 10)), word("ab"), true)
	resets(cycle(10), repeated(0, impl.MaxWord), false)
	for _, w := range lists(list(2), list(-1), list(0, 1, 2), list(math.MinInt64), list(math.MaxInt64, 0), repeated(1, impl.MaxWord+1)) {
		expect(t, "IsReset", impl.IsReset, []any{a, w}, []any{false, impl.ErrRange})
	}
}

// TestPromise4OneState tells that every word resets an automaton with one state, the empty one too.
func TestPromise4OneState(t *testing.T) {
	for letters := range impl.MaxLetters {
		a := auto(1, slices.Repeat(lists(list(0)), letters+1)...)
		for _, w := range append(allWords(a, 3), repeated(int64(letters), impl.MaxWord)) {
			expect(t, "IsReset", impl.IsReset, []any{a, w}, []any{true, impl.OK})
		}
		expect(t, "IsReset", impl.IsReset, []any{a, list(int64(letters) + 1)}, []any{false, impl.ErrRange})
		expect(t, "IsReset", impl.IsReset, []any{a, repeated(0, impl.MaxWord+1)}, []any{false, impl.ErrRange})
		expect(t, "CanReset", impl.CanReset, []any{a}, []any{true, impl.OK})
		expect(t, "ShortestReset", impl.ShortestReset, []any{a}, []any{nil, impl.OK})
		expect(t, "ShortestTo", impl.ShortestTo, []any{a, 0}, []any{nil, impl.OK})
		expect(t, "ShortestTo", impl.ShortestTo, []any{a, 1}, []any{nil, impl.ErrRange})
		expect(t, "ShortestFor", impl.ShortestFor, []any{a, nil}, []any{nil, impl.OK})
		expect(t, "ShortestFor", impl.ShortestFor, []any{a, list(0)}, []any{nil, impl.OK})
		expect(t, "TargetsOf", impl.TargetsOf, []any{a}, []any{list(0), impl.OK})
		expect(t, "MergingWord", impl.MergingWord, []any{a, 0, 0}, []any{nil, impl.OK})
		expect(t, "GreedyReset", impl.GreedyReset, []any{a}, []any{nil, impl.OK})
		count := int64(1)
		for length := range int64(impl.MaxCounted + 1) {
			expect(t, "CountResets", impl.CountResets, []any{a, length}, []any{count, impl.OK})
			count *= int64(letters + 1)
		}
	}
}

func TestPromise4FirstResetWords(t *testing.T) {
	first := func(a impl.Automaton, want string) {
		t.Helper()
		expect(t, "ShortestReset", impl.ShortestReset, []any{a}, []any{word(want), impl.OK})
	}
	// Of several words of one length, the first one.
	first(auto(2, list(0, 0), list(1, 1)), "a")
	first(auto(2, list(0, 1), list(1, 1), list(0, 0)), "b")
	first(auto(3, list(0, 1, 1), list(0, 0, 2)), "ab")
	first(auto(3, list(0, 0, 2), list(0, 1, 1)), "ba")
	// A shorter word comes before one with lesser letters.
	first(auto(3, list(1, 2, 2), list(0, 0, 0)), "b")
	first(auto(4, list(1, 2, 3, 3), list(0, 1, 2, 3), list(0, 0, 0, 0)), "c")
	// Both "ba" and "bb" reset it, and no other word of two letters.
	first(auto(4, list(1, 2, 3, 3), list(2, 2, 3, 3)), "ba")
	for _, a := range stuckAutomata() {
		expect(t, "ShortestReset", impl.ShortestReset, []any{a}, []any{nil, impl.ErrNotFound})
		expect(t, "CanReset", impl.CanReset, []any{a}, []any{false, impl.OK})
		expect(t, "TargetsOf", impl.TargetsOf, []any{a}, []any{nil, impl.ErrNotFound})
		for s := range a.States {
			expect(t, "ShortestTo", impl.ShortestTo, []any{a, s}, []any{nil, impl.ErrNotFound})
		}
	}
	for _, a := range resetAutomata() {
		expect(t, "CanReset", impl.CanReset, []any{a}, []any{true, impl.OK})
	}
}

func TestPromise4FirstWordsToStates(t *testing.T) {
	a := auto(3, list(1, 2, 2), list(0, 0, 0))
	to := func(a impl.Automaton, s int64, want string) {
		t.Helper()
		expect(t, "ShortestTo", impl.ShortestTo, []any{a, s}, []any{word(want), impl.OK})
	}
	to(a, 0, "b")
	to(a, 1, "ba")
	to(a, 2, "aa")
	to(auto(2, list(0, 0), list(1, 1)), 1, "b")
	to(slow(3), 0, "baab")
	to(slow(3), 1, "baaba")
	to(slow(3), 2, "baabaa")
	none := auto(3, list(1, 2, 2))
	to(none, 2, "aa")
	expect(t, "TargetsOf", impl.TargetsOf, []any{a}, []any{list(0, 1, 2), impl.OK})
	expect(t, "TargetsOf", impl.TargetsOf, []any{none}, []any{list(2), impl.OK})
	expect(t, "TargetsOf", impl.TargetsOf, []any{auto(4, list(1, 2, 3, 2))}, []any{nil, impl.ErrNotFound})
	expect(t, "TargetsOf", impl.TargetsOf, []any{auto(4, list(2, 2, 3, 2), list(3, 3, 3, 3))}, []any{list(2, 3), impl.OK})
	expect(t, "TargetsOf", impl.TargetsOf, []any{slow(10)}, []any{upTo(10), impl.OK})
	for _, s := range list(0, 1) {
		expect(t, "ShortestTo", impl.ShortestTo, []any{none, s}, []any{nil, impl.ErrNotFound})
	}
	for _, s := range list(-1, 3, 10, math.MinInt64, math.MaxInt64) {
		expect(t, "ShortestTo", impl.ShortestTo, []any{a, s}, []any{nil, impl.ErrRange})
	}
}

func TestPromise4FirstWordsForSets(t *testing.T) {
	a := slow(3)
	merge := func(a impl.Automaton, set []int64, want string) {
		t.Helper()
		expect(t, "ShortestFor", impl.ShortestFor, []any{a, set}, []any{word(want), impl.OK})
	}
	merge(a, nil, "-")
	merge(a, list(), "-")
	merge(a, list(2), "-")
	merge(a, list(0, 2), "b")
	merge(a, list(1, 2), "ab")
	merge(a, list(0, 1), "aab")
	merge(a, upTo(3), "baab")
	b := auto(4, list(1, 1, 3, 3))
	merge(b, nil, "-")
	merge(b, list(0), "-")
	merge(b, list(0, 1), "a")
	merge(b, list(2, 3), "a")
	for _, set := range lists(list(0, 2), list(1, 3), list(0, 1, 2), upTo(4)) {
		expect(t, "ShortestFor", impl.ShortestFor, []any{b, set}, []any{nil, impl.ErrNotFound})
	}
	for _, set := range lists(list(1, 0), list(1, 1), list(-1), list(3), list(0, 3), list(0, 1, 2, 3), list(math.MaxInt64), list(math.MinInt64, 0)) {
		expect(t, "ShortestFor", impl.ShortestFor, []any{a, set}, []any{nil, impl.ErrRange})
	}
}

func TestPromise4MergingWords(t *testing.T) {
	merge := func(a impl.Automaton, s, u int64, want string) {
		t.Helper()
		expect(t, "MergingWord", impl.MergingWord, []any{a, s, u}, []any{word(want), impl.OK})
		expect(t, "MergingWord", impl.MergingWord, []any{a, u, s}, []any{word(want), impl.OK})
	}
	a := slow(3)
	merge(a, 0, 1, "aab")
	merge(a, 0, 2, "b")
	merge(a, 1, 2, "ab")
	merge(auto(2, list(0, 1), list(1, 1), list(0, 0)), 0, 1, "b")
	merge(mixed(), 2, 3, "a")
	merge(mixed(), 0, 2, "a")
	merge(mixed(), 1, 2, "b")
	for s := range int64(4) {
		merge(mixed(), s, s, "-")
	}
	none := func(a impl.Automaton, s, u int64) {
		t.Helper()
		expect(t, "MergingWord", impl.MergingWord, []any{a, s, u}, []any{nil, impl.ErrNotFound})
		expect(t, "MergingWord", impl.MergingWord, []any{a, u, s}, []any{nil, impl.ErrNotFound})
	}
	none(mixed(), 0, 1)
	none(cycle(10), 3, 7)
	none(auto(3, list(1, 0, 0)), 0, 2)
	for _, pair := range lists(list(-1, 0), list(0, -1), list(3, 0), list(0, 3), list(3, 3), list(math.MinInt64, 0), list(0, math.MaxInt64)) {
		expect(t, "MergingWord", impl.MergingWord, []any{a, pair[0], pair[1]}, []any{nil, impl.ErrRange})
	}
}

func TestPromise4CountedWords(t *testing.T) {
	if impl.MaxCounted != 20 {
		t.Errorf("MaxCounted is %d", impl.MaxCounted)
	}
	count := func(a impl.Automaton, length, want int64) {
		t.Helper()
		expect(t, "CountResets", impl.CountResets, []any{a, length}, []any{want, impl.OK})
	}
	a := slow(3)
	for length, want := range list(0, 0, 0, 0, 1, 4) {
		count(a, int64(length), want)
	}
	// A word of this automaton resets it if it has one of the letters a and b.
	b := auto(2, list(0, 0), list(1, 1), list(0, 1))
	count(b, 0, 0)
	count(b, 1, 2)
	count(b, 2, 8)
	count(b, 20, 3486784400)
	count(auto(2, list(0, 0), list(1, 1), list(0, 0)), 20, 3486784401)
	count(cycle(3), 20, 0)
	count(slow(10), 20, 0)
	for _, length := range list(-1, 21, 22, 400, math.MinInt64, math.MaxInt64) {
		expect(t, "CountResets", impl.CountResets, []any{a, length}, []any{0, impl.ErrRange})
		expect(t, "CountResets", impl.CountResets, []any{auto(1, list(0)), length}, []any{0, impl.ErrRange})
	}
}

// firstOf returns the first of some words that leads from all states of a set to one, and to the state s, if this is one; it reports false if there is none.
func firstOf(a impl.Automaton, all [][]int64, set []int64, s int64) ([]int64, bool) {
	for _, w := range all {
		image := modelImage(a, set, w)
		if len(image) <= 1 && (s < 0 || image[0] == s) {
			return w, true
		}
	}
	return nil, false
}

// TestPromise4AllWords goes through all words in order. An automaton with at most three states has seven sets of states that are not empty, so no first word has more than six letters.
func TestPromise4AllWords(t *testing.T) {
	for _, a := range append(smallAutomata(), allAutomata(2, 3)...) {
		all := allWords(a, 6)
		counts := make([]int64, 7)
		for _, w := range all {
			resets, _ := modelIsReset(a, w)
			if resets {
				counts[len(w)]++
			}
			if got, code := impl.IsReset(a, w); got != resets || code != impl.OK {
				t.Errorf("IsReset(%v, %v): got %v %d", a, w, got, code)
			}
		}
		for length, want := range counts {
			if got, code := impl.CountResets(a, int64(length)); got != want || code != impl.OK {
				t.Errorf("CountResets(%v, %d): got %d %d want %d", a, length, got, code, want)
			}
		}
		wants := func(name string, set []int64, s int64, got []int64, code int64) {
			t.Helper()
			want, found := firstOf(a, all, set, s)
			if found != (code == impl.OK) || !found && code != impl.ErrNotFound || !slices.Equal(got, want) {
				t.Errorf("%s for %v, %v and %d: got %v %d want %v", name, a, set, s, got, code, want)
			}
		}
		whole := upTo(a.States)
		w, code := impl.ShortestReset(a)
		wants("ShortestReset", whole, -1, w, code)
		for _, set := range subsets(a.States) {
			w, code = impl.ShortestFor(a, set)
			wants("ShortestFor", set, -1, w, code)
		}
		for s := range a.States {
			w, code = impl.ShortestTo(a, s)
			wants("ShortestTo", whole, s, w, code)
			for u := range a.States {
				w, code = impl.MergingWord(a, s, u)
				wants("MergingWord", list(s, u), -1, w, code)
			}
		}
	}
}

// TestPromise4FirstWordsOfManyAutomata compares with words that are sorted by their texts.
func TestPromise4FirstWordsOfManyAutomata(t *testing.T) {
	source := rand.New(rand.NewSource(4))
	for _, a := range variedAutomata() {
		named("CanReset").compare(t, a)
		named("ShortestReset").compare(t, a)
		named("TargetsOf").compare(t, a)
		named("CountResets").compare(t, a, source.Int63n(impl.MaxCounted+1))
		for range 3 {
			bits := source.Int63n(1 << a.States)
			set := modelSetOf(a, func(s int64) bool { return bits>>s&1 == 1 })
			named("ShortestFor").compare(t, a, set)
			named("ShortestTo").compare(t, a, source.Int63n(a.States))
			named("MergingWord").compare(t, a, source.Int63n(a.States), source.Int63n(a.States))
		}
	}
}

// TestPromise4MergesAllPairs tells that a word resets just if it merges all pairs.
func TestPromise4MergesAllPairs(t *testing.T) {
	for _, a := range append(resetAutomata(), randomAutomata(40, 3, 9)...) {
		words := allWords(a, 4)
		if w, code := impl.ShortestReset(a); code == impl.OK {
			words = append(words, w, append(w, 0), append(list(0), w...))
		}
		for _, w := range words {
			merges := true
			for _, pair := range modelPairs(upTo(a.States)) {
				merges = merges && modelLead(a, pair[0], w) == modelLead(a, pair[1], w)
			}
			if got, code := impl.IsReset(a, w); got != merges || code != impl.OK {
				t.Errorf("IsReset(%v, %s): got %v %d", a, modelWordText(w), got, code)
			}
		}
	}
}

// TestPromise4CountsOfAllLengths tells that a longer word that goes on from a reset word is one too, and that there are no more reset words than words.
func TestPromise4CountsOfAllLengths(t *testing.T) {
	for _, a := range append(resetAutomata(), stuckAutomata()...) {
		letters := int64(len(a.Next))
		shortest, code := impl.ShortestReset(a)
		before, all := int64(0), int64(1)
		for length := range int64(impl.MaxCounted + 1) {
			named("CountResets").compare(t, a, length)
			count, _ := impl.CountResets(a, length)
			if count < letters*before || count > all || (count > 0) != (code == impl.OK && int64(len(shortest)) <= length) {
				t.Errorf("CountResets(%v, %d): got %d, with %d before", a, length, count, before)
			}
			before, all = count, all*letters
		}
	}
}

// TestPromise4LongFirstWords takes automata with ten states, whose first words are long.
func TestPromise4LongFirstWords(t *testing.T) {
	a := slow(10)
	expect(t, "ShortestReset", impl.ShortestReset, []any{a}, []any{word(strings.Repeat("b"+strings.Repeat("a", 9), 8) + "b"), impl.OK})
	for s := range a.States {
		named("ShortestTo").compare(t, a, s)
	}
	long := []impl.Automaton{
		auto(10, list(4, 6, 8, 3, 2, 0, 9, 7, 5, 1), list(3, 9, 6, 3, 6, 0, 2, 7, 8, 3), list(7, 7, 7, 7, 4, 7, 7, 3, 7, 7)),
		auto(10, list(3, 7, 1, 9, 0, 2, 6, 4, 8, 5), list(1, 6, 6, 6, 4, 8, 6, 5, 8, 6), list(6, 6, 7, 3, 4, 5, 6, 2, 8, 1)),
	}
	longest := 0
	for _, b := range long {
		for _, set := range subsets(10) {
			w, code := impl.ShortestFor(b, set)
			longest = max(longest, len(w))
			if len(set)%3 == 0 {
				named("ShortestFor").compare(t, b, set)
			}
			if code == impl.OK && len(modelImage(b, set, w)) > 1 {
				t.Errorf("ShortestFor(%v, %v): %v does not merge them", b, set, w)
			}
		}
	}
	if longest != 95 {
		t.Errorf("the longest first word has %d letters", longest)
	}
}
