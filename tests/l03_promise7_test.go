package tests

import (
	"math"
	"math/rand"
	"slices"
	"testing"

	"loop.example/g01102/impl"
)

func TestPromise7ExampleOfChapter3(t *testing.T) {
	a, code := impl.SlowAutomaton(3)
	if code != impl.OK {
		t.Fatalf("SlowAutomaton(3): %d", code)
	}
	expect(t, "RankOf", impl.RankOf, []any{a}, []any{1, impl.OK})
	sets := lists(upTo(3), list(0, 1), list(0, 2), list(1, 2), list(0), list(1), list(2))
	expect(t, "ReachedSets", impl.ReachedSets, []any{a}, []any{sets, impl.OK})
}

func TestPromise7RanksOfWords(t *testing.T) {
	rank := func(a impl.Automaton, w []int64, want int64) {
		t.Helper()
		expect(t, "RankOfWord", impl.RankOfWord, []any{a, w}, []any{want, impl.OK})
	}
	a := slow(3)
	rank(a, nil, 3)
	rank(a, list(), 3)
	rank(a, word("a"), 3)
	rank(a, word("b"), 2)
	rank(a, word("baa"), 2)
	rank(a, word("baab"), 1)
	rank(a, word("baabaa"), 1)
	rank(auto(1, list(0)), nil, 1)
	rank(auto(1, list(0)), repeated(0, impl.MaxWord), 1)
	rank(auto(4, list(1, 1, 3, 3)), word("aa"), 2)
	rank(cycle(10), repeated(0, impl.MaxWord), 10)
	rank(auto(10, upTo(10), repeated(9, 10)), word("ab"), 1)
	for _, w := range lists(list(2), list(-1), list(0, 1, 2), list(math.MinInt64), list(math.MaxInt64, 0), repeated(1, impl.MaxWord+1)) {
		expect(t, "RankOfWord", impl.RankOfWord, []any{a, w}, []any{0, impl.ErrRange})
		expect(t, "KernelOf", impl.KernelOf, []any{a, w}, []any{nil, impl.ErrRange})
	}
}

func TestPromise7LeastRanks(t *testing.T) {
	rank := func(a impl.Automaton, want int64, w string) {
		t.Helper()
		expect(t, "RankOf", impl.RankOf, []any{a}, []any{want, impl.OK})
		expect(t, "RankWord", impl.RankWord, []any{a}, []any{word(w), impl.OK})
	}
	rank(auto(1, list(0)), 1, "-")
	rank(auto(1, list(0), list(0), list(0)), 1, "-")
	rank(auto(2, list(0, 0), list(1, 1)), 1, "a")
	rank(auto(2, list(0, 1), list(1, 1), list(0, 0)), 1, "b")
	rank(slow(3), 1, "baab")
	rank(auto(3, list(1, 0, 0)), 2, "a")
	rank(auto(4, list(1, 2, 3, 0), list(0, 0, 2, 2)), 2, "b")
	rank(auto(4, list(1, 1, 2, 3), list(0, 1, 3, 3)), 2, "ab")
	rank(auto(4, list(1, 2, 3, 3), list(1, 1, 2, 3)), 1, "aaa")
	rank(mixed(), 2, "a")
	rank(traps(), 3, "a")
	rank(twins(5), 5, "b")
	rank(pairedCycle(5), 5, "bbbbb")
	for _, a := range permutationAutomata() {
		rank(a, a.States, "-")
	}
	for _, a := range resetAutomata() {
		w, _ := modelShortestReset(a)
		rank(a, 1, modelWordText(w))
	}
}

func TestPromise7RanksOfSets(t *testing.T) {
	rank := func(a impl.Automaton, set []int64, want int64) {
		t.Helper()
		expect(t, "RankOfSet", impl.RankOfSet, []any{a, set}, []any{want, impl.OK})
	}
	for _, a := range rankedAutomata() {
		rank(a, nil, 0)
		rank(a, list(), 0)
		rank(a, list(a.States-1), 1)
	}
	a := auto(3, list(1, 0, 0))
	rank(a, list(0, 1), 2)
	rank(a, list(0, 2), 2)
	rank(a, list(1, 2), 1)
	rank(a, upTo(3), 2)
	for _, set := range subsets(4) {
		rank(cycle(4), set, int64(len(set)))
		rank(slow(4), set, int64(min(len(set), 1)))
	}
	// The first word that leads to fewer states must not be taken.
	rank(traps(), upTo(3), 1)
	rank(traps(), upTo(4), 2)
	rank(traps(), upTo(6), 3)
	for _, set := range lists(list(1, 0), list(1, 1), list(-1), list(3), list(0, 3), upTo(4), list(math.MaxInt64), list(math.MinInt64, 0)) {
		expect(t, "RankOfSet", impl.RankOfSet, []any{a, set}, []any{0, impl.ErrRange})
		expect(t, "SetWord", impl.SetWord, []any{a, set}, []any{nil, impl.ErrRange})
	}
}

func TestPromise7Kernels(t *testing.T) {
	kernel := func(a impl.Automaton, w string, want ...int64) {
		t.Helper()
		expect(t, "KernelOf", impl.KernelOf, []any{a, word(w)}, []any{want, impl.OK})
	}
	kernel(slow(3), "-", 0, 1, 2)
	kernel(slow(3), "a", 0, 1, 2)
	kernel(slow(3), "b", 0, 1, 0)
	kernel(slow(3), "ab", 0, 1, 1)
	kernel(slow(3), "ba", 0, 1, 0)
	kernel(slow(3), "aab", 0, 0, 1)
	kernel(slow(3), "baab", 0, 0, 0)
	kernel(auto(1, list(0)), "aaa", 0)
	kernel(auto(4, list(3, 2, 3, 2)), "a", 0, 1, 0, 1)
	kernel(auto(4, list(3, 2, 1, 1)), "a", 0, 1, 2, 2)
	kernel(cycle(10), "aaa", upTo(10)...)
	kernel(auto(10, list(9, 8, 9, 8, 7, 7, 6, 5, 5, 4)), "a", 0, 1, 0, 1, 2, 2, 3, 4, 4, 5)
	kernel(auto(10, repeated(9, 10)), "a", repeated(0, 10)...)
}

func TestPromise7LeastImagesAndKernels(t *testing.T) {
	least := func(a impl.Automaton, images, kernels [][]int64) {
		t.Helper()
		expect(t, "LeastImages", impl.LeastImages, []any{a}, []any{images, impl.OK})
		expect(t, "LeastKernels", impl.LeastKernels, []any{a}, []any{kernels, impl.OK})
	}
	least(slow(3), lists(list(0), list(1), list(2)), lists(list(0, 0, 0)))
	least(auto(3, list(1, 2, 2)), lists(list(2)), lists(list(0, 0, 0)))
	least(auto(2, list(0, 1), list(1, 1)), lists(list(1)), lists(list(0, 0)))
	least(auto(3, list(1, 0, 0)), lists(list(0, 1)), lists(list(0, 1, 1)))
	least(auto(4, list(1, 1, 3, 3)), lists(list(1, 3)), lists(list(0, 0, 1, 1)))
	least(mixed(), lists(list(0, 1)), lists(list(0, 1, 0, 0), list(0, 1, 1, 1)))
	least(crossed(), lists(list(0, 2), list(1, 3)), lists(list(0, 0, 1, 1), list(0, 1, 1, 0)))
	least(uneven(), lists(list(0, 3), list(1, 3), list(2, 3)), lists(list(0, 0, 0, 1)))
	least(pairedCycle(2), lists(list(0, 2), list(0, 3), list(1, 2), list(1, 3)), lists(list(0, 0, 1, 1)))
	for _, a := range permutationAutomata() {
		least(a, lists(upTo(a.States)), lists(upTo(a.States)))
	}
	for _, a := range resetAutomata() {
		_, code := impl.LeastKernels(a)
		targets, _ := impl.TargetsOf(a)
		images, _ := impl.LeastImages(a)
		if code != impl.OK || !slices.Equal(slices.Concat(images...), targets) {
			t.Errorf("LeastImages(%v): got %v, the targets are %v", a, images, targets)
		}
		expect(t, "LeastKernels", impl.LeastKernels, []any{a}, []any{lists(repeated(0, int(a.States))), impl.OK})
	}
}

func TestPromise7CountedRanks(t *testing.T) {
	count := func(a impl.Automaton, length int64, want ...int64) {
		t.Helper()
		expect(t, "CountByRank", impl.CountByRank, []any{a, length}, []any{want, impl.OK})
	}
	a := slow(3)
	count(a, 0, 0, 0, 0, 1)
	count(a, 1, 0, 0, 1, 1)
	count(a, 3, 0, 0, 7, 1)
	count(a, 4, 0, 1, 14, 1)
	count(a, 5, 0, 4, 27, 1)
	count(auto(3, list(1, 0, 0)), 2, 0, 0, 1, 0)
	count(auto(1, list(0)), 0, 0, 1)
	count(auto(1, list(0), list(0), list(0)), 20, 0, 3486784401)
	count(auto(2, list(0, 0), list(1, 1), list(0, 1)), 20, 0, 3486784400, 1)
	count(auto(2, list(1, 0), list(0, 1), list(1, 0)), 20, 0, 0, 3486784401)
	count(cycle(10), 20, 0, 0, 0, 0, 0, 0, 0, 0, 0, 0, 1)
	count(auto(10, upTo(10), repeated(9, 10)), 1, 0, 1, 0, 0, 0, 0, 0, 0, 0, 0, 1)
	for _, length := range list(-1, 21, 22, 400, math.MinInt64, math.MaxInt64) {
		expect(t, "CountByRank", impl.CountByRank, []any{a, length}, []any{nil, impl.ErrRange})
		expect(t, "CountByRank", impl.CountByRank, []any{auto(1, list(0)), length}, []any{nil, impl.ErrRange})
	}
}

// TestPromise7CountsOfAllLengths tells that each word has one rank, that reset words are those with the rank 1, and that no word has fewer states than the rank of the automaton.
func TestPromise7CountsOfAllLengths(t *testing.T) {
	for _, a := range slices.Concat(resetAutomata(), stuckAutomata(), permutationAutomata(), betweenAutomata()) {
		rank, _ := impl.RankOf(a)
		w, _ := impl.RankWord(a)
		words := int64(1)
		for length := range int64(impl.MaxCounted + 1) {
			named("CountByRank").compare(t, a, length)
			counts, code := impl.CountByRank(a, length)
			if code != impl.OK || int64(len(counts)) != a.States+1 {
				t.Fatalf("CountByRank(%v, %d): got %v %d", a, length, counts, code)
			}
			sum := int64(0)
			for _, count := range counts {
				sum += count
			}
			resets, _ := impl.CountResets(a, length)
			lower := slices.ContainsFunc(counts[:rank], func(count int64) bool { return count != 0 })
			if sum != words || counts[0] != 0 || counts[1] != resets || lower || (counts[rank] > 0) != (int64(len(w)) <= length) {
				t.Errorf("CountByRank(%v, %d): got %v, of %d words, of which %d reset it; the rank is %d", a, length, counts, words, resets, rank)
			}
			words *= int64(len(a.Next))
		}
	}
}

func TestPromise7ReachedSets(t *testing.T) {
	reached := func(a impl.Automaton, full bool, want ...[]int64) {
		t.Helper()
		expect(t, "ReachedSets", impl.ReachedSets, []any{a}, []any{want, impl.OK})
		expect(t, "IsFullyReached", impl.IsFullyReached, []any{a}, []any{full, impl.OK})
	}
	reached(auto(1, list(0)), true, list(0))
	reached(auto(2, list(0, 1)), false, list(0, 1))
	reached(auto(2, list(0, 0)), false, list(0, 1), list(0))
	reached(auto(2, list(1, 1), list(0, 0)), true, list(0, 1), list(0), list(1))
	reached(auto(3, list(1, 0, 0)), false, list(0, 1, 2), list(0, 1))
	reached(auto(3, list(1, 2, 2)), false, list(0, 1, 2), list(1, 2), list(2))
	reached(mixed(), false, list(0, 1, 2, 3), list(0, 1))
	// Sets with more states come first, although others are reached by shorter words.
	reached(auto(4, list(2, 2, 2, 2), list(0, 3, 1, 1)), false, upTo(4), list(0, 1, 3), list(1), list(2), list(3))
	reached(crossed(), false, upTo(4), list(0, 2), list(1, 3))
	for _, a := range permutationAutomata() {
		reached(a, a.States == 1, upTo(a.States))
	}
	for n := int64(2); n <= impl.MaxStates; n++ {
		all := subsets(n)[1:]
		sets, code := impl.ReachedSets(slow(n))
		if len(sets) != len(all) || code != impl.OK {
			t.Errorf("ReachedSets of SlowAutomaton(%d): %d sets, %d", n, len(sets), code)
		}
		expect(t, "IsFullyReached", impl.IsFullyReached, []any{slow(n)}, []any{true, impl.OK})
	}
	// Only one set is missing.
	expect(t, "IsFullyReached", impl.IsFullyReached, []any{auto(2, list(1, 0), list(0, 1))}, []any{false, impl.OK})
	reached(auto(2, list(0, 1), list(1, 1)), false, list(0, 1), list(1))
}

func TestPromise7WordsOfSets(t *testing.T) {
	first := func(a impl.Automaton, set []int64, want string) {
		t.Helper()
		expect(t, "SetWord", impl.SetWord, []any{a, set}, []any{word(want), impl.OK})
	}
	none := func(a impl.Automaton, set []int64) {
		t.Helper()
		expect(t, "SetWord", impl.SetWord, []any{a, set}, []any{nil, impl.ErrNotFound})
	}
	a := slow(3)
	first(a, upTo(3), "-")
	first(a, list(0, 1), "b")
	first(a, list(1, 2), "ba")
	first(a, list(0, 2), "baa")
	first(a, list(0), "baab")
	first(a, list(1), "baaba")
	first(a, list(2), "baabaa")
	first(auto(1, list(0)), list(0), "-")
	first(mixed(), list(0, 1), "a")
	first(crossed(), list(1, 3), "ab")
	first(auto(3, list(0, 0, 2), list(1, 0, 2), list(1, 1, 2)), list(1, 2), "c")
	first(auto(3, list(0, 0, 2), list(1, 2, 0)), list(1, 2), "abb")
	for _, b := range slices.Concat(permutationAutomata(), betweenAutomata(), resetAutomata()) {
		none(b, nil)
		none(b, list())
		first(b, upTo(b.States), "-")
	}
	none(cycle(3), list(0, 1))
	none(mixed(), list(0))
	none(mixed(), list(0, 2))
	none(mixed(), list(0, 1, 2))
	none(auto(2, list(0, 0)), list(1))
}

// wordFacts is what all words with at most so many letters tell of an automaton.
type wordFacts struct {
	words, images, kernels [][]int64
}

func factsOf(a impl.Automaton, longest int) wordFacts {
	facts := wordFacts{words: allWords(a, longest)}
	for _, w := range facts.words {
		facts.images = append(facts.images, modelImage(a, upTo(a.States), w))
		facts.kernels = append(facts.kernels, modelKernel(a, w))
	}
	return facts
}

// rank returns the least number of states in an image.
func (f wordFacts) rank() int {
	return len(slices.MinFunc(f.images, func(p, q []int64) int { return len(p) - len(q) }))
}

// sorted returns those of some lists for whose words isGood is true, each once, in lexicographic order.
func (f wordFacts) sorted(from [][]int64, isGood func(i int) bool) [][]int64 {
	var out [][]int64
	for i, list := range from {
		if isGood(i) {
			out = append(out, list)
		}
	}
	slices.SortFunc(out, slices.Compare)
	return slices.CompactFunc(out, slices.Equal)
}

// counts returns how many words of a length have each rank.
func (f wordFacts) counts(states int64, length int) []int64 {
	out := make([]int64, states+1)
	for i, w := range f.words {
		if len(w) == length {
			out[len(f.images[i])]++
		}
	}
	return out
}

// TestPromise7AllWords goes through all words in order. An automaton with at most three states has seven sets of states that are not empty and five divisions, so no first word has more than six letters.
func TestPromise7AllWords(t *testing.T) {
	for _, a := range append(smallAutomata(), allAutomata(2, 3)...) {
		facts := factsOf(a, 6)
		rank := facts.rank()
		isLeast := func(i int) bool { return len(facts.images[i]) == rank }
		expect(t, "RankOf", impl.RankOf, []any{a}, []any{rank, impl.OK})
		images := facts.sorted(facts.images, isLeast)
		expect(t, "LeastImages", impl.LeastImages, []any{a}, []any{images, impl.OK})
		kernels := facts.sorted(facts.kernels, isLeast)
		expect(t, "LeastKernels", impl.LeastKernels, []any{a}, []any{kernels, impl.OK})
		shortest := slices.IndexFunc(facts.images, func(image []int64) bool { return len(image) == rank })
		expect(t, "RankWord", impl.RankWord, []any{a}, []any{facts.words[shortest], impl.OK})
		for length := range 7 {
			expect(t, "CountByRank", impl.CountByRank, []any{a, length}, []any{facts.counts(a.States, length), impl.OK})
		}
		reached := facts.sorted(facts.images, func(int) bool { return true })
		slices.SortStableFunc(reached, func(p, q []int64) int { return len(q) - len(p) })
		expect(t, "ReachedSets", impl.ReachedSets, []any{a}, []any{reached, impl.OK})
		expect(t, "IsFullyReached", impl.IsFullyReached, []any{a}, []any{len(reached) == len(subsets(a.States))-1, impl.OK})
		for _, set := range subsets(a.States) {
			least := len(set)
			for _, w := range facts.words {
				least = min(least, len(modelImage(a, set, w)))
			}
			expect(t, "RankOfSet", impl.RankOfSet, []any{a, set}, []any{least, impl.OK})
			i := slices.IndexFunc(facts.images, func(image []int64) bool { return slices.Equal(image, set) })
			if i < 0 {
				expect(t, "SetWord", impl.SetWord, []any{a, set}, []any{nil, impl.ErrNotFound})
			} else {
				expect(t, "SetWord", impl.SetWord, []any{a, set}, []any{facts.words[i], impl.OK})
			}
		}
		if t.Failed() {
			return
		}
	}
}

// TestPromise7AllActions takes the actions of all words from chapter 1: their images and kernels are those of the words.
func TestPromise7AllActions(t *testing.T) {
	for _, a := range slices.Concat(rankedAutomata(), tiedAutomata()) {
		actions, code := impl.MonoidOf(a)
		if code != impl.OK {
			continue
		}
		// The first letter of this automaton is an action, so its kernel and image are those of the action.
		facts := wordFacts{}
		for _, action := range actions {
			each := auto(a.States, action)
			facts.images = append(facts.images, modelImage(each, upTo(a.States), list(0)))
			facts.kernels = append(facts.kernels, modelKernel(each, list(0)))
		}
		rank := facts.rank()
		isLeast := func(i int) bool { return len(facts.images[i]) == rank }
		expect(t, "RankOf", impl.RankOf, []any{a}, []any{rank, impl.OK})
		expect(t, "LeastImages", impl.LeastImages, []any{a}, []any{facts.sorted(facts.images, isLeast), impl.OK})
		expect(t, "LeastKernels", impl.LeastKernels, []any{a}, []any{facts.sorted(facts.kernels, isLeast), impl.OK})
	}
}

// TestPromise7ManyAutomata compares with words that are sorted by their texts.
func TestPromise7ManyAutomata(t *testing.T) {
	source := rand.New(rand.NewSource(7))
	for _, a := range slices.Concat(rankedAutomata(), dividedAutomata(150, 10), randomAutomata(30, 9, 10)) {
		for _, name := range []string{"RankOf", "RankWord", "LeastImages", "LeastKernels", "ReachedSets", "IsFullyReached"} {
			named(name).compare(t, a)
		}
		named("CountByRank").compare(t, a, source.Int63n(impl.MaxCounted+1))
		reached, _ := impl.ReachedSets(a)
		named("SetWord").compare(t, a, reached[source.Intn(len(reached))])
		for range 3 {
			bits := source.Int63n(1 << a.States)
			set := modelSetOf(a, func(s int64) bool { return bits>>s&1 == 1 })
			named("RankOfSet").compare(t, a, set)
			named("SetWord").compare(t, a, set)
			w := make([]int64, source.Intn(9))
			for i := range w {
				w[i] = source.Int63n(int64(len(a.Next)))
			}
			named("RankOfWord").compare(t, a, w)
			named("KernelOf").compare(t, a, w)
		}
	}
}

// TestPromise7ImagesAndKernelsCross tells that each least image has one state of each class of each least kernel, that kernels are divisions with as many classes as the rank, and that both are there in order, each once.
func TestPromise7ImagesAndKernelsCross(t *testing.T) {
	several := 0
	for _, a := range slices.Concat(rankedAutomata(), tiedAutomata(), dividedAutomata(300, 10), fourStates()) {
		rank, _ := impl.RankOf(a)
		images, codeOfImages := impl.LeastImages(a)
		kernels, codeOfKernels := impl.LeastKernels(a)
		inOrder := func(all [][]int64) bool {
			return slices.IsSortedFunc(all, slices.Compare) && len(slices.CompactFunc(slices.Clone(all), slices.Equal)) == len(all)
		}
		if codeOfImages != impl.OK || codeOfKernels != impl.OK || !inOrder(images) || !inOrder(kernels) || len(images) == 0 || len(kernels) == 0 {
			t.Errorf("%v: the least images are %v, the least kernels %v", a, images, kernels)
		}
		if rank > 1 && len(images) > 1 && len(kernels) > 1 {
			several++
		}
		for _, kernel := range kernels {
			if _, code := impl.IsCongruence(a, kernel); code != impl.OK || slices.Max(kernel)+1 != rank {
				t.Errorf("LeastKernels(%v): %v is no division with %d classes", a, kernel, rank)
			}
			for _, image := range images {
				var crossed []int64
				for _, s := range image {
					crossed = append(crossed, kernel[s])
				}
				slices.Sort(crossed)
				if !slices.Equal(crossed, upTo(rank)) {
					t.Errorf("%v: the image %v does not cross the kernel %v", a, image, kernel)
				}
			}
		}
	}
	if several < 100 {
		t.Errorf("only %d automata have several images and several kernels", several)
	}
}

// TestPromise7WordsLeadThere tells that SetWord leads to just the sets that ReachedSets returns, and to no others.
func TestPromise7WordsLeadThere(t *testing.T) {
	for _, a := range slices.Concat(permutationAutomata(), betweenAutomata(), resetAutomata(), dividedAutomata(20, 8)) {
		reached, _ := impl.ReachedSets(a)
		for _, set := range subsets(a.States) {
			isReached := slices.ContainsFunc(reached, func(other []int64) bool { return slices.Equal(other, set) })
			w, code := impl.SetWord(a, set)
			if isReached && (code != impl.OK || !slices.Equal(modelImage(a, upTo(a.States), w), set)) || !isReached && code != impl.ErrNotFound {
				t.Errorf("SetWord(%v, %v): got %v %d", a, set, w, code)
			}
		}
	}
}

// TestPromise7LongFirstWords takes automata with ten states, whose sets and kernels are found late.
func TestPromise7LongFirstWords(t *testing.T) {
	late := auto(10, list(8, 3, 7, 9, 0, 4, 7, 3, 6, 2), list(3, 7, 3, 2, 5, 8, 7, 9, 6, 2), list(1, 5, 2, 3, 8, 6, 4, 7, 0, 9))
	reached, _ := impl.ReachedSets(late)
	longest := 0
	for i, set := range reached {
		w, _ := impl.SetWord(late, set)
		longest = max(longest, len(w))
		if i%20 == 0 || len(w) > 135 {
			named("SetWord").compare(t, late, set)
		}
	}
	if longest != 142 {
		t.Errorf("the longest first word has %d letters", longest)
	}
	many := auto(10, list(9, 6, 3, 2, 4, 5, 1, 7, 6, 0), list(5, 1, 4, 8, 6, 0, 3, 9, 0, 7), list(5, 4, 0, 9, 9, 9, 4, 7, 9, 0))
	for _, a := range []impl.Automaton{late, many, slow(10)} {
		for _, name := range []string{"RankWord", "LeastImages", "LeastKernels", "ReachedSets", "IsFullyReached"} {
			named(name).compare(t, a)
		}
	}
}
