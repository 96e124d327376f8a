package tests

import (
	"math"
	"math/rand"
	"slices"
	"strings"

	"loop.example/g01102/impl"
)

// toggle is the machine of the document's example, which outputs 0 and 1 by turns.
func toggle() impl.Machine { return bell(2) }

const toggleText = "machine 2 2 1\nletter 1/0 0/1\n"

// copiedMachine returns a machine with the same lists in other memory.
func copiedMachine(m impl.Machine) impl.Machine {
	return machine(m.States, m.Outputs, copiedLists(m.Next), copiedLists(m.Out))
}

func copiedLists(all [][]int64) [][]int64 {
	var out [][]int64
	for _, each := range all {
		out = append(out, slices.Clone(each))
	}
	return out
}

// shortSuites are suites of words that are the beginning of others, that are told twice, or that tell nothing, for machines with so many letters.
func shortSuites(letters int) [][][]int64 {
	all := [][][]int64{
		nil, {}, words("-"), words("-", "-"), words("a"), words("a", "a"), words("-", "a"), words("a", "-"), words("aa"), words("a", "aa"), words("aa", "a"), words("aaa", "a", "aa"), words("a", "aa", "aaa", "aa", "-"),
		words("aaaa", "aaaaaaaa"), words("b"), words("a", "b"), words("b", "a"), words("ab", "ba"), words("b", "ab", "a", "abb"), words("aab", "aa", "ba", "b", "bab"), words("abab", "ab", "aba", "abaa", "b"), words("ba", "b", "bb", "a"),
		words("c"), words("a", "b", "c"), words("cab", "ca", "c", "abc", "ab"),
	}
	return slices.DeleteFunc(all, func(suite [][]int64) bool { return !usesLetters(suite, letters) })
}

// usesLetters reports whether all words of a suite are words of so many letters.
func usesLetters(suite [][]int64, letters int) bool {
	return modelAllBelow(slices.Concat(suite...), int64(letters))
}

// wrongSuites are no suites for any machine.
func wrongSuites() [][][]int64 {
	wrong := [][][]int64{lists(list(-1)), lists(list(3)), lists(list(0), list(0, 3)), lists(nil, list(-1, 0)), lists(list(math.MinInt64)), lists(list(math.MaxInt64)),
		lists(repeated(0, impl.MaxWord+1)), lists(repeated(0, impl.MaxWord), repeated(0, impl.MaxWord+1)), slices.Repeat(lists(list(0)), impl.MaxSuite+1), make([][]int64, impl.MaxSuite+1)}
	return append(wrong, append(slices.Repeat(lists(list(0)), impl.MaxSuite-1), list(4)))
}

// fullSuites are at the limits.
func fullSuites() [][][]int64 {
	return [][][]int64{make([][]int64, impl.MaxSuite), slices.Repeat(words("a", "aa"), impl.MaxSuite/2), lists(repeated(0, impl.MaxWord), repeated(0, impl.MaxWord-1))}
}

// randomSuite returns a suite for a machine; some words go on with others, and some are told again.
func randomSuite(source *rand.Rand, m impl.Machine, most, longest int) [][]int64 {
	var suite [][]int64
	for range source.Intn(most + 1) {
		w := randomWord(source, m, longest)
		if len(suite) > 0 && source.Intn(3) == 0 {
			before := suite[source.Intn(len(suite))]
			w = slices.Concat(before[:source.Intn(len(before)+1)], w[:source.Intn(len(w)+1)])
			w = w[:min(len(w), longest)]
		}
		suite = append(suite, w)
	}
	return suite
}

// coveredMachines are machines of many kinds all states of which can be reached, and no two of which are equivalent.
func coveredMachines() []impl.Machine {
	return slices.DeleteFunc(append(manyMachines(), renumberedCover(300)...), func(m impl.Machine) bool { return !isCovered(m) })
}

func isCovered(m impl.Machine) bool {
	_, code := modelStateCover(m)
	_, other := modelTellingSet(m)
	return code == impl.OK && other == impl.OK
}

// renumberedCover returns machines whose states can be reached, but in other orders than their numbers tell.
func renumberedCover(count int) []impl.Machine {
	source := rand.New(rand.NewSource(7))
	var all []impl.Machine
	for range count {
		m := machine(2+source.Int63n(7), 2+source.Int63n(2), nil, nil)
		order := source.Perm(int(m.States))
		for letter := range 1 + source.Intn(3) {
			next, out := make([]int64, m.States), make([]int64, m.States)
			for i, s := range order {
				next[s], out[s] = source.Int63n(m.States), source.Int63n(m.Outputs)
				if letter == 0 {
					next[s] = int64(order[(i+1)%len(order)])
				}
			}
			m.Next, m.Out = append(m.Next, next), append(m.Out, out)
		}
		all = append(all, m)
	}
	return all
}

// crowded has a machine for which a complete suite has so many words before those that are not maximal are left out.
type crowded struct {
	extra  int64
	before int
	text   string
}

// crowdedMachines reach MaxSuite words, or pass it.
func crowdedMachines() []crowded {
	return []crowded{
		{1, 400, "machine 10 2 3\nletter 8/0 1/0 6/0 4/0 7/0 0/0 0/0 3/0 4/0 3/0\nletter 1/0 2/0 8/0 3/0 8/0 8/0 1/0 5/1 5/0 9/0\nletter 9/0 9/0 6/0 1/0 5/0 3/0 0/0 5/0 9/0 9/0\n"},
		{1, 400, "machine 10 2 3\nletter 8/0 1/0 6/0 4/0 7/0 0/0 0/0 3/0 4/0 3/0\nletter 1/0 2/0 8/0 8/0 8/0 8/0 1/0 5/1 5/0 9/0\nletter 9/0 9/0 6/0 1/0 5/0 3/0 0/0 5/0 9/0 9/0\n"},
		{1, 401, "machine 10 2 3\nletter 8/0 1/0 6/0 4/0 7/0 0/0 0/0 8/0 4/0 3/0\nletter 2/0 9/0 8/0 8/0 3/0 8/0 1/0 5/1 0/0 9/0\nletter 9/0 0/0 9/0 5/0 8/0 4/0 0/0 9/1 0/0 9/0\n"},
		{1, 401, "machine 10 2 3\nletter 8/0 1/0 6/0 4/0 7/0 0/0 0/0 8/0 4/0 3/0\nletter 2/0 9/0 8/0 8/0 3/0 8/0 1/0 5/1 0/0 9/0\nletter 9/0 0/0 9/0 5/0 8/0 5/0 0/0 9/1 0/0 9/0\n"},
	}
}

// chapter7 are the functions of chapter 7, with their models.
func chapter7() []function {
	return []function{
		{"ValidSuite", impl.ValidSuite, modelValidSuite},
		{"SuiteText", impl.SuiteText, modelSuiteText},
		{"ReadSuite", impl.ReadSuite, modelReadSuite},
		{"SuiteCost", impl.SuiteCost, modelSuiteCost},
		{"FirstFailing", impl.FirstFailing, modelFirstFailing},
		{"Passes", impl.Passes, modelPasses},
		{"StateCover", impl.StateCover, modelStateCover},
		{"TransitionCover", impl.TransitionCover, modelTransitionCover},
		{"MaximalWords", impl.MaximalWords, modelMaximalWords},
		{"CompleteSuite", impl.CompleteSuite, modelCompleteSuite},
		{"FirstSurvivor", impl.FirstSurvivor, modelFirstSurvivor},
		{"MutantCount", impl.MutantCount, modelMutantCount},
		{"MutantAt", impl.MutantAt, modelMutantAt},
		{"KilledBy", impl.KilledBy, modelKilledBy},
		{"CoverageOf", impl.CoverageOf, modelCoverageOf},
		{"ShrinkSuite", impl.ShrinkSuite, modelShrinkSuite},
		{"Candidates", impl.Candidates, modelCandidates},
		{"BestWord", impl.BestWord, modelBestWord},
	}
}

// someSuiteTexts are texts of suites, and others.
func someSuiteTexts() []string {
	return append(someTexts(), "-\n", "a\n", "a\n-\n", "ab\nba\ncc\n", "-\nab\n", "a\nb", "a\n\nb\n", "\n\n", "-a\n", "a-\n", "d\n", "a b\n", "a\r\n", toggleText,
		strings.Repeat("-\n", impl.MaxSuite), strings.Repeat("-\n", impl.MaxSuite+1), strings.Repeat("a", impl.MaxWord)+"\n", strings.Repeat("a", impl.MaxWord+1)+"\n", strings.Repeat("x", impl.MaxSuiteText), strings.Repeat("x", impl.MaxSuiteText+1))
}
