package tests

import (
	"math/rand"
	"slices"

	"loop.example/g01102/impl"
)

// word returns the letters of a text.
func word(text string) []int64 {
	w, code := modelReadWord(text)
	if code != impl.OK {
		panic("no word: " + text)
	}
	return w
}

func words(texts ...string) [][]int64 {
	var out [][]int64
	for _, text := range texts {
		out = append(out, word(text))
	}
	return out
}

// slow is SlowAutomaton, without a call.
func slow(n int64) impl.Automaton {
	a, _ := modelSlowAutomaton(n)
	return a
}

func merging(all ...[]int64) impl.Certificate {
	return impl.Certificate{Kind: impl.CtMerges, Words: all}
}

func apart(pairs ...[]int64) impl.Certificate {
	return impl.Certificate{Kind: impl.CtApart, Pairs: pairs}
}

// mixed has a stable pair, a pair that never meets, and four pairs that can meet and be led to that pair: [2 3], [0 1], and the others.
func mixed() impl.Automaton { return auto(4, list(0, 1, 0, 0), list(1, 0, 0, 0)) }

// twins lead the states 2 * c and 2 * c + 1 around together and merge them, so that these pairs are stable and the others never meet.
func twins(n int64) impl.Automaton {
	a := auto(2*n, make([]int64, 2*n), make([]int64, 2*n))
	for s := range 2 * n {
		a.Next[0][s] = (s + 2) % (2 * n)
		a.Next[1][s] = s - s%2
	}
	return a
}

// resetAutomata can be reset.
func resetAutomata() []impl.Automaton {
	return []impl.Automaton{
		auto(1, list(0)),
		auto(1, list(0), list(0), list(0)),
		auto(2, list(0, 0), list(1, 1)),
		auto(2, list(1, 0), list(0, 1), list(1, 1)),
		auto(3, list(1, 2, 2)),
		auto(3, list(1, 2, 2), list(0, 0, 0)),
		auto(3, list(0, 1, 1), list(0, 0, 2)),
		slow(3),
		slow(5),
		auto(7, list(1, 2, 3, 4, 5, 6, 6), list(0, 1, 2, 3, 4, 5, 6)),
		slow(10),
		auto(10, upTo(10), list(0, 0, 1, 2, 3, 4, 5, 6, 7, 8), list(9, 8, 7, 6, 5, 4, 3, 2, 1, 0)),
	}
}

// stuckAutomata can not be reset: in some no pair meets, in others some pairs do.
func stuckAutomata() []impl.Automaton {
	return []impl.Automaton{
		auto(2, list(0, 1)),
		auto(2, list(1, 0), list(0, 1), list(1, 0)),
		auto(3, list(1, 0, 0)),
		auto(4, list(1, 1, 3, 3)),
		mixed(),
		cycle(4),
		auto(5, list(0, 1, 2, 3, 3), list(1, 0, 3, 2, 4)),
		twins(3),
		twins(5),
		cycle(10),
	}
}

// dividedAutomata returns automata whose letters lead classes of states to classes, often each one to another one, so that many of them have stable pairs beside pairs that never meet; always the same ones.
func dividedAutomata(count int, most int64) []impl.Automaton {
	source := rand.New(rand.NewSource(17))
	var out []impl.Automaton
	for range count {
		a := auto(3 + source.Int63n(most-2))
		classes := 1 + source.Intn(4)
		members := make([][]int64, classes)
		for s := range a.States {
			// The first states fill the classes, so that none of them is empty.
			c := source.Intn(classes)
			if int(s) < classes {
				c = int(s)
			}
			members[c] = append(members[c], s)
		}
		members = slices.DeleteFunc(members, func(class []int64) bool { return len(class) == 0 })
		for range 1 + source.Intn(3) {
			a.Next = append(a.Next, dividedLetter(source, a.States, members))
		}
		out = append(out, a)
	}
	return out
}

func dividedLetter(source *rand.Rand, states int64, members [][]int64) []int64 {
	next := make([]int64, states)
	order := source.Perm(len(members))
	if source.Intn(4) == 0 {
		order[0] = order[len(order)-1]
	}
	for c, class := range members {
		goal := members[order[c]]
		for i, s := range class {
			next[s] = goal[i%len(goal)]
			if source.Intn(3) == 0 {
				next[s] = goal[source.Intn(len(goal))]
			}
		}
	}
	return next
}

// variedAutomata returns automata of all kinds that matter for reset words.
func variedAutomata() []impl.Automaton {
	return slices.Concat(smallAutomata(), allAutomata(2, 3), validAutomata(), resetAutomata(), stuckAutomata(), randomAutomata(100, 4, 8), dividedAutomata(150, 8))
}

// chapter2 are the functions of chapter 2, with their models.
func chapter2() []function {
	return []function{
		{"IsReset", impl.IsReset, modelIsReset},
		{"CanReset", impl.CanReset, modelCanReset},
		{"ShortestReset", impl.ShortestReset, modelShortestReset},
		{"ShortestTo", impl.ShortestTo, modelShortestTo},
		{"ShortestFor", impl.ShortestFor, modelShortestFor},
		{"TargetsOf", impl.TargetsOf, modelTargetsOf},
		{"MergingWord", impl.MergingWord, modelMergingWord},
		{"PairTable", impl.PairTable, modelPairTable},
		{"GreedyReset", impl.GreedyReset, modelGreedyReset},
		{"CountResets", impl.CountResets, modelCountResets},
		{"StablePairs", impl.StablePairs, modelStablePairs},
		{"StableDivision", impl.StableDivision, modelStableDivision},
		{"FindCertificate", impl.FindCertificate, modelFindCertificate},
		{"CheckCertificate", impl.CheckCertificate, modelCheckCertificate},
		{"WordOfCertificate", impl.WordOfCertificate, modelWordOfCertificate},
		{"SlowAutomaton", impl.SlowAutomaton, modelSlowAutomaton},
		{"ResetBound", impl.ResetBound, modelResetBound},
	}
}
