package tests

import (
	"slices"

	"loop.example/g01102/impl"
)

// traps leads the states 0, 1 and 2 to one by "bbb". By a, they are fewer sooner, but then they are two that never meet.
func traps() impl.Automaton {
	return auto(6, list(3, 3, 4, 3, 4, 5), list(1, 2, 5, 3, 4, 5))
}

// pairedCycle leads n pairs of states around. On the way from the last pair to the first one, the states of a pair change places by a, and meet by b.
func pairedCycle(n int64) impl.Automaton {
	around := make([]int64, 2*n)
	for s := range around {
		around[s] = (int64(s) + 2) % (2 * n)
	}
	swap, meet := slices.Clone(around), slices.Clone(around)
	swap[2*n-2], swap[2*n-1] = 1, 0
	meet[2*n-2], meet[2*n-1] = 0, 0
	return auto(2*n, swap, meet)
}

// crossed has two kernels and two images of its least rank.
func crossed() impl.Automaton { return auto(4, list(0, 0, 2, 2), list(1, 2, 3, 0)) }

// uneven has a kernel of its least rank whose classes have different numbers of states.
func uneven() impl.Automaton { return auto(4, list(0, 0, 1, 3), list(3, 3, 3, 2)) }

// permutationAutomata have letters that lead from different states to different ones.
func permutationAutomata() []impl.Automaton {
	return []impl.Automaton{
		auto(1, list(0)),
		auto(2, list(0, 1)),
		auto(2, list(1, 0), list(0, 1), list(1, 0)),
		auto(3, list(1, 2, 0), list(1, 0, 2)),
		auto(4, list(1, 0, 3, 2), list(2, 3, 0, 1)),
		auto(6, list(1, 0, 3, 4, 5, 2), list(0, 1, 2, 3, 4, 5)),
		cycle(10),
	}
}

// betweenAutomata can not be reset, but have words that lead to fewer states; the first ones are not connected.
func betweenAutomata() []impl.Automaton {
	return []impl.Automaton{
		auto(3, list(1, 0, 0)),
		auto(4, list(1, 1, 3, 3)),
		mixed(),
		traps(),
		twins(5),
		auto(4, list(2, 3, 0, 1), list(3, 3, 1, 1)),
		crossed(),
		uneven(),
		pairedCycle(2),
		pairedCycle(3),
		pairedCycle(5),
	}
}

// connectedAutomata returns automata of all ranks that are connected.
func connectedAutomata() []impl.Automaton {
	all := slices.Concat(variedAutomata(), permutationAutomata(), betweenAutomata(), tiedAutomata(), dividedAutomata(500, 10), randomAutomata(100, 9, 10))
	return slices.DeleteFunc(all, func(a impl.Automaton) bool {
		connected, code := modelIsConnected(a)
		return code != impl.OK || !connected
	})
}

// rankedAutomata returns automata of all kinds that matter for ranks.
func rankedAutomata() []impl.Automaton {
	return slices.Concat(variedAutomata(), permutationAutomata(), betweenAutomata())
}

// fourStates returns every thirteenth automaton with four states and two letters.
func fourStates() []impl.Automaton {
	var out []impl.Automaton
	for i, a := range allAutomata(4, 2) {
		if i%13 == 0 {
			out = append(out, a)
		}
	}
	return out
}

// chapter3 are the functions of chapter 3, with their models.
func chapter3() []function {
	return []function{
		{"RankOfWord", impl.RankOfWord, modelRankOfWord},
		{"RankOf", impl.RankOf, modelRankOf},
		{"RankOfSet", impl.RankOfSet, modelRankOfSet},
		{"RankWord", impl.RankWord, modelRankWord},
		{"LeastImages", impl.LeastImages, modelLeastImages},
		{"KernelOf", impl.KernelOf, modelKernelOf},
		{"LeastKernels", impl.LeastKernels, modelLeastKernels},
		{"CountByRank", impl.CountByRank, modelCountByRank},
		{"WeightsOf", impl.WeightsOf, modelWeightsOf},
		{"WeightOfSet", impl.WeightOfSet, modelWeightOfSet},
		{"ExtendWord", impl.ExtendWord, modelExtendWord},
		{"ReachedSets", impl.ReachedSets, modelReachedSets},
		{"SetWord", impl.SetWord, modelSetWord},
		{"IsFullyReached", impl.IsFullyReached, modelIsFullyReached},
	}
}
