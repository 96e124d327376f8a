package tests

import (
	"math"
	"reflect"
	"slices"
	"testing"

	"loop.example/g01102/impl"
)

func chapter3Pools() pools {
	automata := slices.Concat(invalidAutomata(), validAutomata(), resetAutomata(), permutationAutomata(), betweenAutomata())
	numbers := list(-1, 0, 1, 2, 7, 19, 20, 21, 400, math.MinInt64, math.MaxInt64)
	return pools{
		reflect.TypeFor[impl.Automaton](): anyOf(automata),
		reflect.TypeFor[[]int64]():        anyOf(someLists()),
		reflect.TypeFor[int64]():          anyOf(numbers),
	}
}

// TestPromise1Chapter3 calls each function with all choices of arguments, right and wrong ones, and compares what it returns with its model, where the conventions of each call are checked as well.
func TestPromise1Chapter3(t *testing.T) {
	all := chapter3Pools()
	for _, f := range chapter3() {
		t.Run(f.name, func(t *testing.T) {
			t.Parallel()
			f.compareAll(t, all)
		})
	}
}

// TestPromise1TogetherChapter3 calls the functions from several goroutines with the same arguments: what they return depends on nothing else.
func TestPromise1TogetherChapter3(t *testing.T) {
	answers := func() []any {
		var out []any
		add := func(results ...any) { out = append(out, results...) }
		for _, a := range []impl.Automaton{slow(6), crossed(), pairedCycle(4)} {
			images, code := impl.LeastImages(a)
			add(images, code)
			kernels, code := impl.LeastKernels(a)
			add(kernels, code)
			counts, code := impl.CountByRank(a, impl.MaxCounted)
			add(counts, code)
			weights, code := impl.WeightsOf(a)
			add(weights, code)
			reached, code := impl.ReachedSets(a)
			add(reached, code)
			for _, set := range subsets(a.States) {
				w, code := impl.ExtendWord(a, set)
				add(w, code)
				w, code = impl.SetWord(a, set)
				add(w, code)
			}
		}
		return out
	}
	agreeTogether(t, answers)
}

// TestPromise1LargeArgumentsChapter3 gives arguments far beyond all limits.
func TestPromise1LargeArgumentsChapter3(t *testing.T) {
	const size = 1 << 20
	long := make([]int64, size)
	wide := impl.Automaton{States: 1, Next: make([][]int64, size)}
	many := impl.Automaton{States: size, Next: lists(long)}
	a := slow(3)
	returnErrors(t, []wrongCall{
		{"RankOfWord", impl.RankOfWord, []any{a, long}, impl.ErrRange, []any{0}},
		{"RankOfSet", impl.RankOfSet, []any{a, long}, impl.ErrRange, []any{0}},
		{"KernelOf", impl.KernelOf, []any{a, long}, impl.ErrRange, []any{nil}},
		{"WeightOfSet", impl.WeightOfSet, []any{a, long}, impl.ErrRange, []any{0}},
		{"ExtendWord", impl.ExtendWord, []any{a, long}, impl.ErrRange, []any{nil}},
		{"SetWord", impl.SetWord, []any{a, long}, impl.ErrRange, []any{nil}},
	})
	for _, large := range []impl.Automaton{wide, many} {
		if rank, code := impl.RankOf(large); rank != 0 || code != impl.ErrInvalid {
			t.Errorf("RankOf a large automaton: %d %d", rank, code)
		}
		if weights, code := impl.WeightsOf(large); len(weights) > 0 || code != impl.ErrInvalid {
			t.Errorf("WeightsOf a large automaton: %d %d", len(weights), code)
		}
		if kernels, code := impl.LeastKernels(large); len(kernels) > 0 || code != impl.ErrInvalid {
			t.Errorf("LeastKernels of a large automaton: %d %d", len(kernels), code)
		}
	}
}

// TestPromise1AllKernels takes an automaton whose words have all divisions of ten states as their kernels, and lead to all sets.
func TestPromise1AllKernels(t *testing.T) {
	a := auto(10, append(upTo(10)[1:], 0), append(list(1, 0), upTo(10)[2:]...), append(list(0, 0), upTo(10)[2:]...))
	expect(t, "LeastKernels", impl.LeastKernels, []any{a}, []any{lists(repeated(0, 10)), impl.OK})
	expect(t, "IsFullyReached", impl.IsFullyReached, []any{a}, []any{true, impl.OK})
}

// TestPromise1FirstErrorsChapter3 gives functions several wrong arguments at once: the error that the document lists first is returned.
func TestPromise1FirstErrorsChapter3(t *testing.T) {
	bad, loose := auto(2, list(0, 2)), auto(3, list(1, 0, 0))
	returnErrors(t, []wrongCall{
		{"RankOfWord", impl.RankOfWord, []any{bad, list(7)}, impl.ErrInvalid, []any{0}},
		{"RankOfSet", impl.RankOfSet, []any{bad, list(1, 0)}, impl.ErrInvalid, []any{0}},
		{"KernelOf", impl.KernelOf, []any{bad, list(7)}, impl.ErrInvalid, []any{nil}},
		{"CountByRank", impl.CountByRank, []any{bad, 21}, impl.ErrInvalid, []any{nil}},
		{"WeightOfSet", impl.WeightOfSet, []any{bad, list(1, 0)}, impl.ErrInvalid, []any{0}},
		{"WeightOfSet", impl.WeightOfSet, []any{loose, list(1, 0)}, impl.ErrRange, []any{0}},
		{"WeightOfSet", impl.WeightOfSet, []any{loose, list(1)}, impl.ErrState, []any{0}},
		{"ExtendWord", impl.ExtendWord, []any{bad, list(1, 0)}, impl.ErrInvalid, []any{nil}},
		{"ExtendWord", impl.ExtendWord, []any{loose, list(0, 3)}, impl.ErrRange, []any{nil}},
		{"ExtendWord", impl.ExtendWord, []any{loose, nil}, impl.ErrState, []any{nil}},
		{"ExtendWord", impl.ExtendWord, []any{loose, upTo(3)}, impl.ErrState, []any{nil}},
		{"ExtendWord", impl.ExtendWord, []any{cycle(3), list(0, 3)}, impl.ErrRange, []any{nil}},
		{"SetWord", impl.SetWord, []any{bad, list(1, 0)}, impl.ErrInvalid, []any{nil}},
		{"SetWord", impl.SetWord, []any{loose, list(2, 0)}, impl.ErrRange, []any{nil}},
		{"SetWord", impl.SetWord, []any{loose, list(2)}, impl.ErrNotFound, []any{nil}},
	})
}

// TestPromise1InvalidAutomataChapter3 tells that no function takes an automaton that is not valid.
func TestPromise1InvalidAutomataChapter3(t *testing.T) {
	for _, bad := range invalidAutomata() {
		expect(t, "RankOfWord", impl.RankOfWord, []any{bad, nil}, []any{0, impl.ErrInvalid})
		expect(t, "RankOf", impl.RankOf, []any{bad}, []any{0, impl.ErrInvalid})
		expect(t, "RankOfSet", impl.RankOfSet, []any{bad, nil}, []any{0, impl.ErrInvalid})
		expect(t, "RankWord", impl.RankWord, []any{bad}, []any{nil, impl.ErrInvalid})
		expect(t, "LeastImages", impl.LeastImages, []any{bad}, []any{nil, impl.ErrInvalid})
		expect(t, "KernelOf", impl.KernelOf, []any{bad, nil}, []any{nil, impl.ErrInvalid})
		expect(t, "LeastKernels", impl.LeastKernels, []any{bad}, []any{nil, impl.ErrInvalid})
		expect(t, "CountByRank", impl.CountByRank, []any{bad, 0}, []any{nil, impl.ErrInvalid})
		expect(t, "WeightsOf", impl.WeightsOf, []any{bad}, []any{nil, impl.ErrInvalid})
		expect(t, "WeightOfSet", impl.WeightOfSet, []any{bad, nil}, []any{0, impl.ErrInvalid})
		expect(t, "ExtendWord", impl.ExtendWord, []any{bad, nil}, []any{nil, impl.ErrInvalid})
		expect(t, "ReachedSets", impl.ReachedSets, []any{bad}, []any{nil, impl.ErrInvalid})
		expect(t, "SetWord", impl.SetWord, []any{bad, nil}, []any{nil, impl.ErrInvalid})
		expect(t, "IsFullyReached", impl.IsFullyReached, []any{bad}, []any{false, impl.ErrInvalid})
	}
}
