package tests

import (
	"math"
	"reflect"
	"slices"
	"testing"

	"loop.example/g01102/impl"
)

// someCertificates are right for some automata, and wrong in some way for the others.
func someCertificates() []impl.Certificate {
	return []impl.Certificate{
		{},
		{Kind: impl.CtMerges, Pairs: lists(), Words: lists()},
		{Kind: impl.CtApart, Pairs: lists(), Words: lists()},
		merging(word("a")),
		merging(nil),
		merging(list(), list(), list()),
		merging(words("a", "b", "ab")...),
		merging(words("aab", "b", "ab")...),
		merging(words("aa", "aa", "aa")...),
		merging(list(math.MinInt64), list(math.MaxInt64), list(3)),
		merging(repeated(0, 400), repeated(1, 400), repeated(0, 401)),
		merging(slices.Repeat(words("a"), 45)...),
		apart(list(0, 1)),
		apart(list(1, 0)),
		apart(list(0, 1), list(0, 2)),
		apart(nil, list(0), list(0, 1, 2)),
		apart(list(math.MinInt64, math.MaxInt64)),
		apart(modelPairs(upTo(10))...),
		{Kind: 3, Pairs: lists(list(0, 1))},
		{Kind: -1, Words: words("a")},
		{Kind: math.MaxInt64},
		{Kind: impl.CtMerges, Pairs: lists(list(0, 1)), Words: words("a")},
		{Kind: impl.CtApart, Pairs: lists(list(0, 1)), Words: words("a")},
	}
}

func chapter2Pools() pools {
	automata := slices.Concat(invalidAutomata(), validAutomata(), resetAutomata(), stuckAutomata())
	numbers := list(-1, 0, 1, 2, 4, 9, 10, 11, 20, 21, math.MinInt64, math.MaxInt64)
	return pools{
		reflect.TypeFor[impl.Automaton]():   anyOf(automata),
		reflect.TypeFor[[]int64]():          anyOf(someLists()),
		reflect.TypeFor[int64]():            anyOf(numbers),
		reflect.TypeFor[impl.Certificate](): anyOf(someCertificates()),
	}
}

// TestPromise1Chapter2 calls each function with all choices of arguments, right and wrong ones, and compares what it returns with its model, where the conventions of each call are checked as well.
func TestPromise1Chapter2(t *testing.T) {
	all := chapter2Pools()
	for _, f := range chapter2() {
		t.Run(f.name, func(t *testing.T) {
			t.Parallel()
			f.compareAll(t, all)
		})
	}
}

// TestPromise1TogetherChapter2 calls the functions from several goroutines with the same arguments: what they return depends on nothing else.
func TestPromise1TogetherChapter2(t *testing.T) {
	a, b := slow(7), twins(4)
	answers := func() []any {
		var out []any
		add := func(results ...any) { out = append(out, results...) }
		shortest, code := impl.ShortestReset(a)
		add(shortest, code)
		greedy, code := impl.GreedyReset(a)
		add(greedy, code)
		count, code := impl.CountResets(a, impl.MaxCounted)
		add(count, code)
		class, code := impl.StableDivision(b)
		add(class, code)
		for _, each := range []impl.Automaton{a, b} {
			found, code := impl.FindCertificate(each)
			add(found, code)
			joined, code := impl.WordOfCertificate(each, found)
			add(joined, code)
		}
		return out
	}
	agreeTogether(t, answers)
}

// TestPromise1LargeArgumentsChapter2 gives arguments far beyond all limits.
func TestPromise1LargeArgumentsChapter2(t *testing.T) {
	const size = 1 << 20
	long := make([]int64, size)
	wide := impl.Automaton{States: 1, Next: make([][]int64, size)}
	a := slow(3)
	if yes, code := impl.CanReset(wide); yes || code != impl.ErrInvalid {
		t.Errorf("CanReset of a large automaton: %v %d", yes, code)
	}
	if yes, code := impl.IsReset(a, long); yes || code != impl.ErrRange {
		t.Errorf("IsReset of a large word: %v %d", yes, code)
	}
	if w, code := impl.ShortestFor(a, long); len(w) > 0 || code != impl.ErrRange {
		t.Errorf("ShortestFor a large set: %v %d", w, code)
	}
	for _, c := range []impl.Certificate{
		merging(make([][]int64, size)...),
		merging(long, long, long),
		apart(make([][]int64, size)...),
		apart(long),
		apart(slices.Repeat(lists(list(0, 1)), size)...),
	} {
		if yes, code := impl.CheckCertificate(a, c); yes || code != impl.OK {
			t.Errorf("CheckCertificate of a large one: %v %d", yes, code)
		}
		if w, code := impl.WordOfCertificate(a, c); len(w) > 0 || code != impl.ErrProof {
			t.Errorf("WordOfCertificate of a large one: %v %d", w, code)
		}
	}
}

// TestPromise1FirstErrorsChapter2 gives functions several wrong arguments at once: the error that the document lists first is returned.
func TestPromise1FirstErrorsChapter2(t *testing.T) {
	bad, stuck := auto(2, list(0, 2)), cycle(3)
	wrong := impl.Certificate{Kind: 7}
	returnErrors(t, []wrongCall{
		{"IsReset", impl.IsReset, []any{bad, list(7)}, impl.ErrInvalid, []any{false}},
		{"ShortestTo", impl.ShortestTo, []any{bad, -1}, impl.ErrInvalid, []any{nil}},
		{"ShortestTo", impl.ShortestTo, []any{stuck, 3}, impl.ErrRange, []any{nil}},
		{"ShortestFor", impl.ShortestFor, []any{bad, list(1, 0)}, impl.ErrInvalid, []any{nil}},
		{"ShortestFor", impl.ShortestFor, []any{stuck, list(0, 1, 1)}, impl.ErrRange, []any{nil}},
		{"MergingWord", impl.MergingWord, []any{bad, -1, 9}, impl.ErrInvalid, []any{nil}},
		{"MergingWord", impl.MergingWord, []any{stuck, 0, 3}, impl.ErrRange, []any{nil}},
		{"CountResets", impl.CountResets, []any{bad, 21}, impl.ErrInvalid, []any{0}},
		{"CheckCertificate", impl.CheckCertificate, []any{bad, wrong}, impl.ErrInvalid, []any{false}},
		{"WordOfCertificate", impl.WordOfCertificate, []any{bad, wrong}, impl.ErrInvalid, []any{nil}},
		{"WordOfCertificate", impl.WordOfCertificate, []any{slow(3), apart(list(0, 1))}, impl.ErrProof, []any{nil}},
		{"WordOfCertificate", impl.WordOfCertificate, []any{stuck, apart(modelPairs(upTo(3))...)}, impl.ErrState, []any{nil}},
		// These words would be too long as well, but the last one does not merge its pair.
		{"WordOfCertificate", impl.WordOfCertificate, []any{slow(3), merging(append(repeated(0, 398), 1), append(repeated(0, 399), 1), list(0))}, impl.ErrProof, []any{nil}},
	})
}

// TestPromise1InvalidAutomataChapter2 tells that no function takes an automaton that is not valid.
func TestPromise1InvalidAutomataChapter2(t *testing.T) {
	for _, bad := range invalidAutomata() {
		expect(t, "IsReset", impl.IsReset, []any{bad, nil}, []any{false, impl.ErrInvalid})
		expect(t, "CanReset", impl.CanReset, []any{bad}, []any{false, impl.ErrInvalid})
		expect(t, "ShortestReset", impl.ShortestReset, []any{bad}, []any{nil, impl.ErrInvalid})
		expect(t, "ShortestTo", impl.ShortestTo, []any{bad, 0}, []any{nil, impl.ErrInvalid})
		expect(t, "ShortestFor", impl.ShortestFor, []any{bad, nil}, []any{nil, impl.ErrInvalid})
		expect(t, "TargetsOf", impl.TargetsOf, []any{bad}, []any{nil, impl.ErrInvalid})
		expect(t, "MergingWord", impl.MergingWord, []any{bad, 0, 0}, []any{nil, impl.ErrInvalid})
		expect(t, "PairTable", impl.PairTable, []any{bad}, []any{nil, impl.ErrInvalid})
		expect(t, "GreedyReset", impl.GreedyReset, []any{bad}, []any{nil, impl.ErrInvalid})
		expect(t, "CountResets", impl.CountResets, []any{bad, 0}, []any{0, impl.ErrInvalid})
		expect(t, "StablePairs", impl.StablePairs, []any{bad}, []any{nil, impl.ErrInvalid})
		expect(t, "StableDivision", impl.StableDivision, []any{bad}, []any{nil, impl.ErrInvalid})
		expect(t, "FindCertificate", impl.FindCertificate, []any{bad}, []any{impl.Certificate{}, impl.ErrInvalid})
		expect(t, "CheckCertificate", impl.CheckCertificate, []any{bad, merging()}, []any{false, impl.ErrInvalid})
		expect(t, "WordOfCertificate", impl.WordOfCertificate, []any{bad, merging()}, []any{nil, impl.ErrInvalid})
	}
}
