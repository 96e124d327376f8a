package tests

import (
	"math"
	"reflect"
	"slices"
	"strings"
	"testing"

	"loop.example/g01102/impl"
)

func someGapTexts() []string {
	return append(someTexts(), gapText, choiceText,
		"partial 1 1\nletter .\n", "partial 1 1\nletter 0\n", "partial 1 1\nletter ,\n", "partial 1 1\nletter\n",
		"choice 1 1\nletter .\n", "choice 1 1\nletter 0\n", "choice 1 1\nletter 0,0\n", "choice 1 1\nletter 0,\n", "choice 1 1\nletter\n",
		strings.Repeat("partial ", 250), strings.Repeat("choice ", 286))
}

func chapter4Pools() pools {
	numbers := list(-1, 0, 1, 2, 3, 4, 10, 257, 1<<32+1, math.MinInt64, math.MaxInt64)
	return pools{
		reflect.TypeFor[impl.Partial](): anyOf(append(invalidPartials(), validPartials()...)),
		reflect.TypeFor[impl.Choice]():  anyOf(append(invalidChoices(), validChoices()...)),
		reflect.TypeFor[[]int64]():      anyOf(someLists()),
		reflect.TypeFor[int64]():        anyOf(numbers),
		reflect.TypeFor[string]():       anyOf(someGapTexts()),
	}
}

// TestPromise1Chapter4 calls each function with all choices of arguments, right and wrong ones, and compares what it returns with its model, where the conventions of each call are checked as well.
func TestPromise1Chapter4(t *testing.T) {
	all := chapter4Pools()
	for _, f := range chapter4() {
		t.Run(f.name, func(t *testing.T) {
			t.Parallel()
			f.compareAll(t, all)
		})
	}
}

// TestPromise1TogetherChapter4 calls the functions from several goroutines with the same arguments: what they return depends on nothing else.
func TestPromise1TogetherChapter4(t *testing.T) {
	answers := func() []any {
		var out []any
		add := func(results ...any) { out = append(out, results...) }
		for _, p := range slices.Concat(validPartials(), longWordPartials()) {
			w, code := impl.CarefulWord(p)
			add(w, code)
			a, code := impl.FirstFilling(p)
			add(a, code)
			w, code = impl.SurestWord(p)
			add(w, code)
			c, code := impl.ChoiceOf(p)
			add(c, code)
			w, code = impl.DirectingWord(c, impl.DirEqual)
			add(w, code)
		}
		for _, c := range validChoices() {
			for kind := range int64(4) {
				w, code := impl.DirectingWord(c, kind)
				add(w, code)
			}
		}
		return out
	}
	agreeTogether(t, answers)
}

// TestPromise1LargeArgumentsChapter4 gives arguments far beyond all limits.
func TestPromise1LargeArgumentsChapter4(t *testing.T) {
	const size = 1 << 20
	long := make([]int64, size)
	p, c := gapExample(), choiceExample()
	returnErrors(t, []wrongCall{
		{"FillGaps", impl.FillGaps, []any{p, long}, impl.ErrRange, []any{impl.Automaton{}}},
		{"CarefulImage", impl.CarefulImage, []any{p, long, nil}, impl.ErrRange, []any{nil}},
		{"CarefulImage", impl.CarefulImage, []any{p, nil, long}, impl.ErrRange, []any{nil}},
		{"IsCareful", impl.IsCareful, []any{p, long}, impl.ErrRange, []any{false}},
		{"ReachBy", impl.ReachBy, []any{c, long, nil}, impl.ErrRange, []any{nil}},
		{"ReachBy", impl.ReachBy, []any{c, nil, long}, impl.ErrRange, []any{nil}},
		{"Directs", impl.Directs, []any{c, long, impl.DirSame}, impl.ErrRange, []any{false}},
		{"ReadPartial", impl.ReadPartial, []any{strings.Repeat(".", size)}, impl.ErrRange, []any{impl.Partial{}}},
		{"ReadChoice", impl.ReadChoice, []any{strings.Repeat("0,", size)}, impl.ErrRange, []any{impl.Choice{}}},
	})
	for _, large := range []impl.Partial{{States: 1, Next: make([][]int64, size)}, {States: size, Next: lists(long)}} {
		if gaps, code := impl.GapsOf(large); len(gaps) > 0 || code != impl.ErrInvalid {
			t.Errorf("GapsOf a large partial automaton: %v %d", gaps, code)
		}
		if w, code := impl.SurestWord(large); len(w) > 0 || code != impl.ErrInvalid {
			t.Errorf("SurestWord of a large partial automaton: %v %d", w, code)
		}
	}
	for _, large := range []impl.Choice{
		{States: 1, Next: make([][][]int64, size)},
		{States: size, Next: [][][]int64{make([][]int64, size)}},
		{States: 1, Next: [][][]int64{lists(long)}},
	} {
		if text := impl.ChoiceText(large); text != "" {
			t.Errorf("ChoiceText of a large automaton has %d bytes", len(text))
		}
		if w, code := impl.DirectingWord(large, impl.DirMeet); len(w) > 0 || code != impl.ErrInvalid {
			t.Errorf("DirectingWord of a large automaton: %v %d", w, code)
		}
	}
}

// TestPromise1FirstErrorsChapter4 gives functions several wrong arguments at once: the error that the document lists first is returned.
func TestPromise1FirstErrorsChapter4(t *testing.T) {
	bad, p := partial(2, list(0, 2)), gapExample()
	full := partial(11, repeated(gap, 11), repeated(gap, 11))
	wrong, c := choice(2, lists(list(1, 0), nil)), choiceExample()
	far := repeated(0, impl.MaxWord+1)
	var none impl.Automaton
	returnErrors(t, []wrongCall{
		{"FillGaps", impl.FillGaps, []any{bad, list(7)}, impl.ErrInvalid, []any{none}},
		{"CarefulImage", impl.CarefulImage, []any{bad, list(1, 0), list(7)}, impl.ErrInvalid, []any{nil}},
		// The letter 0 cannot be read in the state 1, but a set and a word come first.
		{"CarefulImage", impl.CarefulImage, []any{p, list(1, 0), list(0)}, impl.ErrRange, []any{nil}},
		{"CarefulImage", impl.CarefulImage, []any{p, list(0, 1), list(0, 2)}, impl.ErrRange, []any{nil}},
		{"CarefulImage", impl.CarefulImage, []any{p, list(0, 1), far}, impl.ErrRange, []any{nil}},
		{"CarefulImage", impl.CarefulImage, []any{p, list(0, 1), list(0)}, impl.ErrState, []any{nil}},
		{"IsCareful", impl.IsCareful, []any{bad, list(7)}, impl.ErrInvalid, []any{false}},
		{"IsCareful", impl.IsCareful, []any{p, list(0, 2)}, impl.ErrRange, []any{false}},
		{"TrapCompletion", impl.TrapCompletion, []any{full}, impl.ErrInvalid, []any{none}},
		{"TrapCompletion", impl.TrapCompletion, []any{partial(10, list(0))}, impl.ErrInvalid, []any{none}},
		{"FirstFilling", impl.FirstFilling, []any{full}, impl.ErrInvalid, []any{none}},
		{"SurestWord", impl.SurestWord, []any{full}, impl.ErrInvalid, []any{nil}},
		{"ReadPartial", impl.ReadPartial, []any{strings.Repeat("x", impl.MaxText+1)}, impl.ErrRange, []any{impl.Partial{}}},
		{"ReadChoice", impl.ReadChoice, []any{strings.Repeat("x", impl.MaxText+1)}, impl.ErrRange, []any{impl.Choice{}}},
		{"ReachBy", impl.ReachBy, []any{wrong, list(1, 0), list(7)}, impl.ErrInvalid, []any{nil}},
		{"ReachBy", impl.ReachBy, []any{c, list(1, 0), nil}, impl.ErrRange, []any{nil}},
		{"Directs", impl.Directs, []any{wrong, list(7), 0}, impl.ErrInvalid, []any{false}},
		{"Directs", impl.Directs, []any{c, list(7), 1}, impl.ErrRange, []any{false}},
		{"Directs", impl.Directs, []any{c, nil, 0}, impl.ErrRange, []any{false}},
		{"DirectingWord", impl.DirectingWord, []any{wrong, 0}, impl.ErrInvalid, []any{nil}},
		{"DirectingWord", impl.DirectingWord, []any{overTuples(), 0}, impl.ErrRange, []any{nil}},
		{"DirectingWord", impl.DirectingWord, []any{overTuples(), 4}, impl.ErrRange, []any{nil}},
		{"RefineChoice", impl.RefineChoice, []any{wrong, choice(1, only(0))}, impl.ErrInvalid, []any{false}},
		{"RefineChoice", impl.RefineChoice, []any{choice(1, only(0)), wrong}, impl.ErrInvalid, []any{false}},
		{"RefineChoice", impl.RefineChoice, []any{c, choice(1, only(0))}, impl.ErrRange, []any{false}},
	})
}

// TestPromise1InvalidChapter4 tells that no function takes an automaton that is not valid.
func TestPromise1InvalidChapter4(t *testing.T) {
	var none impl.Automaton
	for _, bad := range invalidPartials() {
		expect(t, "PartialText", impl.PartialText, []any{bad}, []any{""})
		returnErrors(t, []wrongCall{
			{"GapsOf", impl.GapsOf, []any{bad}, impl.ErrInvalid, []any{nil}},
			{"FillGaps", impl.FillGaps, []any{bad, nil}, impl.ErrInvalid, []any{none}},
			{"CarefulImage", impl.CarefulImage, []any{bad, nil, nil}, impl.ErrInvalid, []any{nil}},
			{"IsCareful", impl.IsCareful, []any{bad, nil}, impl.ErrInvalid, []any{false}},
			{"CarefulWord", impl.CarefulWord, []any{bad}, impl.ErrInvalid, []any{nil}},
			{"TrapCompletion", impl.TrapCompletion, []any{bad}, impl.ErrInvalid, []any{none}},
			{"FirstFilling", impl.FirstFilling, []any{bad}, impl.ErrInvalid, []any{none}},
			{"SurestWord", impl.SurestWord, []any{bad}, impl.ErrInvalid, []any{nil}},
			{"ChoiceOf", impl.ChoiceOf, []any{bad}, impl.ErrInvalid, []any{impl.Choice{}}},
		})
	}
	for _, bad := range invalidChoices() {
		expect(t, "ChoiceText", impl.ChoiceText, []any{bad}, []any{""})
		returnErrors(t, []wrongCall{
			{"IsTotal", impl.IsTotal, []any{bad}, impl.ErrInvalid, []any{false}},
			{"ReachBy", impl.ReachBy, []any{bad, nil, nil}, impl.ErrInvalid, []any{nil}},
			{"Directs", impl.Directs, []any{bad, nil, impl.DirSame}, impl.ErrInvalid, []any{false}},
			{"DirectingWord", impl.DirectingWord, []any{bad, impl.DirMeet}, impl.ErrInvalid, []any{nil}},
			{"RefineChoice", impl.RefineChoice, []any{bad, bad}, impl.ErrInvalid, []any{false}},
			{"RefineChoice", impl.RefineChoice, []any{bad, choiceExample()}, impl.ErrInvalid, []any{false}},
			{"RefineChoice", impl.RefineChoice, []any{choiceExample(), bad}, impl.ErrInvalid, []any{false}},
		})
	}
}
