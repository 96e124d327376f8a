package tests

import (
	"maps"
	"math"
	"reflect"
	"slices"
	"strings"
	"testing"

	"loop.example/g01102/impl"
)

// fewDeedLists are deeds, and lists of which some are none.
func fewDeedLists() [][]impl.Deed {
	all := [][]impl.Deed{nil, {}}
	for _, text := range []string{
		"save", "deliver 0", "report, deliver 0", asking + ", " + bringing(0, 0), "report, " + bringing(0, 0) + ", jolt 1, copy 0, deliver 0", "order 2, order 999, post 5, copy 9, drop 1, jolt 4, crash",
		times(11, "report") + ", drop 3, " + asking, times(7, "jolt 0"), times(61, "order 0") + ", save", "jolt 0, " + asking + ", " + bringing(0, 0) + ", crash", times(impl.MaxDeeds, "save"), times(impl.MaxDeeds+1, "save"), times(impl.MaxDeeds-6, "crash"), times(impl.MaxDeeds-5, "crash"),
	} {
		all = append(all, deeds(text))
	}
	for _, d := range wrongDeeds()[:12] {
		all = append(all, []impl.Deed{{Kind: impl.DdSave}, d})
	}
	return append(all, slices.Repeat(wrongDeeds()[:1], impl.MaxDeeds+1))
}

func chapter8Pools() pools {
	valid := slices.Collect(maps.Values(modelDeeds))
	slices.SortFunc(valid, func(d, e impl.Deed) int { return int(d.Kind*1000 + d.Arg - e.Kind*1000 - e.Arg) })
	return pools{
		reflect.TypeFor[impl.Lit]():    anyOf(fewLits()),
		reflect.TypeFor[[]int64]():     anyOf(append(someLists()[:22], upTo(2), upTo(3), upTo(4), upTo(10), upTo(11), list(1), list(1, 3), list(0, 9), list(0, 4, 8))),
		reflect.TypeFor[int64]():       anyOf(list(-1, 0, 1, 2, 3, 4, 9, 10, 1<<32, math.MinInt64, math.MaxInt64)),
		reflect.TypeFor[impl.Deed]():   anyOf(slices.Concat(valid, wrongDeeds())),
		reflect.TypeFor[[]impl.Deed](): anyOf(fewDeedLists()),
		reflect.TypeFor[string]():      anyOf(slices.Concat(someTexts(), someDeedTexts(), someScripts())),
	}
}

// TestPromise1Chapter8 calls each function with all choices of arguments, right and wrong ones, and compares what it returns with its model, where the conventions of each call are checked as well.
func TestPromise1Chapter8(t *testing.T) {
	for _, f := range chapter8() {
		t.Run(f.name, func(t *testing.T) {
			t.Parallel()
			f.compareAll(t, chapter8Pools())
		})
	}
}

// TestPromise1TogetherChapter8 calls the functions from several goroutines with the same arguments: what they return depends on nothing else.
func TestPromise1TogetherChapter8(t *testing.T) {
	answers := func() []any {
		var out []any
		add := func(results ...any) { out = append(out, results...) }
		for _, j := range journeys(12, 60) {
			all := upTo(j.lit.Auto.States)
			classes, code := impl.LampClasses(j.lit)
			add(classes, code)
			believed, code := impl.Believed(j.lit, all, 0, 0)
			add(believed, code)
			depth, code := impl.AdaptiveDepth(j.lit, all)
			add(depth, code)
			letters, last, code := impl.AdaptiveRun(j.lit, all, j.state)
			add(letters, last, code)
			n, done, code := impl.LineAfter(j.lit, j.state, j.deeds)
			add(n, done, code)
			index, why, code := impl.RefusedDeed(j.lit, j.state, j.deeds)
			add(index, why, code)
			told, isKnown, code := impl.ToldAfter(j.lit, j.state, j.deeds)
			add(told, isKnown, code)
			plan, code := impl.HomeDeeds(j.lit, j.state, j.deeds)
			add(plan, code)
			answers, code := impl.RunScript(j.lit, j.state, someScripts()[0])
			add(answers, code)
		}
		return out
	}
	agreeTogether(t, answers)
}

// TestPromise1LargeArgumentsChapter8 gives arguments far beyond all limits.
func TestPromise1LargeArgumentsChapter8(t *testing.T) {
	const size = 1 << 20
	l := lineExample()
	long := make([]int64, size)
	large := []impl.Lit{lit(cycle(2), long...), lit(auto(size, long), long...), lit(impl.Automaton{States: 2, Next: slices.Repeat(lists(list(1, 0)), size)}, 0, 1)}
	for _, l := range large {
		if impl.ValidLit(l) {
			t.Error("a large automaton is valid")
		}
		codes := list(second(impl.LampClasses(l)), second(impl.Believed(l, long, 0, 0)), second(impl.AdaptiveDepth(l, long)), second(impl.AdaptiveLetter(l, long)), second(impl.HomeDeeds(l, 0, nil)), second(impl.RunScript(l, 0, "")))
		if !slices.Equal(codes, repeated(impl.ErrInvalid, len(codes))) {
			t.Errorf("codes for a large automaton: %v", codes)
		}
	}
	many := slices.Repeat(deeds("report, deliver 0"), size)
	wrong := append(slices.Clone(many), impl.Deed{})
	for code, given := range map[int64][]impl.Deed{impl.ErrRange: many, impl.ErrInvalid: wrong} {
		_, _, one := impl.LineAfter(l, 0, given)
		_, _, two := impl.RefusedDeed(l, 0, given)
		_, _, three := impl.ToldAfter(l, 0, given)
		if got := list(one, two, three, second(impl.HomeDeeds(l, 0, given))); !slices.Equal(got, repeated(code, 4)) {
			t.Errorf("codes for many deeds: %v want %d", got, code)
		}
	}
	_, _, run := impl.AdaptiveRun(l, long, 0)
	if codes := list(run, second(impl.Believed(l, long, 0, 0)), second(impl.AdaptiveDepth(l, upTo(size)))); !slices.Equal(codes, repeated(impl.ErrRange, 3)) {
		t.Errorf("codes for a large set: %v", codes)
	}
	for _, text := range []string{strings.Repeat("report\n", size), strings.Repeat("\n", size), strings.Repeat("a", size), strings.Repeat("order ", size)} {
		if _, code := impl.RunScript(l, 0, text); code != impl.ErrRange {
			t.Errorf("RunScript of a large text: %d", code)
		}
		if _, code := impl.ReadDeed(text); code != impl.ErrSyntax {
			t.Errorf("ReadDeed of a large text: %d", code)
		}
	}
	if _, code := impl.ReadDeed("order " + strings.Repeat("0", size)); code != impl.ErrSyntax {
		t.Errorf("ReadDeed of a long number: %d", code)
	}
}

// TestPromise1FirstErrorsChapter8 gives functions several wrong arguments at once: the error that the document lists first is returned.
func TestPromise1FirstErrorsChapter8(t *testing.T) {
	bad, l, still := lit(cycle(2), 0), lineExample(), byTurns(cycle(2), 1)
	wrong, many := []impl.Deed{{Kind: 10}}, deeds(times(impl.MaxDeeds+1, "save"))
	both := append(slices.Clone(many), impl.Deed{})
	long := strings.Repeat("\n", impl.MaxScriptText+1)
	var none impl.Line
	returnErrors(t, []wrongCall{
		{"Believed", impl.Believed, []any{bad, list(1, 0), 9, 9}, impl.ErrInvalid, []any{nil}},
		{"Believed", impl.Believed, []any{l, list(1, 0), 9, 9}, impl.ErrRange, []any{nil}},
		{"AdaptiveDepth", impl.AdaptiveDepth, []any{bad, list(1, 0)}, impl.ErrInvalid, []any{0}},
		{"AdaptiveDepth", impl.AdaptiveDepth, []any{still, list(1, 0)}, impl.ErrRange, []any{0}},
		{"AdaptiveLetter", impl.AdaptiveLetter, []any{bad, list(1, 0)}, impl.ErrInvalid, []any{0}},
		{"AdaptiveLetter", impl.AdaptiveLetter, []any{bad, nil}, impl.ErrInvalid, []any{0}},
		{"AdaptiveLetter", impl.AdaptiveLetter, []any{still, list(2)}, impl.ErrRange, []any{0}},
		{"AdaptiveLetter", impl.AdaptiveLetter, []any{still, list(0, 1)}, impl.ErrNotFound, []any{0}},
		{"AdaptiveLetter", impl.AdaptiveLetter, []any{still, list(0)}, impl.ErrState, []any{0}},
		{"AdaptiveRun", impl.AdaptiveRun, []any{bad, list(1, 0), 2}, impl.ErrInvalid, []any{nil, 0}},
		{"AdaptiveRun", impl.AdaptiveRun, []any{still, list(0, 1), 2}, impl.ErrRange, []any{nil, 0}},
		{"AdaptiveRun", impl.AdaptiveRun, []any{still, list(1, 0), 0}, impl.ErrRange, []any{nil, 0}},
		{"AdaptiveRun", impl.AdaptiveRun, []any{still, list(0, 1), 0}, impl.ErrNotFound, []any{nil, 0}},
		{"LineAfter", impl.LineAfter, []any{bad, 2, many}, impl.ErrInvalid, []any{none, 0}},
		{"LineAfter", impl.LineAfter, []any{l, 2, wrong}, impl.ErrInvalid, []any{none, 0}},
		{"LineAfter", impl.LineAfter, []any{l, 0, both}, impl.ErrInvalid, []any{none, 0}},
		{"LineAfter", impl.LineAfter, []any{l, 2, many}, impl.ErrRange, []any{none, 0}},
		{"RefusedDeed", impl.RefusedDeed, []any{bad, 2, many}, impl.ErrInvalid, []any{0, 0}},
		{"RefusedDeed", impl.RefusedDeed, []any{l, 2, both}, impl.ErrInvalid, []any{0, 0}},
		{"RefusedDeed", impl.RefusedDeed, []any{l, 2, nil}, impl.ErrRange, []any{0, 0}},
		{"RefusedDeed", impl.RefusedDeed, []any{l, 0, many}, impl.ErrRange, []any{0, 0}},
		{"RefusedDeed", impl.RefusedDeed, []any{l, 0, nil}, impl.ErrNotFound, []any{0, 0}},
		{"ToldAfter", impl.ToldAfter, []any{bad, 2, many}, impl.ErrInvalid, []any{nil, false}},
		{"ToldAfter", impl.ToldAfter, []any{l, 2, both}, impl.ErrInvalid, []any{nil, false}},
		{"ToldAfter", impl.ToldAfter, []any{l, -1, nil}, impl.ErrRange, []any{nil, false}},
		{"HomeDeeds", impl.HomeDeeds, []any{bad, 2, many}, impl.ErrInvalid, []any{nil}},
		{"HomeDeeds", impl.HomeDeeds, []any{still, 2, both}, impl.ErrInvalid, []any{nil}},
		{"HomeDeeds", impl.HomeDeeds, []any{still, 2, nil}, impl.ErrRange, []any{nil}},
		{"HomeDeeds", impl.HomeDeeds, []any{still, 0, many}, impl.ErrRange, []any{nil}},
		{"HomeDeeds", impl.HomeDeeds, []any{still, 0, many[1:]}, impl.ErrNotFound, []any{nil}},
		{"HomeDeeds", impl.HomeDeeds, []any{l, 0, many[1:]}, impl.ErrLimit, []any{nil}},
		{"RunScript", impl.RunScript, []any{bad, 2, long}, impl.ErrInvalid, []any{""}},
		{"RunScript", impl.RunScript, []any{l, 2, long}, impl.ErrRange, []any{""}},
		{"RunScript", impl.RunScript, []any{l, 2, ""}, impl.ErrRange, []any{""}},
		{"RunScript", impl.RunScript, []any{l, 0, long}, impl.ErrRange, []any{""}},
	})
}

// TestPromise1InvalidChapter8 tells that no function takes a lit automaton or a deed that is not valid.
func TestPromise1InvalidChapter8(t *testing.T) {
	invalid := func(l impl.Lit, given []impl.Deed) {
		t.Helper()
		returnErrors(t, []wrongCall{
			{"LineAfter", impl.LineAfter, []any{l, 0, given}, impl.ErrInvalid, []any{impl.Line{}, 0}},
			{"RefusedDeed", impl.RefusedDeed, []any{l, 0, given}, impl.ErrInvalid, []any{0, 0}},
			{"ToldAfter", impl.ToldAfter, []any{l, 0, given}, impl.ErrInvalid, []any{nil, false}},
			{"HomeDeeds", impl.HomeDeeds, []any{l, 0, given}, impl.ErrInvalid, []any{nil}},
		})
	}
	for _, bad := range invalidLits() {
		expect(t, "ValidLit", impl.ValidLit, []any{bad}, []any{false})
		returnErrors(t, []wrongCall{
			{"LampClasses", impl.LampClasses, []any{bad}, impl.ErrInvalid, []any{nil}},
			{"Believed", impl.Believed, []any{bad, nil, 0, 0}, impl.ErrInvalid, []any{nil}},
			{"AdaptiveDepth", impl.AdaptiveDepth, []any{bad, nil}, impl.ErrInvalid, []any{0}},
			{"AdaptiveLetter", impl.AdaptiveLetter, []any{bad, list(0, 1)}, impl.ErrInvalid, []any{0}},
			{"AdaptiveRun", impl.AdaptiveRun, []any{bad, list(0), 0}, impl.ErrInvalid, []any{nil, 0}},
			{"RunScript", impl.RunScript, []any{bad, 0, ""}, impl.ErrInvalid, []any{""}},
		})
		invalid(bad, nil)
	}
	for _, d := range wrongDeeds() {
		expect(t, "ValidDeed", impl.ValidDeed, []any{d}, []any{false})
		expect(t, "DeedText", impl.DeedText, []any{d}, []any{""})
		invalid(lineExample(), []impl.Deed{d})
		invalid(lineExample(), append(deeds("report, save"), d))
		invalid(lineExample(), append([]impl.Deed{d}, deeds("report, save")...))
	}
}
