package tests

import (
	"maps"
	"math"
	"reflect"
	"runtime"
	"slices"
	"strings"
	"testing"
	"time"

	"loop.example/g01102/impl"
)

// fewMachines are machines of many kinds, right and wrong ones, but not so many that no two of them could be chosen together.
func fewMachines() []impl.Machine {
	bad, good := invalidMachines(), validMachines()
	few := []impl.Machine{bad[0], bad[9], bad[len(bad)-1], {}}
	for i, m := range good {
		if i%3 == 0 || i == len(good)-1 {
			few = append(few, m)
		}
	}
	return append(few, toggle(), readMachine("machine 2 2 1\nletter 0/0 0/1\n"), readMachine("machine 1 2 1\nletter 0/0\n"))
}

// fewSuites are suites and lists that are none. Some of them are outputs as well.
func fewSuites() [][][]int64 {
	return slices.Concat(shortSuites(3), wrongSuites(), fullSuites(), [][][]int64{lists(list(0, 1)), lists(list(0), list(0, 1)), lists(list(0, 1, 0)), lists(list(2)), lists(nil, list(1)), lists(list(0, 1, 0), list(0), list(0, 1))})
}

func chapter7Pools() pools {
	return pools{
		reflect.TypeFor[impl.Machine](): anyOf(fewMachines()),
		reflect.TypeFor[[][]int64]():    anyOf(fewSuites()),
		reflect.TypeFor[int64]():        anyOf(list(-1, 0, 1, 2, 3, 4, 6, 7, 10, 11, 1<<32, math.MinInt64, math.MaxInt64)),
		reflect.TypeFor[string]():       anyOf(someSuiteTexts()),
	}
}

// TestPromise1Chapter7 calls each function with all choices of arguments, right and wrong ones, and compares what it returns with its model, where the conventions of each call are checked as well.
func TestPromise1Chapter7(t *testing.T) {
	for _, f := range chapter7() {
		all := maps.Clone(chapter7Pools())
		if f.name == "FirstSurvivor" {
			// With some numbers of states there would be very many machines to look at.
			all[reflect.TypeFor[int64]()] = anyOf(list(-1, 0, 1, 2, 10, 11, math.MinInt64, math.MaxInt64))
		}
		t.Run(f.name, func(t *testing.T) {
			t.Parallel()
			f.compareAll(t, all)
		})
	}
}

// TestPromise1TogetherChapter7 calls the functions from several goroutines with the same arguments: what they return depends on nothing else.
func TestPromise1TogetherChapter7(t *testing.T) {
	answers := func() []any {
		var out []any
		add := func(results ...any) { out = append(out, results...) }
		for _, m := range slices.Concat(validMachines()[2:20], renumberedCover(10)) {
			suite, code := impl.CompleteSuite(m, 1)
			add(suite, code)
			cover, code := impl.TransitionCover(m)
			add(cover, code)
			short := append(slices.Clone(cover), repeated(0, 7))
			maximal, code := impl.MaximalWords(m, short)
			add(maximal, code)
			killed, code := impl.KilledBy(m, short)
			add(killed, code)
			one, two, three, code := impl.CoverageOf(m, short)
			add(one, two, three, code)
			left, code := impl.ShrinkSuite(m, short)
			add(left, code)
			best, code := impl.BestWord(m, 3)
			add(best, code)
			candidates, code := impl.Candidates(m, lists(list(0, 0)), lists(list(0, 0)))
			add(candidates, code)
			n, code := impl.FirstSurvivor(m, lists(list(0, 0)), 2)
			add(n, code)
		}
		return out
	}
	agreeTogether(t, answers)
}

// TestPromise1GoroutinesAreJoined tells that no goroutine is left behind when a function has returned.
func TestPromise1GoroutinesAreJoined(t *testing.T) {
	all := validMachines()
	m := all[len(all)-1]
	before := runtime.NumGoroutine()
	for range 20 {
		impl.KilledBy(m, words("abc", "cba"))
		impl.CoverageOf(m, words("abc"))
		impl.ShrinkSuite(m, words("abc", "a"))
		impl.Candidates(m, words("a"), lists(list(0)))
		impl.BestWord(m, 2)
	}
	// One that has told all it has to tell may not have ended yet.
	for wait := 0; runtime.NumGoroutine() > before && wait < 1000; wait++ {
		time.Sleep(time.Millisecond)
	}
	if after := runtime.NumGoroutine(); after > before {
		t.Errorf("there have been %d goroutines, and now there are %d", before, after)
	}
}

// TestPromise1LargeArgumentsChapter7 gives arguments far beyond all limits.
func TestPromise1LargeArgumentsChapter7(t *testing.T) {
	const size = 1 << 20
	m := toggle()
	long := make([]int64, size)
	wide := make([][]int64, size)
	both := slices.Repeat(lists(long), size)
	for _, suite := range [][][]int64{lists(long), wide, both} {
		if impl.ValidSuite(m, suite) || impl.SuiteText(suite) != "" {
			t.Errorf("a large suite is valid, or has a text")
		}
		codes := list(second(impl.SuiteCost(suite)), second(impl.Passes(m, m, suite)), second(impl.MaximalWords(m, suite)), second(impl.FirstSurvivor(m, suite, 1)), second(impl.KilledBy(m, suite)), second(impl.ShrinkSuite(m, suite)), second(impl.Candidates(m, suite, suite)), second(impl.Candidates(m, nil, suite)))
		if !slices.Equal(codes, repeated(impl.ErrRange, len(codes))) {
			t.Errorf("codes for a large suite: %v", codes)
		}
	}
	if numbers, code := impl.Candidates(m, words("a"), lists(long)); len(numbers) > 0 || code != impl.OK {
		t.Errorf("Candidates of many outputs: %v %d", numbers, code)
	}
	for _, text := range []string{strings.Repeat("a", size), strings.Repeat("a\n", size), strings.Repeat("\n", size)} {
		if suite, code := impl.ReadSuite(text); len(suite) > 0 || code != impl.ErrRange {
			t.Errorf("ReadSuite of a large text: %d", code)
		}
	}
	large := machine(size, 2, lists(long), lists(long))
	for _, code := range list(second(impl.Passes(m, large, nil)), second(impl.Passes(large, m, nil)), second(impl.StateCover(large)), second(impl.CompleteSuite(large, 0)), second(impl.MutantCount(large)), second(impl.MutantAt(large, 0)), second(impl.BestWord(large, 1))) {
		if code != impl.ErrInvalid {
			t.Errorf("a large machine: %d", code)
		}
	}
}

// second returns the code of a function with one result beside it.
func second[T any](_ T, code int64) int64 { return code }

// TestPromise1FirstErrorsChapter7 gives functions several wrong arguments at once: the error that the document lists first is returned.
func TestPromise1FirstErrorsChapter7(t *testing.T) {
	bad, m := machine(2, 2, lists(list(0, 2)), lists(list(0, 0))), toggle()
	three, letters := readMachine("machine 2 3 1\nletter 1/0 0/1\n"), machineExample()
	lost, same := readMachine("machine 2 2 1\nletter 0/0 0/1\n"), silent(cycle(2))
	wrong := words("b")
	var none impl.Machine
	returnErrors(t, []wrongCall{
		{"ReadSuite", impl.ReadSuite, []any{strings.Repeat("x", impl.MaxSuiteText+1)}, impl.ErrRange, []any{nil}},
		{"FirstFailing", impl.FirstFailing, []any{bad, three, wrong}, impl.ErrInvalid, []any{0, 0}},
		{"FirstFailing", impl.FirstFailing, []any{m, bad, wrong}, impl.ErrInvalid, []any{0, 0}},
		{"FirstFailing", impl.FirstFailing, []any{m, three, nil}, impl.ErrRange, []any{0, 0}},
		{"FirstFailing", impl.FirstFailing, []any{m, letters, nil}, impl.ErrRange, []any{0, 0}},
		{"FirstFailing", impl.FirstFailing, []any{letters, m, wrong}, impl.ErrRange, []any{0, 0}},
		{"FirstFailing", impl.FirstFailing, []any{m, letters, wrong}, impl.ErrRange, []any{0, 0}},
		{"FirstFailing", impl.FirstFailing, []any{m, m, wrong}, impl.ErrRange, []any{0, 0}},
		{"FirstFailing", impl.FirstFailing, []any{m, m, nil}, impl.ErrNotFound, []any{0, 0}},
		{"Passes", impl.Passes, []any{m, bad, wrong}, impl.ErrInvalid, []any{false}},
		{"Passes", impl.Passes, []any{m, three, nil}, impl.ErrRange, []any{false}},
		{"Passes", impl.Passes, []any{m, letters, nil}, impl.ErrRange, []any{false}},
		{"Passes", impl.Passes, []any{m, m, wrong}, impl.ErrRange, []any{false}},
		{"MaximalWords", impl.MaximalWords, []any{bad, wrong}, impl.ErrInvalid, []any{nil}},
		{"CompleteSuite", impl.CompleteSuite, []any{bad, 3}, impl.ErrInvalid, []any{nil}},
		{"CompleteSuite", impl.CompleteSuite, []any{lost, 3}, impl.ErrRange, []any{nil}},
		{"CompleteSuite", impl.CompleteSuite, []any{same, -1}, impl.ErrRange, []any{nil}},
		{"CompleteSuite", impl.CompleteSuite, []any{lost, 2}, impl.ErrState, []any{nil}},
		{"CompleteSuite", impl.CompleteSuite, []any{same, 2}, impl.ErrState, []any{nil}},
		{"FirstSurvivor", impl.FirstSurvivor, []any{bad, wrong, 0}, impl.ErrInvalid, []any{none}},
		{"FirstSurvivor", impl.FirstSurvivor, []any{m, wrong, 10}, impl.ErrRange, []any{none}},
		{"FirstSurvivor", impl.FirstSurvivor, []any{m, nil, 11}, impl.ErrRange, []any{none}},
		{"FirstSurvivor", impl.FirstSurvivor, []any{same, nil, 10}, impl.ErrLimit, []any{none}},
		{"FirstSurvivor", impl.FirstSurvivor, []any{same, nil, 3}, impl.ErrNotFound, []any{none}},
		{"MutantAt", impl.MutantAt, []any{bad, -1}, impl.ErrInvalid, []any{none}},
		{"KilledBy", impl.KilledBy, []any{bad, wrong}, impl.ErrInvalid, []any{nil}},
		{"CoverageOf", impl.CoverageOf, []any{bad, wrong}, impl.ErrInvalid, []any{0, 0, 0}},
		{"ShrinkSuite", impl.ShrinkSuite, []any{bad, wrong}, impl.ErrInvalid, []any{nil}},
		{"Candidates", impl.Candidates, []any{bad, wrong, nil}, impl.ErrInvalid, []any{nil}},
		{"Candidates", impl.Candidates, []any{m, wrong, lists(list(0))}, impl.ErrRange, []any{nil}},
		{"Candidates", impl.Candidates, []any{m, words("a"), lists(list(9), list(9))}, impl.ErrRange, []any{nil}},
		{"BestWord", impl.BestWord, []any{bad, 7}, impl.ErrInvalid, []any{nil}},
	})
}

// TestPromise1InvalidChapter7 tells that no function takes a machine that is not valid.
func TestPromise1InvalidChapter7(t *testing.T) {
	m := toggle()
	for _, bad := range invalidMachines() {
		expect(t, "ValidSuite", impl.ValidSuite, []any{bad, nil}, []any{false})
		returnErrors(t, []wrongCall{
			{"FirstFailing", impl.FirstFailing, []any{bad, m, nil}, impl.ErrInvalid, []any{0, 0}},
			{"FirstFailing", impl.FirstFailing, []any{m, bad, nil}, impl.ErrInvalid, []any{0, 0}},
			{"Passes", impl.Passes, []any{bad, bad, nil}, impl.ErrInvalid, []any{false}},
			{"Passes", impl.Passes, []any{m, bad, nil}, impl.ErrInvalid, []any{false}},
			{"StateCover", impl.StateCover, []any{bad}, impl.ErrInvalid, []any{nil}},
			{"TransitionCover", impl.TransitionCover, []any{bad}, impl.ErrInvalid, []any{nil}},
			{"MaximalWords", impl.MaximalWords, []any{bad, nil}, impl.ErrInvalid, []any{nil}},
			{"CompleteSuite", impl.CompleteSuite, []any{bad, 0}, impl.ErrInvalid, []any{nil}},
			{"FirstSurvivor", impl.FirstSurvivor, []any{bad, nil, 1}, impl.ErrInvalid, []any{impl.Machine{}}},
			{"MutantCount", impl.MutantCount, []any{bad}, impl.ErrInvalid, []any{0}},
			{"MutantAt", impl.MutantAt, []any{bad, 0}, impl.ErrInvalid, []any{impl.Machine{}}},
			{"KilledBy", impl.KilledBy, []any{bad, nil}, impl.ErrInvalid, []any{nil}},
			{"CoverageOf", impl.CoverageOf, []any{bad, nil}, impl.ErrInvalid, []any{0, 0, 0}},
			{"ShrinkSuite", impl.ShrinkSuite, []any{bad, nil}, impl.ErrInvalid, []any{nil}},
			{"Candidates", impl.Candidates, []any{bad, nil, nil}, impl.ErrInvalid, []any{nil}},
			{"BestWord", impl.BestWord, []any{bad, 0}, impl.ErrInvalid, []any{nil}},
		})
	}
}
