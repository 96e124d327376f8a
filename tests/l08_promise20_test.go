package tests

import (
	"math"
	"slices"
	"testing"

	"loop.example/g01102/impl"
)

func TestPromise20LimitsOfChapter8(t *testing.T) {
	got := list(impl.MaxLamps, impl.MaxOrders, impl.MaxWire, impl.MaxLives, impl.MaxDeeds, impl.MaxScriptText, impl.MaxScriptLines)
	if !slices.Equal(got, list(4, 60, 10, 6, 400, 20000, 120)) {
		t.Errorf("limits: %v", got)
	}
}

func TestPromise20ExampleOfChapter8(t *testing.T) {
	l := lineExample()
	expect(t, "LampClasses", impl.LampClasses, []any{l}, []any{lists(list(0), list(1)), impl.OK})
	expect(t, "Believed", impl.Believed, []any{l, list(0, 1), 0, 1}, []any{list(1), impl.OK})
	expect(t, "AdaptiveDepth", impl.AdaptiveDepth, []any{l, list(0, 1)}, []any{1, impl.OK})
	expect(t, "AdaptiveRun", impl.AdaptiveRun, []any{l, list(0, 1), 1}, []any{list(0), 0, impl.OK})
}

func TestPromise20ValidLits(t *testing.T) {
	valid := func(want bool, a impl.Automaton, lamps ...int64) {
		t.Helper()
		expect(t, "ValidLit", impl.ValidLit, []any{lit(a, lamps...)}, []any{want})
	}
	for _, lamp := range upTo(impl.MaxLamps) {
		valid(true, auto(1, list(0)), lamp)
		valid(true, cycle(3), 0, lamp, 0)
		valid(true, cycle(10), repeated(lamp, 10)...)
	}
	for _, lamp := range list(-1, impl.MaxLamps, 10, math.MinInt64, math.MaxInt64) {
		valid(false, auto(1, list(0)), lamp)
		valid(false, cycle(3), 0, lamp, 0)
		valid(false, cycle(3), lamp, 0, 0)
		valid(false, cycle(3), 0, 0, lamp)
	}
	for n := range int64(impl.MaxStates) {
		for count := range impl.MaxStates + 2 {
			valid(int64(count) == n+1, cycle(n+1), repeated(0, count)...)
		}
	}
	for _, a := range invalidAutomata() {
		valid(false, a, repeated(0, int(min(max(0, a.States), 20)))...)
	}
	for _, l := range slices.Concat(validLits(), randomLits(100, 1, 10)) {
		valid(true, l.Auto, l.Lamps...)
	}
}

func TestPromise20LampClasses(t *testing.T) {
	classes := func(l impl.Lit, want ...[]int64) {
		t.Helper()
		expect(t, "LampClasses", impl.LampClasses, []any{l}, []any{want, impl.OK})
	}
	classes(lit(auto(1, list(0)), 3), list(0))
	classes(byTurns(cycle(3), 1), upTo(3))
	classes(lit(cycle(3), 3, 3, 3), upTo(3))
	// Lamps that no state has have no class, and the classes stand in the order of the lamps.
	classes(lit(cycle(3), 3, 0, 3), list(1), list(0, 2))
	classes(lit(cycle(4), 3, 2, 1, 0), list(3), list(2), list(1), list(0))
	classes(lit(cycle(5), 2, 1, 2, 1, 1), list(1, 3, 4), list(0, 2))
	classes(byTurns(cycle(10), 4), list(0, 4, 8), list(1, 5, 9), list(2, 6), list(3, 7))
	classes(lateLamp(10), upTo(9), list(9))
	for _, l := range slices.Concat(validLits(), smallLits(), randomLits(300, 1, 10)) {
		named("LampClasses").compare(t, l)
	}
}

func TestPromise20Believed(t *testing.T) {
	// The letter 0 leads to the next state, and the letter 1 to the state 0 or 3.
	l := lit(auto(4, list(1, 2, 3, 0), list(0, 0, 3, 3)), 0, 1, 0, 3)
	believed := func(set []int64, x, lamp int64, want ...int64) {
		t.Helper()
		expect(t, "Believed", impl.Believed, []any{l, set, x, lamp}, []any{want, impl.OK})
	}
	believed(upTo(4), 0, 0, 0, 2)
	believed(upTo(4), 0, 1, 1)
	believed(upTo(4), 0, 2)
	believed(upTo(4), 0, 3, 3)
	believed(upTo(4), 1, 0, 0)
	believed(upTo(4), 1, 3, 3)
	believed(upTo(4), 1, 1)
	// The lamp is seen behind the letter, not in front of it.
	believed(list(0), 0, 0)
	believed(list(0), 0, 1, 1)
	believed(list(1, 3), 0, 0, 0, 2)
	believed(list(1, 3), 1, 0, 0)
	for _, lamp := range upTo(impl.MaxLamps) {
		believed(nil, 0, lamp)
		believed(list(), 1, lamp)
	}
}

func TestPromise20NothingToBelieve(t *testing.T) {
	l := lit(auto(3, list(1, 2, 0), list(0, 1, 0)), 0, 1, 3)
	refuse := func(set []int64, x, lamp int64) {
		t.Helper()
		expect(t, "Believed", impl.Believed, []any{l, set, x, lamp}, []any{nil, impl.ErrRange})
	}
	for _, set := range lists(list(1, 0), list(0, 0), list(3), list(0, 3), list(-1), list(-1, 0), list(0, 2, 1), list(math.MinInt64), list(math.MaxInt64), upTo(4), repeated(0, 1000)) {
		refuse(set, 0, 0)
		expect(t, "AdaptiveDepth", impl.AdaptiveDepth, []any{l, set}, []any{0, impl.ErrRange})
		expect(t, "AdaptiveLetter", impl.AdaptiveLetter, []any{l, set}, []any{0, impl.ErrRange})
		expect(t, "AdaptiveRun", impl.AdaptiveRun, []any{l, set, 0}, []any{nil, 0, impl.ErrRange})
	}
	for _, x := range list(-1, 2, 3, math.MinInt64, math.MaxInt64) {
		refuse(upTo(3), x, 0)
		refuse(nil, x, 0)
	}
	for _, lamp := range list(-1, impl.MaxLamps, math.MinInt64, math.MaxInt64) {
		refuse(upTo(3), 0, lamp)
		refuse(nil, 0, lamp)
	}
}

// TestPromise20LampsPart tells that what is believed for all lamps together is the image of chapter 1, and that a state is believed only for its lamp.
func TestPromise20LampsPart(t *testing.T) {
	t.Parallel()
	for _, l := range slices.Concat(smallLits(), randomLits(60, 4, 6)) {
		for _, set := range subsets(l.Auto.States) {
			for x := range int64(len(l.Auto.Next)) {
				var together []int64
				for lamp := range int64(impl.MaxLamps) {
					believed, code := impl.Believed(l, set, x, lamp)
					if code != impl.OK {
						t.Fatalf("Believed(%v, %v, %d, %d): code %d", l, set, x, lamp, code)
					}
					for _, s := range believed {
						if l.Lamps[s] != lamp {
							t.Errorf("Believed(%v, %v, %d, %d): %v", l, set, x, lamp, believed)
						}
					}
					together = append(together, believed...)
				}
				slices.Sort(together)
				if image, _ := impl.ImageOf(l.Auto, set, list(x)); !slices.Equal(together, image) {
					t.Errorf("Believed(%v, %v, %d): %v together, the image is %v", l, set, x, together, image)
				}
			}
		}
	}
}

// plainDepth returns the depth of a set, or endless. A way that comes to a set a second time leads around in circles.
func plainDepth(l impl.Lit, set []int64, before [][]int64) int64 {
	if len(set) <= 1 {
		return 0
	}
	isSet := func(other []int64) bool { return slices.Equal(other, set) }
	if slices.ContainsFunc(before, isSet) {
		return endless
	}
	return 1 + plainLeast(l, set, slices.Concat(before, lists(set)))
}

// plainLeast returns the least of the greatest depths of what is believed behind a letter.
func plainLeast(l impl.Lit, set []int64, before [][]int64) int64 {
	least := int64(endless - 1)
	for x := range l.Auto.Next {
		least = min(least, plainGreatest(l, set, x, before))
	}
	return least
}

func plainGreatest(l impl.Lit, set []int64, x int, before [][]int64) int64 {
	greatest := int64(0)
	for _, part := range modelParts(l, set, x) {
		greatest = max(greatest, plainDepth(l, part, before))
	}
	return greatest
}

// depthOrCode returns the depth of a set, or endless if there is none.
func depthOrCode(t *testing.T, l impl.Lit, set []int64) int64 {
	t.Helper()
	depth, code := impl.AdaptiveDepth(l, set)
	if code == impl.ErrNotFound && depth == 0 {
		return endless
	}
	if code != impl.OK {
		t.Fatalf("AdaptiveDepth(%v, %v): %d, code %d", l, set, depth, code)
	}
	return depth
}

// TestPromise20DepthsOfAllSets compares the depths, and the letters for them, with a plain search through all ways that do not lead around.
func TestPromise20DepthsOfAllSets(t *testing.T) {
	t.Parallel()
	for _, l := range slices.Concat(smallLits(), allLits(4, 1, 2), randomLits(150, 4, 4)) {
		for _, set := range subsets(l.Auto.States) {
			want := plainDepth(l, set, nil)
			if got := depthOrCode(t, l, set); got != want {
				t.Fatalf("AdaptiveDepth(%v, %v): got %d want %d", l, set, got, want)
			}
			x, code := impl.AdaptiveLetter(l, set)
			switch {
			case want == 0 && (x != 0 || code != impl.ErrState), want == endless && (x != 0 || code != impl.ErrNotFound):
				t.Fatalf("AdaptiveLetter(%v, %v): %d, code %d", l, set, x, code)
			case want > 0 && want < endless:
				for other := range x + 1 {
					greatest := plainGreatest(l, set, int(other), lists(set))
					if (greatest == want-1) != (other == x) {
						t.Fatalf("AdaptiveLetter(%v, %v): %d, but %d leads to %d", l, set, x, other, greatest)
					}
				}
			}
		}
	}
}

func TestPromise20Depths(t *testing.T) {
	depth := func(l impl.Lit, set []int64, want int64) {
		t.Helper()
		expect(t, "AdaptiveDepth", impl.AdaptiveDepth, []any{l, set}, []any{want, impl.OK})
	}
	for _, set := range lists(nil, list(), list(0), list(1), list(2)) {
		depth(byTurns(cycle(3), 1), set, 0)
		depth(byTurns(cycle(3), 3), set, 0)
	}
	depth(byTurns(cycle(3), 3), upTo(3), 1)
	depth(byTurns(cycle(4), 4), upTo(4), 1)
	depth(byTurns(cycle(5), 4), upTo(5), 2)
	// The lamp of the last state is seen when it is reached, from each state by another number of letters.
	depth(lateLamp(4), upTo(4), 3)
	depth(lateLamp(4), list(0, 1), 2)
	depth(lateLamp(4), list(1, 2), 1)
	depth(lateLamp(4), list(0, 3), 3)
	depth(lateLamp(10), upTo(10), 9)
	// Nothing is seen, but letters lead to one state.
	depth(byTurns(slow(4), 1), upTo(4), 9)
	depth(byTurns(slow(10), 1), upTo(10), 81)
	depth(byTurns(auto(2, list(1, 0), list(0, 0)), 1), upTo(2), 1)
	depth(byTurns(auto(3, list(1, 0, 2), list(0, 1, 1), list(0, 0, 2)), 1), upTo(3), 2)
}

func TestPromise20Circles(t *testing.T) {
	none := func(l impl.Lit, set []int64) {
		t.Helper()
		expect(t, "AdaptiveDepth", impl.AdaptiveDepth, []any{l, set}, []any{0, impl.ErrNotFound})
		expect(t, "AdaptiveLetter", impl.AdaptiveLetter, []any{l, set}, []any{0, impl.ErrNotFound})
		for _, s := range set {
			expect(t, "AdaptiveRun", impl.AdaptiveRun, []any{l, set, s}, []any{nil, 0, impl.ErrNotFound})
		}
		expect(t, "AdaptiveRun", impl.AdaptiveRun, []any{l, set, 10}, []any{nil, 0, impl.ErrRange})
	}
	none(byTurns(cycle(2), 1), upTo(2))
	none(lit(cycle(2), 3, 3), upTo(2))
	none(byTurns(cycle(10), 1), upTo(10))
	none(byTurns(cycle(4), 2), upTo(4))
	none(byTurns(cycle(4), 2), list(0, 2))
	expect(t, "AdaptiveDepth", impl.AdaptiveDepth, []any{byTurns(cycle(4), 2), list(0, 1)}, []any{1, impl.OK})
	// Each letter leads around by itself, and so do both together.
	none(byTurns(auto(4, list(1, 0, 3, 2), list(2, 3, 0, 1)), 1), upTo(4))
	// A set has no depth if only one of the lamps leads around.
	late := lit(auto(4, list(0, 1, 3, 3)), 0, 0, 1, 1)
	none(late, upTo(4))
	none(late, list(0, 1, 2))
	expect(t, "AdaptiveDepth", impl.AdaptiveDepth, []any{late, list(0, 2, 3)}, []any{1, impl.OK})
	// The letter 0 leads around, and the letter 1 does not.
	way := byTurns(auto(3, list(1, 2, 0), list(0, 0, 2)), 1)
	expect(t, "AdaptiveDepth", impl.AdaptiveDepth, []any{way, list(0, 1)}, []any{1, impl.OK})
	expect(t, "AdaptiveLetter", impl.AdaptiveLetter, []any{way, list(0, 1)}, []any{1, impl.OK})
	expect(t, "AdaptiveDepth", impl.AdaptiveDepth, []any{way, list(1, 2)}, []any{3, impl.OK})
	expect(t, "AdaptiveLetter", impl.AdaptiveLetter, []any{way, list(1, 2)}, []any{0, impl.OK})
}

func TestPromise20LeastLetters(t *testing.T) {
	letter := func(l impl.Lit, set []int64, want int64) {
		t.Helper()
		expect(t, "AdaptiveLetter", impl.AdaptiveLetter, []any{l, set}, []any{want, impl.OK})
	}
	// Of several letters that are as good, the least one is taken.
	letter(byTurns(auto(2, list(0, 0), list(1, 1), list(0, 0)), 1), upTo(2), 0)
	letter(byTurns(auto(2, list(1, 0), list(1, 1), list(0, 0)), 1), upTo(2), 1)
	letter(byTurns(auto(2, list(1, 0), list(0, 1), list(0, 0)), 1), upTo(2), 2)
	letter(byTurns(auto(2, list(1, 0), list(0, 1), list(0, 0)), 2), upTo(2), 0)
	// A greater letter is taken if it leads to less depth, though a lesser one parts the set as well.
	deep := auto(4, list(0, 1, 3, 2), list(0, 0, 0, 0))
	letter(lit(deep, 0, 0, 1, 1), upTo(4), 1)
	letter(lit(deep, 0, 1, 2, 3), upTo(4), 0)
	letter(lit(deep, 0, 1, 2, 2), upTo(4), 1)
	letter(lit(deep, 0, 1, 2, 2), upTo(3), 0)
	refused := func(set []int64) {
		t.Helper()
		expect(t, "AdaptiveLetter", impl.AdaptiveLetter, []any{byTurns(cycle(10), 1), set}, []any{0, impl.ErrState})
	}
	for s := range int64(10) {
		refused(list(s))
	}
	refused(nil)
	refused(list())
}

func TestPromise20Runs(t *testing.T) {
	run := func(l impl.Lit, set []int64, s int64, letters []int64, last int64) {
		t.Helper()
		expect(t, "AdaptiveRun", impl.AdaptiveRun, []any{l, set, s}, []any{letters, last, impl.OK})
	}
	// With one state there is nothing to find out.
	for s := range int64(4) {
		run(lateLamp(4), list(s), s, nil, s)
		run(byTurns(cycle(4), 1), list(s), s, nil, s)
	}
	// A run ends as soon as the state is known.
	run(lateLamp(4), upTo(4), 2, repeated(0, 1), 3)
	run(lateLamp(4), upTo(4), 1, repeated(0, 2), 3)
	run(lateLamp(4), upTo(4), 0, repeated(0, 3), 3)
	run(lateLamp(4), upTo(4), 3, repeated(0, 3), 2)
	run(lateLamp(4), list(0, 1), 0, repeated(0, 2), 2)
	reset, _ := impl.ShortestReset(slow(4))
	run(byTurns(slow(4), 1), upTo(4), 3, reset, modelLead(slow(4), 3, reset))
	for _, s := range list(-1, 1, 3, 4, math.MinInt64, math.MaxInt64) {
		expect(t, "AdaptiveRun", impl.AdaptiveRun, []any{lateLamp(4), list(0, 2), s}, []any{nil, 0, impl.ErrRange})
		expect(t, "AdaptiveRun", impl.AdaptiveRun, []any{lateLamp(4), nil, s}, []any{nil, 0, impl.ErrRange})
	}
	expect(t, "AdaptiveRun", impl.AdaptiveRun, []any{lateLamp(4), nil, 0}, []any{nil, 0, impl.ErrRange})
}

// TestPromise20RunsKnowTheState follows what is believed along the runs from each state of each set: the letters are those of AdaptiveLetter, no run is longer than the depth, one of them is as long, and in the end just the last state is believed.
func TestPromise20RunsKnowTheState(t *testing.T) {
	t.Parallel()
	for _, l := range slices.Concat(smallLits(), randomLits(60, 4, 5), []impl.Lit{lateLamp(5), byTurns(slow(5), 2)}) {
		for _, set := range subsets(l.Auto.States) {
			depth := depthOrCode(t, l, set)
			longest := int64(0)
			for _, s := range set {
				letters, last, code := impl.AdaptiveRun(l, set, s)
				if depth == endless {
					if code != impl.ErrNotFound {
						t.Errorf("AdaptiveRun(%v, %v, %d): code %d", l, set, s, code)
					}
					continue
				}
				longest = max(longest, int64(len(letters)))
				if believed := followRun(t, l, set, s, letters); !slices.Equal(believed, list(last)) || last != modelLead(l.Auto, s, letters) {
					t.Errorf("AdaptiveRun(%v, %v, %d): %v %d, believed are %v", l, set, s, letters, last, believed)
				}
			}
			if depth != endless && longest != depth {
				t.Errorf("AdaptiveRun(%v, %v): the longest run has %d letters, the depth is %d", l, set, longest, depth)
			}
		}
	}
}

// followRun returns what is believed behind a run.
func followRun(t *testing.T, l impl.Lit, believed []int64, s int64, letters []int64) []int64 {
	t.Helper()
	for i, x := range letters {
		if best, code := impl.AdaptiveLetter(l, believed); best != x || code != impl.OK {
			t.Errorf("letter %d of the run %v of %v: AdaptiveLetter is %d, code %d", i, letters, l, best, code)
		}
		s = l.Auto.Next[x][s]
		believed, _ = impl.Believed(l, believed, x, l.Lamps[s])
	}
	return believed
}

// TestPromise20WithoutLamps tells that without anything to see, the depth is the length of the first word that leads from all states of the set to one, and a run is such a word.
func TestPromise20WithoutLamps(t *testing.T) {
	t.Parallel()
	for _, a := range slices.Concat(smallAutomata(), randomAutomata(60, 4, 6), []impl.Automaton{slow(4), slow(5)}) {
		for _, set := range subsets(a.States) {
			word, code := impl.ShortestFor(a, set)
			want := int64(len(word))
			if code != impl.OK {
				want = endless
			}
			if got := depthOrCode(t, byTurns(a, 1), set); got != want {
				t.Errorf("AdaptiveDepth(%v, %v): got %d, the first word has %d letters", a, set, got, want)
			}
		}
	}
}

// TestPromise20MoreLamps tells that with more to see, less letters are needed.
func TestPromise20MoreLamps(t *testing.T) {
	for _, l := range randomLits(100, 2, 7) {
		for _, set := range lists(upTo(l.Auto.States), list(0, l.Auto.States-1)) {
			fewer := lit(l.Auto, make([]int64, l.Auto.States)...)
			for s, lamp := range l.Lamps {
				fewer.Lamps[s] = lamp / 2
			}
			if more, less := depthOrCode(t, fewer, set), depthOrCode(t, l, set); less > more {
				t.Errorf("depth of %v in %v: %d, with fewer lamps %d", set, l, less, more)
			}
		}
	}
}

// TestPromise20ManyLits compares the functions with their models for automata with more states.
func TestPromise20ManyLits(t *testing.T) {
	t.Parallel()
	for i, l := range slices.Concat(randomLits(120, 5, 7), randomLits(12, 8, 10), settledLits(randomLits(40, 3, 6))) {
		all := upTo(l.Auto.States)
		half := all[:len(all)/2]
		for _, set := range lists(all, half, all[len(half):], list(0, l.Auto.States-1)) {
			if len(set) > 1 && set[0] == set[1] {
				continue
			}
			named("AdaptiveDepth").compare(t, l, set)
			named("AdaptiveLetter").compare(t, l, set)
			named("AdaptiveRun").compare(t, l, set, set[i%len(set)])
			named("Believed").compare(t, l, set, int64(i%len(l.Auto.Next)), int64(i%impl.MaxLamps))
		}
	}
}
