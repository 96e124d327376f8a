package tests

import (
	"math"
	"slices"
	"testing"

	"loop.example/g01102/impl"
)

func TestPromise16PairAutomata(t *testing.T) {
	pairs := func(m impl.Machine, want impl.Automaton) {
		t.Helper()
		expect(t, "PairAutomaton", impl.PairAutomaton, []any{m}, []any{want, impl.OK})
	}
	pairs(machineExample(), auto(2, list(1, 1), list(1, 1)))
	// With one state there is only the end.
	pairs(silent(auto(1, list(0))), auto(1, list(0)))
	pairs(readMachine("machine 1 3 3\nletter 0/2\nletter 0/0\nletter 0/1\n"), auto(1, list(0), list(0), list(0)))
	pairs(silent(auto(2, list(0, 1), list(1, 0), list(1, 1))), auto(2, list(0, 1), list(0, 1), list(1, 1)))
	pairs(readMachine("machine 2 2 1\nletter 0/0 1/1\n"), auto(2, list(1, 1)))
	// The pairs are 0 1, 0 2, 1 2, and 0 1, 0 2, 0 3, 1 2, 1 3, 2 3; the end is behind them.
	pairs(silent(cycle(3)), auto(4, list(2, 0, 1, 3)))
	pairs(bell(3), auto(4, list(2, 3, 3, 3)))
	pairs(silent(auto(3, list(2, 2, 1))), auto(4, list(3, 2, 2, 3)))
	pairs(silent(cycle(4)), auto(7, list(3, 4, 0, 5, 1, 2, 6)))
	pairs(bell(4), auto(7, list(3, 4, 6, 5, 6, 6, 6)))
	pairs(silent(auto(4, list(1, 1, 3, 2), list(3, 2, 1, 0))), auto(7, list(6, 4, 3, 4, 3, 5, 6), list(5, 4, 2, 3, 1, 0, 6)))
	for n := int64(5); n <= impl.MaxStates; n++ {
		expect(t, "PairAutomaton", impl.PairAutomaton, []any{bell(n)}, []any{impl.Automaton{}, impl.ErrLimit})
		expect(t, "PairAutomaton", impl.PairAutomaton, []any{silent(auto(n, repeated(0, int(n))))}, []any{impl.Automaton{}, impl.ErrLimit})
	}
	expect(t, "PairAutomaton", impl.PairAutomaton, []any{bell(11)}, []any{impl.Automaton{}, impl.ErrInvalid})
	for _, m := range manyMachines() {
		named("PairAutomaton").compare(t, m)
	}
}

// fewStates are machines with at most four states, for which there is an automaton of pairs.
func fewStates() []impl.Machine {
	return slices.DeleteFunc(slices.Concat(manyMachines(), allMachines(3, 2, 2, 31), allMachines(4, 1, 3, 41), randomMachines(300, 4, 4)), func(m impl.Machine) bool { return m.States > 4 })
}

// TestPromise16HomingWordsResetPairs tells that a word is homing just if it is a reset word of the automaton of pairs, and that the first homing word is its first reset word.
func TestPromise16HomingWordsResetPairs(t *testing.T) {
	t.Parallel()
	resets, none := 0, 0
	for _, m := range fewStates() {
		a, code := impl.PairAutomaton(m)
		if code != impl.OK {
			t.Fatalf("PairAutomaton(%v): %d", m, code)
		}
		for _, w := range machineWords(m, 4) {
			yes, code := impl.IsReset(a, w)
			if homing, same := impl.IsHoming(m, w); homing != yes || same != code {
				t.Errorf("IsHoming(%v, %v): got %v %d, but for the pairs %v %d", m, w, homing, same, yes, code)
			}
			if yes {
				resets++
			}
		}
		first, code := impl.ShortestReset(a)
		expect(t, "HomingWord", impl.HomingWord, []any{m}, []any{first, code})
		if code == impl.ErrNotFound {
			none++
		}
	}
	if resets < 10000 || none < 100 {
		t.Errorf("only %d words reset pairs, and only %d machines have no homing word", resets, none)
	}
}

// TestPromise16WithoutOutputs tells that without different outputs the homing words are the reset words, and that no word tells anything then.
func TestPromise16WithoutOutputs(t *testing.T) {
	t.Parallel()
	for _, a := range variedAutomata() {
		m := silent(a)
		for _, w := range allWords(a, 3) {
			yes, code := impl.IsReset(a, w)
			if homing, same := impl.IsHoming(m, w); homing != yes || same != code {
				t.Errorf("IsHoming(%v, %v): got %v %d, without outputs %v %d", m, w, homing, same, yes, code)
			}
			if telling, code := impl.IsTelling(m, w); telling != (a.States == 1) || code != impl.OK {
				t.Errorf("IsTelling(%v, %v): got %v %d", m, w, telling, code)
			}
		}
		first, code := impl.ShortestReset(a)
		expect(t, "HomingWord", impl.HomingWord, []any{m}, []any{first, code})
		if a.States > 1 {
			expect(t, "TellingWord", impl.TellingWord, []any{m}, []any{nil, impl.ErrNotFound})
			expect(t, "IdentifyingWord", impl.IdentifyingWord, []any{m, a.States - 1}, []any{nil, impl.ErrNotFound})
			expect(t, "TellingSet", impl.TellingSet, []any{m}, []any{nil, impl.ErrState})
		}
	}
}

func TestPromise16HomingAndTelling(t *testing.T) {
	is := func(m impl.Machine, w []int64, homing, telling bool) {
		t.Helper()
		expect(t, "IsHoming", impl.IsHoming, []any{m, w}, []any{homing, impl.OK})
		expect(t, "IsTelling", impl.IsTelling, []any{m, w}, []any{telling, impl.OK})
	}
	m := machineExample()
	is(m, nil, false, false)
	is(m, list(), false, false)
	is(m, word("a"), true, true)
	is(m, word("b"), true, false)
	is(m, word("ba"), true, false)
	is(m, word("ab"), true, true)
	is(m, append(repeated(1, impl.MaxWord-1), 0), true, false)
	is(m, repeated(0, impl.MaxWord), true, true)
	is(bell(3), word("a"), false, false)
	is(bell(3), word("aa"), true, true)
	is(bell(10), repeated(0, 8), false, false)
	is(bell(10), repeated(0, 9), true, true)
	// Different outputs need not be for the same letter of the word; equal outputs may be followed by different states.
	is(comingTogether(), word("a"), true, false)
	is(comingTogether(), word("b"), true, false)
	is(comingTogether(), word("ab"), true, false)
	is(readMachine("machine 3 3 1\nletter 0/0 1/1 2/2\n"), word("a"), true, true)
	is(readMachine("machine 3 2 1\nletter 1/0 2/1 1/0\n"), word("a"), true, false)
	is(readMachine("machine 4 2 1\nletter 1/0 0/0 3/1 2/1\n"), repeated(0, impl.MaxWord), false, false)
	is(silent(cycle(10)), repeated(0, impl.MaxWord), false, false)
	is(silent(slow(3)), word("baab"), true, false)
	is(silent(slow(3)), word("baa"), false, false)
	for letters := range int64(impl.MaxLetters) {
		one := silent(auto(1, slices.Repeat(lists(list(0)), int(letters)+1)...))
		is(one, nil, true, true)
		is(one, list(letters), true, true)
		is(one, repeated(letters, impl.MaxWord), true, true)
	}
	for _, w := range lists(list(2), list(-1), list(0, 1, 2), list(math.MinInt64), list(math.MaxInt64, 0), repeated(0, impl.MaxWord+1)) {
		expect(t, "IsHoming", impl.IsHoming, []any{m, w}, []any{false, impl.ErrRange})
		expect(t, "IsTelling", impl.IsTelling, []any{m, w}, []any{false, impl.ErrRange})
	}
	for _, m := range manyMachines() {
		for _, w := range machineWords(m, 2) {
			named("IsHoming").compare(t, m, w)
			named("IsTelling").compare(t, m, w)
		}
	}
}

func TestPromise16FirstWords(t *testing.T) {
	homing := func(m impl.Machine, want string) {
		t.Helper()
		expect(t, "HomingWord", impl.HomingWord, []any{m}, []any{word(want), impl.OK})
	}
	telling := func(m impl.Machine, want string) {
		t.Helper()
		expect(t, "TellingWord", impl.TellingWord, []any{m}, []any{word(want), impl.OK})
	}
	identify := func(m impl.Machine, s int64, want string) {
		t.Helper()
		expect(t, "IdentifyingWord", impl.IdentifyingWord, []any{m, s}, []any{word(want), impl.OK})
	}
	// With one state, the empty word tells all that there is to tell.
	for _, m := range []impl.Machine{silent(auto(1, list(0))), readMachine("machine 1 3 3\nletter 0/2\nletter 0/0\nletter 0/1\n")} {
		homing(m, "-")
		telling(m, "-")
		identify(m, 0, "-")
	}
	homing(bell(3), "aa")
	telling(bell(3), "aa")
	identify(bell(3), 0, "aa")
	identify(bell(3), 1, "aa")
	identify(bell(3), 2, "a")
	homing(bell(10), "aaaaaaaaa")
	telling(bell(10), "aaaaaaaaa")
	identify(bell(10), 4, "aaaaaa")
	identify(bell(10), 0, "aaaaaaaaa")
	// Of several words of one length, the first one; a shorter word comes before one with lesser letters.
	ways := readMachine("machine 2 2 3\nletter 0/0 1/0\nletter 1/0 1/0\nletter 0/1 1/0\n")
	homing(ways, "b")
	telling(ways, "c")
	identify(ways, 1, "c")
	homing(readMachine("machine 3 2 2\nletter 1/0 2/0 0/1\nletter 0/0 0/0 0/0\n"), "b")
	telling(readMachine("machine 3 2 2\nletter 1/0 2/0 0/1\nletter 0/0 0/0 0/0\n"), "aa")
	homing(silent(slow(3)), "baab")
	// States that come together with the same output: no telling word, but a homing one.
	come := comingTogether()
	homing(come, "a")
	identify(come, 1, "b")
	identify(come, 2, "a")
	for _, m := range []impl.Machine{come, doubled(bell(3)), readMachine("machine 2 2 1\nletter 0/1 0/1\n"), readMachine("machine 4 2 1\nletter 0/0 0/0 1/1 1/1\n")} {
		expect(t, "TellingWord", impl.TellingWord, []any{m}, []any{nil, impl.ErrNotFound})
		expect(t, "IdentifyingWord", impl.IdentifyingWord, []any{m, 0}, []any{nil, impl.ErrNotFound})
	}
	homing(readMachine("machine 2 2 1\nletter 0/1 0/1\n"), "a")
	homing(readMachine("machine 3 2 1\nletter 1/0 2/1 1/0\n"), "a")
	// The states 2 and 3 come together, but only after a word that tells them from the state 0.
	identify(readMachine("machine 4 2 1\nletter 3/0 0/0 1/1 1/1\n"), 0, "aa")
	identify(readMachine("machine 4 2 1\nletter 3/0 0/0 1/1 1/1\n"), 1, "aa")
	expect(t, "IdentifyingWord", impl.IdentifyingWord, []any{readMachine("machine 4 2 1\nletter 3/0 0/0 1/1 1/1\n"), 2}, []any{nil, impl.ErrNotFound})
	for _, m := range []impl.Machine{silent(cycle(2)), silent(cycle(10)), doubled(bell(5)), readMachine("machine 4 2 1\nletter 1/0 0/0 3/1 2/1\n")} {
		expect(t, "HomingWord", impl.HomingWord, []any{m}, []any{nil, impl.ErrNotFound})
	}
	for _, s := range list(-1, 3, 10, math.MinInt64, math.MaxInt64) {
		expect(t, "IdentifyingWord", impl.IdentifyingWord, []any{bell(3), s}, []any{nil, impl.ErrRange})
	}
}

// identifies reports whether a word distinguishes s from each other state.
func identifies(m impl.Machine, s int64, w []int64) bool {
	for u := range m.States {
		if u != s && slices.Equal(read(m, s, w), read(m, u, w)) {
			return false
		}
	}
	return true
}

// TestPromise16ShortWords goes through all short words in their order: the first one that is homing, telling or identifying is HomingWord, TellingWord or IdentifyingWord.
func TestPromise16ShortWords(t *testing.T) {
	t.Parallel()
	const longest = 5
	lengths := map[int]int{}
	for _, m := range slices.Concat(validMachines(), smallMachines(), adaptiveMachines(), randomMachines(200, 3, 6), swollenMachines(40, 7)) {
		words := machineWords(m, longest)
		look := func(name string, fn any, args []any, w []int64, code int64, isTrue func(w []int64) bool) {
			t.Helper()
			lengths[min(len(w), longest+1)]++
			if want, found := firstWordFor(words, isTrue); found == impl.OK {
				expect(t, name, fn, args, []any{want, impl.OK})
			} else if code == impl.OK && (len(w) <= longest || !isTrue(w)) {
				t.Errorf("%s(%v): got %v", name, args, w)
			}
		}
		w, code := impl.HomingWord(m)
		look("HomingWord", impl.HomingWord, []any{m}, w, code, func(w []int64) bool { yes, _ := impl.IsHoming(m, w); return yes })
		w, code = impl.TellingWord(m)
		look("TellingWord", impl.TellingWord, []any{m}, w, code, func(w []int64) bool { yes, _ := impl.IsTelling(m, w); return yes })
		for s := range m.States {
			w, code = impl.IdentifyingWord(m, s)
			look("IdentifyingWord", impl.IdentifyingWord, []any{m, s}, w, code, func(w []int64) bool { return identifies(m, s, w) })
		}
	}
	for length := range longest + 2 {
		if lengths[length] < 10 {
			t.Errorf("there are too few words of some lengths: %v", lengths)
		}
	}
}

// TestPromise16WordsOfManyMachines compares first words with their models, the errors among them.
func TestPromise16WordsOfManyMachines(t *testing.T) {
	all := append(manyMachines(), longHoming(), longTelling(), longIdentifying())
	for _, name := range []string{"HomingWord", "TellingWord", "TellingSet"} {
		t.Run(name, func(t *testing.T) {
			t.Parallel()
			for _, m := range all {
				named(name).compare(t, m)
			}
		})
	}
	t.Run("IdentifyingWord", func(t *testing.T) {
		t.Parallel()
		for _, m := range all {
			for s := range m.States {
				named("IdentifyingWord").compare(t, m, s)
			}
		}
	})
}

func TestPromise16LongWords(t *testing.T) {
	w, code := impl.HomingWord(longHoming())
	yes, _ := impl.IsHoming(longHoming(), w)
	less, _ := impl.IsHoming(longHoming(), w[:len(w)-1])
	if code != impl.OK || len(w) != 66 || !yes || less {
		t.Errorf("HomingWord: got %v %d with %d letters", w, code, len(w))
	}
	w, code = impl.TellingWord(longTelling())
	yes, _ = impl.IsTelling(longTelling(), w)
	less, _ = impl.IsTelling(longTelling(), w[:len(w)-1])
	if code != impl.OK || len(w) != 41 || !yes || less {
		t.Errorf("TellingWord: got %v %d with %d letters", w, code, len(w))
	}
	m := longIdentifying()
	w, code = impl.IdentifyingWord(m, 0)
	if code != impl.OK || len(w) != 62 || !identifies(m, 0, w) || identifies(m, 0, w[:len(w)-1]) {
		t.Errorf("IdentifyingWord: got %v %d with %d letters", w, code, len(w))
	}
}

// TestPromise16Doubts reaches MaxUncertain doubts, and passes it by one: with a doubt without sets, which is found as the last one that may be or behind it, and with none.
func TestPromise16Doubts(t *testing.T) {
	for i, all := range [][]doubtful{doubtfulHoming(), doubtfulTelling()} {
		name, fn, tells := "HomingWord", any(impl.HomingWord), false
		if i == 1 {
			name, fn, tells = "TellingWord", impl.TellingWord, true
		}
		for _, each := range all {
			t.Run(name, func(t *testing.T) {
				t.Parallel()
				m := readMachine(each.text)
				want, doubts, code := modelSettling(m, tells)
				if doubts != each.doubts || code != each.code {
					t.Errorf("%q: %d doubts, code %d", each.text, doubts, code)
				}
				expect(t, name, fn, []any{m}, []any{want, code})
			})
		}
	}
}

func TestPromise16TellingSets(t *testing.T) {
	set := func(m impl.Machine, want ...string) {
		t.Helper()
		expect(t, "TellingSet", impl.TellingSet, []any{m}, []any{words(want...), impl.OK})
	}
	// With one state there is nothing to tell.
	set(silent(auto(1, list(0))))
	set(machineExample(), "a")
	set(bell(4), "aaa")
	set(bell(10), "aaaaaaaaa")
	// The word for the first pair distinguishes the other ones already, or not; words stand in the order in which they are needed.
	set(comingTogether(), "b", "a")
	set(readMachine("machine 3 2 2\nletter 0/0 1/1 2/1\nletter 0/0 1/0 2/1\n"), "a", "b")
	set(readMachine("machine 3 2 2\nletter 0/0 1/0 2/1\nletter 0/0 1/1 2/1\n"), "b", "a")
	set(readMachine("machine 3 3 2\nletter 0/0 1/1 2/2\nletter 0/0 1/1 2/2\n"), "a")
	set(readMachine("machine 3 3 2\nletter 0/0 1/1 2/1\nletter 0/0 1/1 2/2\n"), "a", "b")
	set(readMachine("machine 4 2 3\nletter 0/0 1/0 2/0 3/1\nletter 0/0 1/0 2/1 3/0\nletter 0/0 1/1 2/0 3/0\n"), "c", "b", "a")
	set(readMachine("machine 4 2 2\nletter 1/0 2/0 3/0 0/1\nletter 0/1 1/0 2/0 3/0\n"), "b", "aa")
	// Two states that are equivalent, the first ones, the last ones, or others.
	for _, m := range []impl.Machine{
		readMachine("machine 3 2 1\nletter 1/0 2/1 1/0\n"), readMachine("machine 3 2 1\nletter 2/0 2/0 1/1\n"), readMachine("machine 3 2 1\nletter 0/1 1/0 1/0\n"),
		doubled(machineExample()), doubled(bell(5)), silent(cycle(10)), silent(cycle(2)),
	} {
		expect(t, "TellingSet", impl.TellingSet, []any{m}, []any{nil, impl.ErrState})
		expect(t, "HomingTree", impl.HomingTree, []any{m}, []any{impl.Tree{}, impl.ErrState})
	}
}

// TestPromise16TellingSetsTellAll tells that the words of a telling set tell all states apart, that each is the first one for a pair that those before it do not distinguish, and that there is a set just if no two states are equivalent.
func TestPromise16TellingSetsTellAll(t *testing.T) {
	t.Parallel()
	several := 0
	for _, m := range manyMachines() {
		class, _ := impl.EquivalentStates(m)
		set, code := impl.TellingSet(m)
		if (code == impl.OK) != slices.Equal(class, upTo(m.States)) {
			t.Errorf("TellingSet(%v): %d, but the classes are %v", m, code, class)
		}
		if code != impl.OK {
			continue
		}
		if len(set) > 1 {
			several++
		}
		next := 0
		for _, p := range modelPairs(upTo(m.States)) {
			distinguishes := func(w []int64) bool { return !slices.Equal(read(m, p[0], w), read(m, p[1], w)) }
			if !slices.ContainsFunc(set[:next], distinguishes) {
				if next == len(set) {
					t.Fatalf("TellingSet(%v): %v does not tell %v", m, set, p)
				}
				expect(t, "DistinguishingWord", impl.DistinguishingWord, []any{m, p[0], p[1]}, []any{set[next], impl.OK})
				next++
			}
		}
		if next < len(set) {
			t.Errorf("TellingSet(%v): %v has %d words too many", m, set, len(set)-next)
		}
	}
	if several < 100 {
		t.Errorf("only %d telling sets have several words", several)
	}
}
