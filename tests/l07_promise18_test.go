package tests

import (
	"math"
	"math/rand"
	"slices"
	"testing"

	"loop.example/g01102/impl"
)

func TestPromise18ExampleOfChapter7(t *testing.T) {
	expect(t, "CompleteSuite", impl.CompleteSuite, []any{readMachine(toggleText), 0}, []any{words("aaa"), impl.OK})
}

func TestPromise18CompleteSuites(t *testing.T) {
	complete := func(m impl.Machine, extra int64, want ...string) {
		t.Helper()
		expect(t, "CompleteSuite", impl.CompleteSuite, []any{m, extra}, []any{words(want...), impl.OK})
	}
	complete(toggle(), 0, "aaa")
	complete(toggle(), 1, "aaaa")
	complete(toggle(), 2, "aaaaa")
	// With one state there is nothing to tell, but each letter is read.
	for _, one := range []impl.Machine{silent(auto(1, list(0))), readMachine("machine 1 3 1\nletter 0/2\n")} {
		complete(one, 0, "a")
		complete(one, 1, "aa")
		complete(one, 2, "aaa")
	}
	for _, one := range []impl.Machine{silent(auto(1, list(0), list(0), list(0))), readMachine("machine 1 3 3\nletter 0/2\nletter 0/0\nletter 0/1\n")} {
		complete(one, 0, "a", "b", "c")
		complete(one, 1, "aa", "ab", "ac", "ba", "bb", "bc", "ca", "cb", "cc")
		expect(t, "CompleteSuite", impl.CompleteSuite, []any{one, 2}, []any{allLists(3, 0, 2), impl.OK})
	}
	// The words "-", "a", "b", "aa" and "ab", and "a" behind them; "a", "aa" and "aaa" begin others.
	complete(machineExample(), 0, "ba", "aaa", "aba")
	complete(machineExample(), 1, "baa", "bba", "aaaa", "aaba", "abaa", "abba")
	complete(bell(3), 0, "aaaaa")
	complete(bell(10), 2, string(slices.Repeat([]byte("a"), 10+2+9)))
	// Words that tell states apart stand behind all others; here they are "b" and "a".
	complete(readMachine("machine 3 2 2\nletter 1/0 2/0 0/1\nletter 0/0 1/1 2/0\n"), 0, "ba", "bb", "aba", "abb", "aaaa", "aaab", "aaba", "aabb")
	complete(comingTogetherFrom(2), 0, "aa", "ab", "baa", "bab", "bbaa", "bbab", "bbba", "bbbb")
}

// comingTogetherFrom returns a machine whose states can be reached and are told apart by "a" and "b", but not by one word.
func comingTogetherFrom(last int64) impl.Machine {
	return machine(3, 2, lists(list(0, 0, 0), list(1, last, 0)), lists(list(0, 0, 1), list(1, 0, 1)))
}

func TestPromise18CompleteErrors(t *testing.T) {
	refuse := func(m impl.Machine, extra int64, code int) {
		t.Helper()
		expect(t, "CompleteSuite", impl.CompleteSuite, []any{m, extra}, []any{nil, code})
	}
	// Two states are equivalent, or cannot be reached, or both.
	broken := []impl.Machine{
		silent(cycle(2)), silent(cycle(10)), doubled(bell(3)), doubled(bell(5)), readMachine("machine 2 2 1\nletter 0/0 0/1\n"), readMachine("machine 3 2 1\nletter 1/0 2/1 1/0\n"), readMachine("machine 2 2 2\nletter 0/0 1/1\nletter 0/0 0/1\n"),
		readMachine("machine 3 2 1\nletter 1/0 0/1 1/1\n"), readMachine("machine 3 2 1\nletter 1/0 0/0 0/1\n"), silent(auto(2, list(0, 1))),
	}
	for _, m := range append(broken, toggle(), silent(auto(1, list(0))), readMachine(crowdedMachines()[3].text)) {
		for _, extra := range list(-1, impl.MaxExtra+1, 10, math.MinInt64, math.MaxInt64) {
			refuse(m, extra, impl.ErrRange)
		}
	}
	for extra := range int64(impl.MaxExtra + 1) {
		for _, m := range broken {
			refuse(m, extra, impl.ErrState)
		}
		for _, m := range invalidMachines() {
			refuse(m, extra, impl.ErrInvalid)
			refuse(m, -1, impl.ErrInvalid)
		}
	}
	// There would be too many words as well.
	lost := readMachine(crowdedMachines()[3].text)
	for letter := range lost.Next {
		for s, next := range lost.Next[letter] {
			lost.Next[letter][s] = next % 9
		}
	}
	refuse(lost, 2, impl.ErrState)
}

// TestPromise18CompleteLimit reaches MaxSuite words, and passes it by one: they are counted before those that are not maximal are left out, but those that are put together twice count once.
func TestPromise18CompleteLimit(t *testing.T) {
	for _, c := range crowdedMachines() {
		m := readMachine(c.text)
		all, code := modelCompleteWords(m, c.extra)
		if code != impl.OK || len(all) != c.before || len(modelMaximal(all)) > impl.MaxSuite {
			t.Fatalf("%q: %d words, code %d", c.text, len(all), code)
		}
		if c.before > impl.MaxSuite {
			expect(t, "CompleteSuite", impl.CompleteSuite, []any{m, c.extra}, []any{nil, impl.ErrLimit})
		} else {
			expect(t, "CompleteSuite", impl.CompleteSuite, []any{m, c.extra}, []any{modelMaximal(all), impl.OK})
		}
		expect(t, "CompleteSuite", impl.CompleteSuite, []any{m, c.extra + 1}, []any{nil, impl.ErrLimit})
	}
}

// TestPromise18CompleteSuitesOfMachines compares complete suites with their models, the errors among them; each is a suite for its machine, and no word of it begins another one.
func TestPromise18CompleteSuitesOfMachines(t *testing.T) {
	t.Parallel()
	codes := map[int64]int{}
	for _, m := range slices.Concat(manyMachines(), coveredMachines()) {
		for extra := range int64(impl.MaxExtra + 1) {
			named("CompleteSuite").compare(t, m, extra)
			suite, code := impl.CompleteSuite(m, extra)
			codes[code]++
			if code != impl.OK {
				continue
			}
			if !impl.ValidSuite(m, suite) {
				t.Errorf("CompleteSuite(%v, %d): got %v", m, extra, suite)
			}
			expect(t, "MaximalWords", impl.MaximalWords, []any{m, suite}, []any{suite, impl.OK})
		}
	}
	if codes[impl.OK] < 2000 || codes[impl.ErrState] < 1000 || codes[impl.ErrLimit] < 50 {
		t.Errorf("there are too few of some codes: %v", codes)
	}
}

// findAllFaults goes through all machines with at most so many more states, and one of so many of those with the most states: those that pass are equivalent.
func findAllFaults(t *testing.T, m impl.Machine, extra int64, of int) {
	t.Helper()
	suite, code := impl.CompleteSuite(m, extra)
	if code != impl.OK {
		t.Fatalf("CompleteSuite(%v, %d): %d", m, extra, code)
	}
	passed := 0
	for states := int64(1); states <= m.States+extra; states++ {
		step := 1
		if states == m.States+extra {
			step = of
		}
		all := modelAllMachines(states, m.Outputs, len(m.Next))
		for i := 0; i < len(all); i += step {
			n := all[i]
			if yes, _ := impl.Passes(m, n, suite); !yes {
				continue
			}
			passed++
			if w, code := impl.MachineDifference(m, n); code != impl.ErrNotFound {
				t.Fatalf("CompleteSuite(%v, %d): got %v, but %v passes and differs by %v", m, extra, suite, n, w)
			}
		}
	}
	if passed == 0 && of == 1 {
		t.Errorf("CompleteSuite(%v, %d): not even the machine itself passes", m, extra)
	}
}

func TestPromise18AllFaultsAreFound(t *testing.T) {
	for _, each := range []struct {
		machines []impl.Machine
		extra    int64
		of       int
	}{
		{slices.Concat(allMachines(1, 1, 1, 1), allMachines(1, 1, 2, 1), allMachines(1, 1, 3, 1)), 2, 1},
		{slices.Concat(allMachines(1, 2, 1, 1), allMachines(1, 2, 2, 1), allMachines(1, 3, 2, 1)), 1, 1},
		{allMachines(1, 2, 2, 1), 2, 5},
		{slices.Concat(allMachines(2, 1, 2, 1), allMachines(2, 1, 3, 1)), 1, 1},
		{allMachines(2, 1, 2, 1), 2, 1},
		{allMachines(2, 2, 2, 1), 0, 1},
		{allMachines(2, 2, 2, 11), 1, 1},
		{slices.Concat(allMachines(2, 3, 2, 61), allMachines(2, 2, 3, 31)), 0, 1},
		{slices.Concat(allMachines(3, 1, 2, 1), allMachines(3, 1, 3, 1)), 0, 1},
		{allMachines(3, 1, 2, 1), 1, 1},
		{allMachines(3, 2, 2, 501), 0, 1},
	} {
		covered := slices.DeleteFunc(slices.Clone(each.machines), func(m impl.Machine) bool { return !isCovered(m) })
		t.Run("machines", func(t *testing.T) {
			t.Parallel()
			for _, m := range covered {
				findAllFaults(t, m, each.extra, each.of)
			}
		})
	}
}

// TestPromise18SurvivorsOfCompleteSuites tells that no machine survives a complete suite, but that some do with one state more than it is for.
func TestPromise18SurvivorsOfCompleteSuites(t *testing.T) {
	t.Parallel()
	missed := 0
	for _, m := range slices.Concat(allMachines(1, 1, 2, 1), allMachines(1, 2, 2, 1), allMachines(2, 1, 2, 1), allMachines(2, 2, 2, 17), allMachines(3, 1, 2, 7)) {
		for extra := int64(0); isCovered(m) && extra <= impl.MaxExtra; extra++ {
			suite, _ := impl.CompleteSuite(m, extra)
			states := m.States + extra
			if modelCountMachines(states, m.Outputs, len(m.Next)) <= impl.MaxTried {
				expect(t, "FirstSurvivor", impl.FirstSurvivor, []any{m, suite, states}, []any{impl.Machine{}, impl.ErrNotFound})
			}
			if modelCountMachines(states+1, m.Outputs, len(m.Next)) <= 5000 {
				if n, code := impl.FirstSurvivor(m, suite, states+1); code == impl.OK && n.States == states+1 {
					missed++
				}
			}
		}
	}
	if missed < 20 {
		t.Errorf("only %d machines with one state more survive", missed)
	}
}

// grown returns a machine with more states, which does the same as another one, but for up to two outputs or next states that may be changed.
func grown(source *rand.Rand, m impl.Machine, extra int64) impl.Machine {
	class := upTo(m.States)
	for range extra {
		class = append(class, source.Int63n(m.States))
	}
	source.Shuffle(len(class)-1, func(i, k int) { class[i+1], class[k+1] = class[k+1], class[i+1] })
	n := swollen(source, m, class)
	for range source.Intn(3) {
		letter, s := source.Intn(len(m.Next)), source.Int63n(n.States)
		if source.Intn(2) == 0 {
			n.Out[letter][s] = source.Int63n(n.Outputs)
		} else {
			n.Next[letter][s] = source.Int63n(n.States)
		}
	}
	return n
}

// TestPromise18FaultsOfManyStates finds faults of machines with many states, and all mutants.
func TestPromise18FaultsOfManyStates(t *testing.T) {
	t.Parallel()
	source := rand.New(rand.NewSource(18))
	failed, passed := 0, 0
	for _, m := range coveredMachines() {
		for extra := range int64(impl.MaxExtra + 1) {
			suite, code := impl.CompleteSuite(m, extra)
			if code != impl.OK || m.States+extra > impl.MaxStates {
				continue
			}
			if killed, equivalent, neither, _ := impl.CoverageOf(m, suite); neither > 0 {
				t.Errorf("CompleteSuite(%v, %d): %d mutants are killed, %d equivalent, %d neither", m, extra, killed, equivalent, neither)
			}
			for range 8 {
				n := grown(source, m, extra)
				yes, _ := impl.Passes(m, n, suite)
				w, code := impl.MachineDifference(m, n)
				if yes != (code == impl.ErrNotFound) {
					t.Errorf("CompleteSuite(%v, %d): %v passes: %v, but MachineDifference is %v %d", m, extra, n, yes, w, code)
				}
				if yes {
					passed++
				} else {
					failed++
				}
			}
		}
	}
	if failed < 5000 || passed < 5000 {
		t.Errorf("only %d machines have failed, and %d passed", failed, passed)
	}
}

func TestPromise18FirstSurvivors(t *testing.T) {
	survives := func(m impl.Machine, suite [][]int64, states int64, want string) {
		t.Helper()
		expect(t, "FirstSurvivor", impl.FirstSurvivor, []any{m, suite, states}, []any{readMachine(want), impl.OK})
	}
	none := func(m impl.Machine, suite [][]int64, states int64) {
		t.Helper()
		expect(t, "FirstSurvivor", impl.FirstSurvivor, []any{m, suite, states}, []any{impl.Machine{}, impl.ErrNotFound})
	}
	// Machines with fewer states than m come first.
	const quiet, loud = "machine 1 2 1\nletter 0/0\n", "machine 1 2 1\nletter 0/1\n"
	for states := int64(1); states <= 4; states++ {
		survives(toggle(), nil, states, quiet)
		survives(toggle(), words("-", "-"), states, quiet)
		survives(toggle(), words("a"), states, quiet)
	}
	none(toggle(), words("aa"), 1)
	survives(toggle(), words("aa"), 2, "machine 2 2 1\nletter 1/0 1/1\n")
	survives(toggle(), words("aa"), 4, "machine 2 2 1\nletter 1/0 1/1\n")
	for states := int64(1); states <= 2; states++ {
		none(toggle(), words("aaa"), states)
	}
	survives(toggle(), words("aaa"), 3, "machine 3 2 1\nletter 1/0 2/1 0/0\n")
	survives(toggle(), words("aaa"), 4, "machine 3 2 1\nletter 1/0 2/1 0/0\n")
	none(toggle(), words("aaaa"), 3)
	survives(toggle(), words("aaaa"), 4, "machine 4 2 1\nletter 1/0 2/1 3/0 1/1\n")
	none(toggle(), words("aaaaa"), 4)
	// An equivalent machine is none, whatever its states are.
	survives(readMachine(quiet), nil, 1, loud)
	none(readMachine(quiet), words("a"), 1)
	survives(readMachine(quiet), words("a"), 2, "machine 2 2 1\nletter 1/0 0/1\n")
	none(readMachine(quiet), words("aa"), 2)
	survives(readMachine(quiet), words("aa"), 3, "machine 3 2 1\nletter 1/0 2/0 0/1\n")
	survives(readMachine("machine 4 2 1\nletter 1/0 2/0 3/0 0/0\n"), nil, 3, loud)
	survives(readMachine("machine 3 3 1\nletter 0/2 0/0 0/0\n"), nil, 3, "machine 1 3 1\nletter 0/0\n")
	// A machine with one output is equivalent to all others.
	for states := int64(1); states <= 5; states++ {
		none(silent(cycle(10)), nil, states)
		none(silent(auto(1, list(0))), fullSuites()[2], states)
	}
	for states := int64(1); states <= 3; states++ {
		none(silent(auto(2, list(1, 1), list(0, 1))), nil, states)
	}
}

// TestPromise18OrderOfSurvivors tells that the next state of the state 0 decides first, then its output, then those of the next states, and then those of the next letters.
func TestPromise18OrderOfSurvivors(t *testing.T) {
	survives := func(m impl.Machine, suite [][]int64, states int64, want string) {
		t.Helper()
		expect(t, "FirstSurvivor", impl.FirstSurvivor, []any{m, suite, states}, []any{readMachine(want), impl.OK})
	}
	two := readMachine("machine 1 2 2\nletter 0/1\nletter 0/1\n")
	// Of the letters, the last one is changed first.
	survives(two, nil, 1, "machine 1 2 2\nletter 0/0\nletter 0/0\n")
	survives(two, words("b"), 1, "machine 1 2 2\nletter 0/0\nletter 0/1\n")
	survives(two, words("a"), 1, "machine 1 2 2\nletter 0/1\nletter 0/0\n")
	survives(readMachine("machine 1 2 2\nletter 0/0\nletter 0/0\n"), nil, 1, "machine 1 2 2\nletter 0/0\nletter 0/1\n")
	// The state 1 is led to by "b" alone: a lesser next state for "a" counts more than lesser outputs.
	survives(two, words("a", "b"), 2, "machine 2 2 2\nletter 0/1 0/0\nletter 1/1 0/0\n")
	survives(two, words("aa", "ab", "ba"), 2, "machine 2 2 2\nletter 0/1 0/1\nletter 1/1 0/0\n")
	survives(two, words("aa", "ab", "bb"), 2, "machine 2 2 2\nletter 0/1 0/0\nletter 1/1 0/1\n")
	survives(two, words("ba", "bb"), 2, "machine 2 2 2\nletter 0/0 0/1\nletter 1/1 0/1\n")
	survives(two, words("aa", "ba", "bb"), 2, "machine 2 2 2\nletter 1/1 0/1\nletter 0/1 0/0\n")
	survives(two, words("ab", "ba", "bb"), 2, "machine 2 2 2\nletter 1/1 0/0\nletter 0/1 0/1\n")
	// A next state counts more than the output beside it.
	survives(toggle(), words("aa"), 2, "machine 2 2 1\nletter 1/0 1/1\n")
	survives(readMachine("machine 2 3 1\nletter 1/2 0/2\n"), words("a"), 2, "machine 2 3 1\nletter 1/2 0/0\n")
	for states, outputs := range map[int64]int64{2: 2, 3: 2, 4: 1} {
		all := modelAllMachines(states, outputs, 1)
		if !slices.IsSortedFunc(all, func(m, n impl.Machine) int { return slices.Compare(modelNumbers(m), modelNumbers(n)) }) {
			t.Errorf("the machines to look at are not in order")
		}
	}
}

func TestPromise18SurvivorErrors(t *testing.T) {
	refuse := func(m impl.Machine, suite [][]int64, states int64, code int) {
		t.Helper()
		expect(t, "FirstSurvivor", impl.FirstSurvivor, []any{m, suite, states}, []any{impl.Machine{}, code})
	}
	for _, bad := range invalidMachines() {
		refuse(bad, nil, 1, impl.ErrInvalid)
		refuse(bad, wrongSuites()[0], 0, impl.ErrInvalid)
	}
	for _, states := range list(-1, 0, impl.MaxStates+1, 100, math.MinInt64, math.MaxInt64) {
		refuse(toggle(), nil, states, impl.ErrRange)
		refuse(toggle(), words("aaa"), states, impl.ErrRange)
	}
	for _, wrong := range append(wrongSuites(), words("b"), words("a", "ab")) {
		for _, states := range list(0, 1, 2, 10, 11) {
			refuse(toggle(), wrong, states, impl.ErrRange)
		}
	}
	// None would be found, or one with fewer states, but there are too many machines to look at.
	refuse(silent(cycle(10)), nil, 7, impl.ErrLimit)
	refuse(silent(cycle(10)), nil, 10, impl.ErrLimit)
	refuse(toggle(), nil, 5, impl.ErrLimit)
	refuse(toggle(), words("aa"), 10, impl.ErrLimit)
	refuse(readMachine("machine 1 3 3\nletter 0/2\nletter 0/0\nletter 0/1\n"), nil, 10, impl.ErrLimit)
}

// TestPromise18SurvivorLimit takes all numbers of states, outputs and letters: as many machines as there may be are looked at.
func TestPromise18SurvivorLimit(t *testing.T) {
	t.Parallel()
	greatest := int64(0)
	for outputs := int64(1); outputs <= impl.MaxOutputs; outputs++ {
		for letters := 1; letters <= impl.MaxLetters; letters++ {
			zeros := slices.Repeat(lists(list(0)), letters)
			m := machine(1, outputs, zeros, zeros)
			for states := int64(1); states <= impl.MaxStates; states++ {
				count := modelCountMachines(states, outputs, letters)
				n, code := impl.FirstSurvivor(m, nil, states)
				if (code == impl.ErrLimit) != (count > impl.MaxTried) {
					t.Errorf("FirstSurvivor with %d states, %d outputs and %d letters: got %v %d", states, outputs, letters, n, code)
				}
				if code != impl.ErrLimit {
					greatest = max(greatest, count)
				}
			}
		}
	}
	if greatest != 46656 {
		t.Errorf("at most %d machines have been looked at", greatest)
	}
	// All of the 46,656 machines with three states have to be looked at.
	last := readMachine("machine 3 2 2\nletter 2/1 2/1 2/1\nletter 2/1 2/1 2/1\n")
	expect(t, "FirstSurvivor", impl.FirstSurvivor, []any{last, words("aaaaaa", "bbbbbb", "ababab", "bababa"), 1}, []any{impl.Machine{}, impl.ErrNotFound})
	suite, _ := impl.CompleteSuite(readMachine("machine 1 2 2\nletter 0/1\nletter 0/1\n"), 2)
	expect(t, "FirstSurvivor", impl.FirstSurvivor, []any{last, suite, 3}, []any{impl.Machine{}, impl.ErrNotFound})
}

// TestPromise18SurvivorsOfMachines compares first survivors with a look at all machines of a few states, in their order; they pass, are not equivalent, and are not too large.
func TestPromise18SurvivorsOfMachines(t *testing.T) {
	t.Parallel()
	source := rand.New(rand.NewSource(181))
	codes := map[int64]int{}
	sizes := map[int64]int{}
	small := slices.DeleteFunc(append(manyMachines(), grownMachines(source)...), func(m impl.Machine) bool { return m.Outputs == 1 })
	for range 1500 {
		m := small[source.Intn(len(small))]
		suite := randomSuite(source, m, 6, 5)
		if source.Intn(3) == 0 {
			suite = slices.Concat(suite, machineWords(m, 2+source.Intn(2)))
		}
		for states := int64(1); states <= 4; states++ {
			if count := modelCountMachines(states, m.Outputs, len(m.Next)); count > 5000 && count <= impl.MaxTried {
				continue
			}
			named("FirstSurvivor").compare(t, m, suite, states)
			n, code := impl.FirstSurvivor(m, suite, states)
			codes[code]++
			if code != impl.OK {
				continue
			}
			sizes[n.States]++
			yes, _ := impl.Passes(m, n, suite)
			if _, code := impl.MachineDifference(m, n); !yes || code != impl.OK || !impl.ValidMachine(n) || n.States > states {
				t.Errorf("FirstSurvivor(%v, %v, %d): got %v", m, suite, states, n)
			}
		}
	}
	if codes[impl.OK] < 500 || codes[impl.ErrNotFound] < 500 || codes[impl.ErrLimit] < 500 || sizes[1] < 200 || sizes[2] < 100 || sizes[3] < 20 || sizes[4] < 5 {
		t.Errorf("there are too few of some codes or sizes: %v %v", codes, sizes)
	}
}

// grownMachines returns machines with one letter, for which many machines of some states can be looked at.
func grownMachines(source *rand.Rand) []impl.Machine {
	var all []impl.Machine
	for range 60 {
		for _, m := range []impl.Machine{toggle(), bell(3), bell(4), readMachine("machine 1 2 1\nletter 0/0\n"), readMachine("machine 2 3 1\nletter 1/0 0/2\n")} {
			all = append(all, grown(source, m, source.Int63n(3)))
		}
	}
	return all
}
