package tests

import (
	"fmt"
	"math"
	"math/rand"
	"slices"
	"testing"

	"loop.example/g01102/impl"
)

func TestPromise19ExampleOfChapter7(t *testing.T) {
	m := readMachine(toggleText)
	expect(t, "MutantCount", impl.MutantCount, []any{m}, []any{4, impl.OK})
	expect(t, "KilledBy", impl.KilledBy, []any{m, words("aaa")}, []any{list(0, 1, 2, 3), impl.OK})
	expect(t, "KilledBy", impl.KilledBy, []any{m, words("a")}, []any{list(0), impl.OK})
}

// mutantsAre tells what all mutants of a machine have to be.
func mutantsAre(t *testing.T, m impl.Machine, texts ...string) {
	t.Helper()
	expect(t, "MutantCount", impl.MutantCount, []any{m}, []any{len(texts), impl.OK})
	for k, text := range texts {
		expect(t, "MutantAt", impl.MutantAt, []any{m, k}, []any{readMachine(text), impl.OK})
	}
	for _, k := range list(-1, int64(len(texts)), int64(len(texts))+1, math.MinInt64, math.MaxInt64) {
		expect(t, "MutantAt", impl.MutantAt, []any{m, k}, []any{impl.Machine{}, impl.ErrRange})
	}
}

func TestPromise19Mutants(t *testing.T) {
	mutantsAre(t, toggle(), "machine 2 2 1\nletter 1/1 0/1\n", "machine 2 2 1\nletter 0/0 0/1\n", "machine 2 2 1\nletter 1/0 0/0\n", "machine 2 2 1\nletter 1/0 1/1\n")
	// With one state there is no other one, and with one output no other one.
	mutantsAre(t, silent(auto(1, list(0))))
	mutantsAre(t, silent(auto(1, list(0), list(0), list(0))))
	mutantsAre(t, silent(cycle(2)), "machine 2 1 1\nletter 0/0 0/0\n", "machine 2 1 1\nletter 1/0 1/0\n")
	mutantsAre(t, readMachine("machine 1 3 1\nletter 0/1\n"), "machine 1 3 1\nletter 0/0\n", "machine 1 3 1\nletter 0/2\n")
	// First the letter counts, then the state, then whether it is the output, then the number.
	mutantsAre(t, readMachine("machine 1 2 3\nletter 0/0\nletter 0/1\nletter 0/0\n"), "machine 1 2 3\nletter 0/1\nletter 0/1\nletter 0/0\n", "machine 1 2 3\nletter 0/0\nletter 0/0\nletter 0/0\n", "machine 1 2 3\nletter 0/0\nletter 0/1\nletter 0/1\n")
	mutantsAre(t, readMachine("machine 3 3 1\nletter 1/2 2/0 0/1\n"),
		"machine 3 3 1\nletter 1/0 2/0 0/1\n", "machine 3 3 1\nletter 1/1 2/0 0/1\n", "machine 3 3 1\nletter 0/2 2/0 0/1\n", "machine 3 3 1\nletter 2/2 2/0 0/1\n",
		"machine 3 3 1\nletter 1/2 2/1 0/1\n", "machine 3 3 1\nletter 1/2 2/2 0/1\n", "machine 3 3 1\nletter 1/2 0/0 0/1\n", "machine 3 3 1\nletter 1/2 1/0 0/1\n",
		"machine 3 3 1\nletter 1/2 2/0 0/0\n", "machine 3 3 1\nletter 1/2 2/0 0/2\n", "machine 3 3 1\nletter 1/2 2/0 1/1\n", "machine 3 3 1\nletter 1/2 2/0 2/1\n")
	mutantsAre(t, machineExample(),
		"machine 2 2 2\nletter 1/1 0/1\nletter 0/0 0/0\n", "machine 2 2 2\nletter 0/0 0/1\nletter 0/0 0/0\n", "machine 2 2 2\nletter 1/0 0/0\nletter 0/0 0/0\n", "machine 2 2 2\nletter 1/0 1/1\nletter 0/0 0/0\n",
		"machine 2 2 2\nletter 1/0 0/1\nletter 0/1 0/0\n", "machine 2 2 2\nletter 1/0 0/1\nletter 1/0 0/0\n", "machine 2 2 2\nletter 1/0 0/1\nletter 0/0 0/1\n", "machine 2 2 2\nletter 1/0 0/1\nletter 0/0 1/0\n")
	for _, bad := range invalidMachines() {
		expect(t, "MutantCount", impl.MutantCount, []any{bad}, []any{0, impl.ErrInvalid})
		for _, k := range list(-1, 0, 5) {
			expect(t, "MutantAt", impl.MutantAt, []any{bad, k}, []any{impl.Machine{}, impl.ErrInvalid})
		}
	}
	all := validMachines()
	expect(t, "MutantCount", impl.MutantCount, []any{all[len(all)-1]}, []any{3 * 10 * (2 + 9), impl.OK})
}

// differencesOf counts the places in which two machines of one size differ.
func differencesOf(m, n impl.Machine) int {
	places := 0
	for letter := range m.Next {
		for s := range m.States {
			if m.Next[letter][s] != n.Next[letter][s] {
				places++
			}
			if m.Out[letter][s] != n.Out[letter][s] {
				places++
			}
		}
	}
	return places
}

// TestPromise19MutantsOfMachines tells that mutants are valid machines, differ in one place, and are different machines.
func TestPromise19MutantsOfMachines(t *testing.T) {
	t.Parallel()
	for _, m := range manyMachines() {
		named("MutantCount").compare(t, m)
		count, _ := impl.MutantCount(m)
		for _, k := range list(-1, 0, count/2, count-1, count) {
			named("MutantAt").compare(t, m, k)
		}
		seen := map[string]bool{}
		for k, want := range modelMutants(m) {
			n, code := impl.MutantAt(m, int64(k))
			if code != impl.OK || !impl.SameMachine(n, want) || !impl.ValidMachine(n) || differencesOf(m, n) != 1 {
				t.Errorf("MutantAt(%v, %d): got %v %d", m, k, n, code)
			}
			seen[impl.MachineText(n)] = true
		}
		if int64(len(seen)) != count {
			t.Errorf("%v: only %d of %d mutants are different", m, len(seen), count)
		}
	}
}

// TestPromise19MutantsAreAll goes through all machines of the same size: those that differ in one place are the mutants.
func TestPromise19MutantsAreAll(t *testing.T) {
	for _, m := range slices.Concat(allMachines(1, 2, 2, 1), allMachines(1, 1, 3, 1), allMachines(2, 1, 2, 1), allMachines(2, 2, 2, 7), allMachines(3, 1, 2, 5)) {
		found := map[string]bool{}
		for _, n := range modelAllMachines(m.States, m.Outputs, len(m.Next)) {
			if differencesOf(m, n) == 1 {
				found[impl.MachineText(n)] = true
			}
		}
		count, _ := impl.MutantCount(m)
		for k := range count {
			n, _ := impl.MutantAt(m, k)
			delete(found, impl.MachineText(n))
		}
		if len(found) > 0 {
			t.Errorf("%v: these are mutants too: %v", m, found)
		}
	}
}

func TestPromise19Killed(t *testing.T) {
	killed := func(m impl.Machine, suite [][]int64, want ...int64) {
		t.Helper()
		expect(t, "KilledBy", impl.KilledBy, []any{m, suite}, []any{want, impl.OK})
	}
	killed(toggle(), nil)
	killed(toggle(), words("-"))
	killed(toggle(), words("a"), 0)
	killed(toggle(), words("aa"), 0, 1, 2)
	killed(toggle(), words("aaa"), 0, 1, 2, 3)
	killed(toggle(), words("a", "-", "a"), 0)
	killed(toggle(), words("aa", "a"), 0, 1, 2)
	killed(machineExample(), words("b"), 4)
	killed(machineExample(), words("b", "a"), 0, 4)
	killed(machineExample(), words("ba"), 0, 4, 5)
	killed(machineExample(), words("aa", "ab"), 0, 1, 2, 6)
	// What cannot be reached cannot be killed.
	lost := readMachine("machine 2 2 1\nletter 0/0 0/1\n")
	killed(lost, lists(repeated(0, impl.MaxWord)), 0, 1)
	for _, none := range []impl.Machine{silent(auto(1, list(0))), silent(cycle(10)), silent(auto(10, upTo(10), repeated(9, 10)))} {
		killed(none, fullSuites()[2])
		killed(none, nil)
	}
	// The mutant 2 differs in the last letter of a long word alone.
	two := readMachine("machine 2 2 2\nletter 0/0 0/0\nletter 1/0 1/0\n")
	long := append(repeated(0, impl.MaxWord-2), 1, 0)
	killed(two, lists(long), 0, 2, 4)
	killed(two, lists(long[:impl.MaxWord-1]), 0, 4)
	full := append(make([][]int64, impl.MaxSuite-1), word("aa"))
	killed(toggle(), full, 0, 1, 2)
	for _, wrong := range append(wrongSuites(), words("b"), words("a", "ab")) {
		expect(t, "KilledBy", impl.KilledBy, []any{toggle(), wrong}, []any{nil, impl.ErrRange})
		expect(t, "CoverageOf", impl.CoverageOf, []any{toggle(), wrong}, []any{0, 0, 0, impl.ErrRange})
		expect(t, "ShrinkSuite", impl.ShrinkSuite, []any{toggle(), wrong}, []any{nil, impl.ErrRange})
	}
}

func TestPromise19Coverage(t *testing.T) {
	covers := func(m impl.Machine, suite [][]int64, killed, equivalent, neither int) {
		t.Helper()
		expect(t, "CoverageOf", impl.CoverageOf, []any{m, suite}, []any{killed, equivalent, neither, impl.OK})
	}
	covers(toggle(), nil, 0, 0, 4)
	covers(toggle(), words("-"), 0, 0, 4)
	covers(toggle(), words("a"), 1, 0, 3)
	covers(toggle(), words("aa"), 3, 0, 1)
	covers(toggle(), words("aaa"), 4, 0, 0)
	// Mutants of transitions that are not reached are equivalent, and so are those that lead to an equivalent state.
	covers(readMachine("machine 2 2 1\nletter 0/0 0/1\n"), nil, 0, 2, 2)
	covers(readMachine("machine 2 2 1\nletter 0/0 0/1\n"), words("aa"), 2, 2, 0)
	covers(readMachine("machine 2 2 1\nletter 0/0 1/0\n"), words("aa"), 1, 3, 0)
	covers(readMachine("machine 2 2 1\nletter 1/0 0/0\n"), words("a"), 1, 2, 1)
	covers(silent(auto(1, list(0))), words("a"), 0, 0, 0)
	covers(silent(cycle(10)), lists(repeated(0, impl.MaxWord)), 0, 90, 0)
	for _, bad := range invalidMachines() {
		expect(t, "CoverageOf", impl.CoverageOf, []any{bad, nil}, []any{0, 0, 0, impl.ErrInvalid})
		expect(t, "KilledBy", impl.KilledBy, []any{bad, wrongSuites()[0]}, []any{nil, impl.ErrInvalid})
		expect(t, "ShrinkSuite", impl.ShrinkSuite, []any{bad, wrongSuites()[0]}, []any{nil, impl.ErrInvalid})
	}
}

// TestPromise19KilledJustIfTheyFail asks FirstFailing and MachineDifference of every mutant.
func TestPromise19KilledJustIfTheyFail(t *testing.T) {
	t.Parallel()
	source := rand.New(rand.NewSource(19))
	var all [3]int64
	for _, m := range manyMachines() {
		for _, suite := range [][][]int64{randomSuite(source, m, 4, 4), randomSuite(source, m, 12, 9)} {
			killed, code := impl.KilledBy(m, suite)
			if code != impl.OK {
				t.Fatalf("KilledBy(%v, %v): %d", m, suite, code)
			}
			var want []int64
			var counts [3]int64
			for k, n := range modelMutants(m) {
				_, _, fails := impl.FirstFailing(m, n, suite)
				_, differs := impl.MachineDifference(m, n)
				switch {
				case fails == impl.OK:
					want = append(want, int64(k))
					counts[0]++
				case differs == impl.ErrNotFound:
					counts[1]++
				default:
					counts[2]++
				}
			}
			if !slices.Equal(killed, want) {
				t.Errorf("KilledBy(%v, %v): got %v want %v", m, suite, killed, want)
			}
			one, two, three, _ := impl.CoverageOf(m, suite)
			if got := [3]int64{one, two, three}; got != counts {
				t.Errorf("CoverageOf(%v, %v): got %v want %v", m, suite, got, counts)
			}
			for i := range all {
				all[i] += counts[i]
			}
		}
	}
	if all[0] < 5000 || all[1] < 5000 || all[2] < 5000 {
		t.Errorf("there are too few mutants of some kinds: %v", all)
	}
}

func TestPromise19ComparedSuites(t *testing.T) {
	t.Parallel()
	source := rand.New(rand.NewSource(191))
	for i, m := range manyMachines() {
		suites := append(shortSuites(len(m.Next)), randomSuite(source, m, 10, 8))
		for k, suite := range suites {
			if (i+k)%23 > 0 {
				continue
			}
			named("KilledBy").compare(t, m, suite)
			named("CoverageOf").compare(t, m, suite)
			named("ShrinkSuite").compare(t, m, suite)
		}
	}
}

func TestPromise19ShrunkSuites(t *testing.T) {
	shrink := func(m impl.Machine, suite, want [][]int64) {
		t.Helper()
		expect(t, "ShrinkSuite", impl.ShrinkSuite, []any{m, suite}, []any{want, impl.OK})
	}
	shrink(toggle(), nil, nil)
	shrink(toggle(), [][]int64{}, nil)
	// The empty word kills nothing.
	shrink(toggle(), words("-"), nil)
	shrink(toggle(), words("-", "-"), nil)
	shrink(toggle(), words("-", "a", "-"), words("a"))
	shrink(toggle(), words("aaa", "a", "aa"), words("aaa"))
	shrink(toggle(), words("a", "aa", "aaa"), words("aaa"))
	// Of a word that is there twice, and of words that kill the same, the first one is left.
	shrink(toggle(), words("aaa", "aaa"), words("aaa"))
	shrink(toggle(), words("aaa", "aaaa", "aaaaa"), words("aaa"))
	shrink(toggle(), words("aaaa", "aaa", "aaaa"), words("aaaa"))
	shrink(toggle(), words("aa", "a", "aaaaaaaa", "-", "aaa"), words("aaaaaaaa"))
	// The words that are left stay in the order of the suite, not in that of words.
	two := readMachine("machine 1 2 3\nletter 0/0\nletter 0/0\nletter 0/0\n")
	shrink(two, words("c", "b", "a"), words("c", "b", "a"))
	shrink(two, words("c", "ba", "a", "b"), words("c", "ba"))
	shrink(two, words("cc", "b", "c", "ab"), words("cc", "ab"))
	// From the last one on: the word that kills the most need not be left.
	shrink(two, words("ab", "bc", "ca"), words("ab", "bc"))
	shrink(two, words("a", "b", "c", "abc"), words("a", "b", "c"))
	shrink(two, words("abc", "a", "b", "c"), words("abc"))
	shrink(machineExample(), words("b", "a", "ab", "aaa", "ba", "aba"), words("aaa", "ba", "aba"))
	// Without mutants, or with none that can be killed, no word is needed.
	for _, none := range []impl.Machine{silent(auto(1, list(0))), silent(cycle(10))} {
		shrink(none, words("a", "aaaa"), nil)
		shrink(none, fullSuites()[1], nil)
	}
	shrink(toggle(), append(make([][]int64, impl.MaxSuite-1), word("aa")), words("aa"))
	shrink(toggle(), slices.Repeat(words("aaa"), impl.MaxSuite), words("aaa"))
	shrink(toggle(), slices.Repeat(words("a", "aa"), impl.MaxSuite/2), words("aa"))
}

// TestPromise19ShrunkKillTheSame tells that a suite that has been made smaller kills the same mutants, has words of the suite in its order, and is not made smaller further: without any word, fewer mutants are killed.
func TestPromise19ShrunkKillTheSame(t *testing.T) {
	t.Parallel()
	source := rand.New(rand.NewSource(192))
	sizes := map[int]int{}
	for _, m := range manyMachines() {
		suite := slices.Concat(randomSuite(source, m, 8, 6), randomSuite(source, m, 8, 3))
		killed, _ := impl.KilledBy(m, suite)
		left, code := impl.ShrinkSuite(m, suite)
		if code != impl.OK {
			t.Fatalf("ShrinkSuite(%v, %v): %d", m, suite, code)
		}
		sizes[min(len(left), 4)]++
		expect(t, "KilledBy", impl.KilledBy, []any{m, left}, []any{killed, impl.OK})
		expect(t, "ShrinkSuite", impl.ShrinkSuite, []any{m, left}, []any{left, impl.OK})
		for i := range left {
			without := slices.Concat(left[:i], left[i+1:])
			if fewer, _ := impl.KilledBy(m, without); len(fewer) >= len(killed) {
				t.Errorf("ShrinkSuite(%v, %v): got %v, of which %v is not needed", m, suite, left, left[i])
			}
		}
		rest := suite
		for _, w := range left {
			at := slices.IndexFunc(rest, func(v []int64) bool { return slices.Equal(v, w) })
			if at < 0 {
				t.Fatalf("ShrinkSuite(%v, %v): got %v, not in order", m, suite, left)
			}
			rest = rest[at+1:]
		}
	}
	for size := range 5 {
		if sizes[size] < 10 {
			t.Errorf("there are too few suites of some sizes: %v", sizes)
		}
	}
}

func TestPromise19LargeSuites(t *testing.T) {
	t.Parallel()
	source := rand.New(rand.NewSource(193))
	all := validMachines()
	m := all[len(all)-1]
	var suite [][]int64
	for range impl.MaxSuite {
		w := make([]int64, impl.MaxWord)
		for i := range w {
			w[i] = source.Int63n(3)
		}
		suite = append(suite, w)
	}
	killed, code := impl.KilledBy(m, suite)
	if code != impl.OK || !slices.Equal(killed, modelKilled(m, suite)) {
		t.Errorf("KilledBy: got %v %d", killed, code)
	}
	left, code := impl.ShrinkSuite(m, suite)
	if code != impl.OK || len(left) == 0 || !slices.Equal(modelKilled(m, left), killed) {
		t.Errorf("ShrinkSuite: got %v %d", left, code)
	}
	// Words that kill few mutants each, so that many are left.
	var short [][]int64
	for range impl.MaxSuite {
		short = append(short, randomWord(source, m, 5))
	}
	named("ShrinkSuite").compare(t, m, short[:60])
	left, _ = impl.ShrinkSuite(m, short)
	killed, _ = impl.KilledBy(m, short)
	expect(t, "KilledBy", impl.KilledBy, []any{m, left}, []any{killed, impl.OK})
	expect(t, "ShrinkSuite", impl.ShrinkSuite, []any{m, left}, []any{left, impl.OK})
}

func TestPromise19Candidates(t *testing.T) {
	m := toggle()
	are := func(m impl.Machine, suite, outputs [][]int64, want ...int64) {
		t.Helper()
		expect(t, "Candidates", impl.Candidates, []any{m, suite, outputs}, []any{want, impl.OK})
	}
	// The machine itself stands in front.
	are(m, words("aa"), lists(list(0, 1)), -1, 3)
	are(m, words("aaa"), lists(list(0, 1, 0)), -1)
	are(m, words("a"), lists(list(0)), -1, 1, 2, 3)
	are(m, words("a"), lists(list(1)), 0)
	are(m, words("aa"), lists(list(0, 0)), 1, 2)
	are(m, words("aaa"), lists(list(0, 1, 1)), 3)
	are(m, words("aaaaa"), lists(list(0, 0, 0, 0, 0)), 1, 2)
	are(m, words("aa"), lists(list(1, 0)))
	// Without letters, all have the outputs.
	are(m, nil, nil, -1, 0, 1, 2, 3)
	are(m, [][]int64{}, nil, -1, 0, 1, 2, 3)
	are(m, words("-"), lists(nil), -1, 0, 1, 2, 3)
	are(m, words("-", "-"), lists(list(), nil), -1, 0, 1, 2, 3)
	are(silent(auto(1, list(0))), words("a"), lists(list(0)), -1)
	are(silent(cycle(2)), words("aa"), lists(list(0, 0)), -1, 0, 1)
	// All words have to fit.
	are(m, words("a", "aa"), lists(list(0), list(0, 0)), 1, 2)
	are(m, words("aa", "a"), lists(list(0, 0), list(1)))
	are(m, words("a", "a"), lists(list(0), list(1)))
	are(m, words("aa", "aaa"), lists(list(0, 1), list(0, 1, 1)), 3)
	// A list that is too short or too long, or has no output, is none of any mutant; neither are those of the other words then.
	for _, wrong := range lists(nil, list(), list(0), list(0, 1, 0), list(0, 1, 1), list(0, 1, 0, 1), list(0, 2), list(-1, 1), list(2, 1), list(0, -1), list(0, 3), list(0, math.MaxInt64), list(math.MinInt64, 1), list(256, 1), list(1<<32, 1), repeated(0, 1000)) {
		are(m, words("aa"), lists(wrong))
		are(m, words("a", "aa"), lists(list(0), wrong))
		are(m, words("aa", "-"), lists(wrong, nil))
	}
	are(m, words("-"), lists(list(0)))
	are(m, words("a", "-"), lists(list(0), list(0)))
	// An output that the machine does not use, but has.
	three := readMachine("machine 2 3 1\nletter 1/0 0/1\n")
	are(three, words("aa"), lists(list(0, 2)), 4)
	are(three, words("aa"), lists(list(2, 1)), 1)
	are(three, words("aa"), lists(list(0, 3)))
	are(three, words("aa"), lists(list(2, 2)))
	full := append(repeated(0, 0), slices.Repeat(list(0, 1), impl.MaxWord/2)...)
	are(m, slices.Repeat(lists(repeated(0, impl.MaxWord)), impl.MaxSuite), slices.Repeat(lists(full), impl.MaxSuite), -1)
}

func TestPromise19CandidateErrors(t *testing.T) {
	m := toggle()
	refuse := func(m impl.Machine, suite, outputs [][]int64, code int) {
		t.Helper()
		expect(t, "Candidates", impl.Candidates, []any{m, suite, outputs}, []any{nil, code})
	}
	refuse(m, nil, lists(nil), impl.ErrRange)
	refuse(m, words("a"), nil, impl.ErrRange)
	refuse(m, words("a"), lists(list(0), nil), impl.ErrRange)
	refuse(m, words("a"), lists(list(0), list(0)), impl.ErrRange)
	refuse(m, words("a", "aa"), lists(list(0)), impl.ErrRange)
	refuse(m, words("a", "aa"), lists(list(5)), impl.ErrRange)
	refuse(m, words("-"), nil, impl.ErrRange)
	refuse(m, words("-"), make([][]int64, 1000), impl.ErrRange)
	for _, wrong := range append(wrongSuites(), words("b"), words("a", "ab")) {
		refuse(m, wrong, nil, impl.ErrRange)
		refuse(m, wrong, make([][]int64, len(wrong)), impl.ErrRange)
	}
	for _, bad := range invalidMachines() {
		refuse(bad, nil, nil, impl.ErrInvalid)
		refuse(bad, words("a"), nil, impl.ErrInvalid)
		refuse(bad, wrongSuites()[0], lists(nil, nil), impl.ErrInvalid)
	}
}

// TestPromise19CandidatesOfMutants gives the outputs of each mutant, and of the machine itself: it is one of the candidates, all of them have these outputs, and each other one has not.
func TestPromise19CandidatesOfMutants(t *testing.T) {
	t.Parallel()
	source := rand.New(rand.NewSource(194))
	alone, several := 0, 0
	for _, m := range append(validMachines(), randomMachines(100, 2, 5)...) {
		suite := randomSuite(source, m, 6, 6)
		all := modelMutants(m)
		for k := int64(-1); k < int64(len(all)); k++ {
			n := m
			if k >= 0 {
				n = all[k]
			}
			var outputs [][]int64
			for _, w := range suite {
				outputs = append(outputs, read(n, 0, w))
			}
			candidates, code := impl.Candidates(m, suite, outputs)
			if code != impl.OK || !slices.Contains(candidates, k) || !slices.IsSorted(candidates) {
				t.Errorf("Candidates(%v, %v) of the mutant %d: got %v %d", m, suite, k, candidates, code)
			}
			if len(candidates) == 1 {
				alone++
			} else {
				several++
			}
			for i, other := range all {
				if same := modelHasOutputs(n, other, suite); same != slices.Contains(candidates, int64(i)) {
					t.Errorf("Candidates(%v, %v) of the mutant %d: got %v, but for %d %v", m, suite, k, candidates, i, same)
				}
			}
			if k%7 == 0 {
				named("Candidates").compare(t, m, suite, outputs)
			}
		}
	}
	if alone < 200 || several < 1000 {
		t.Errorf("only %d mutants are alone, and %d are not", alone, several)
	}
}

func TestPromise19BestWords(t *testing.T) {
	best := func(m impl.Machine, length int, want string) {
		t.Helper()
		expect(t, "BestWord", impl.BestWord, []any{m, length}, []any{word(want), impl.OK})
	}
	for _, m := range validMachines() {
		best(m, 0, "-")
	}
	for length, want := range []string{"-", "a", "aa", "aaa", "aaaa", "aaaaa", "aaaaaa"} {
		best(toggle(), length, want)
		// Where nothing can be killed, the first word is as good as any.
		best(silent(auto(1, list(0), list(0), list(0))), length, want)
		best(silent(auto(10, upTo(10), repeated(9, 10))), length, want)
	}
	// Each letter kills a mutant of its own, so the first word of those with the most letters is told.
	best(readMachine("machine 1 2 3\nletter 0/0\nletter 0/0\nletter 0/0\n"), 1, "a")
	best(readMachine("machine 1 2 3\nletter 0/0\nletter 0/0\nletter 0/0\n"), 2, "ab")
	best(readMachine("machine 1 2 3\nletter 0/0\nletter 0/0\nletter 0/0\n"), 3, "abc")
	best(readMachine("machine 1 2 3\nletter 0/0\nletter 0/0\nletter 0/0\n"), 4, "aabc")
	best(readMachine("machine 1 2 2\nletter 0/1\nletter 0/0\n"), 6, "aaaaab")
	// Only "b" leads on.
	best(readMachine("machine 2 2 2\nletter 0/0 1/1\nletter 1/0 1/0\n"), 2, "ba")
	best(machineExample(), 1, "a")
	best(machineExample(), 2, "aa")
	for _, m := range []impl.Machine{toggle(), silent(auto(1, list(0))), machineExample()} {
		for _, length := range list(-1, impl.MaxBest+1, 10, 400, math.MinInt64, math.MaxInt64) {
			expect(t, "BestWord", impl.BestWord, []any{m, length}, []any{nil, impl.ErrRange})
		}
	}
	for _, bad := range invalidMachines() {
		for _, length := range list(-1, 0, 3, 7) {
			expect(t, "BestWord", impl.BestWord, []any{bad, length}, []any{nil, impl.ErrInvalid})
		}
	}
}

// TestPromise19BestOfAllWords asks KilledBy of all words of a length, in their order: no word kills more than the best one, and none before it as many.
func TestPromise19BestOfAllWords(t *testing.T) {
	t.Parallel()
	source := rand.New(rand.NewSource(195))
	firsts, others := 0, 0
	for i, m := range manyMachines() {
		length := source.Intn(5)
		if i%100 == 0 && len(m.Next) < 3 {
			length = impl.MaxBest
		}
		best, code := impl.BestWord(m, int64(length))
		if code != impl.OK || len(best) != length || !impl.ValidWord(modelAuto(m), best) {
			t.Fatalf("BestWord(%v, %d): got %v %d", m, length, best, code)
		}
		most, _ := impl.KilledBy(m, lists(best))
		for _, w := range allLists(length, 0, int64(len(m.Next)-1)) {
			killed, _ := impl.KilledBy(m, lists(w))
			if len(killed) > len(most) || len(killed) == len(most) && slices.Compare(w, best) < 0 {
				t.Errorf("BestWord(%v, %d): got %v, which kills %d mutants, but %v kills %d", m, length, best, len(most), w, len(killed))
			}
		}
		if slices.Equal(best, repeated(0, length)) {
			firsts++
		} else {
			others++
		}
		if i%10 == 0 {
			named("BestWord").compare(t, m, int64(length))
		}
	}
	if firsts < 100 || others < 100 {
		t.Errorf("%d best words are the first ones, and %d others", firsts, others)
	}
}

// TestPromise19TellsOfCompleteSuites tells that a complete suite that has been made smaller still kills all mutants that are not equivalent.
func TestPromise19TellsOfCompleteSuites(t *testing.T) {
	t.Parallel()
	smaller := 0
	for _, m := range coveredMachines() {
		suite, code := impl.CompleteSuite(m, 0)
		if code != impl.OK {
			continue
		}
		left, _ := impl.ShrinkSuite(m, suite)
		if len(left) < len(suite) {
			smaller++
		}
		killed, equivalent, neither, code := impl.CoverageOf(m, left)
		if count, _ := impl.MutantCount(m); neither > 0 || killed+equivalent != count || code != impl.OK {
			t.Errorf("CoverageOf(%v, %v): %s", m, left, fmt.Sprint(killed, equivalent, neither, code))
		}
	}
	if smaller < 300 {
		t.Errorf("only %d suites have been made smaller", smaller)
	}
}
