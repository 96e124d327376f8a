package tests

import (
	"math/rand"
	"slices"
	"testing"

	"loop.example/g01102/impl"
)

// read returns OutputsOf without its code, for arguments that are right.
func read(m impl.Machine, s int64, w []int64) []int64 {
	outputs, _, _ := impl.OutputsOf(m, s, w)
	return outputs
}

func TestPromise15EquivalentStates(t *testing.T) {
	classes := func(m impl.Machine, want ...int64) {
		t.Helper()
		expect(t, "EquivalentStates", impl.EquivalentStates, []any{m}, []any{want, impl.OK})
	}
	classes(machineExample(), 0, 1)
	classes(silent(auto(1, list(0))), 0)
	classes(readMachine("machine 3 2 1\nletter 1/0 2/1 1/0\n"), 0, 1, 0)
	classes(bell(10), upTo(10)...)
	classes(silent(cycle(10)), repeated(0, 10)...)
	classes(doubled(bell(3)), 0, 0, 1, 1, 2, 2)
	classes(doubled(bell(5)), 0, 0, 1, 1, 2, 2, 3, 3, 4, 4)
	classes(comingTogether(), 0, 1, 2)
	// States that come together with the same output, by every letter, never differ; with different outputs they do.
	classes(readMachine("machine 3 2 2\nletter 2/0 2/0 2/1\nletter 0/1 0/1 0/0\n"), 0, 0, 1)
	classes(readMachine("machine 3 2 2\nletter 2/0 2/0 2/1\nletter 0/1 0/0 0/0\n"), 0, 1, 2)
	classes(readMachine("machine 4 3 1\nletter 3/0 3/1 3/0 3/2\n"), 0, 1, 0, 2)
	// States that change places, or go around together.
	classes(readMachine("machine 4 2 1\nletter 1/0 0/0 3/1 2/1\n"), 0, 0, 1, 1)
	classes(readMachine("machine 4 2 1\nletter 2/0 3/0 0/1 1/1\n"), 0, 0, 1, 1)
	classes(readMachine("machine 5 2 1\nletter 1/1 2/0 3/1 4/0 3/1\n"), 0, 1, 0, 1, 0)
	// Only the last one of many letters tells the states apart.
	classes(readMachine("machine 2 2 3\nletter 0/0 1/0\nletter 1/1 0/1\nletter 0/0 0/1\n"), 0, 1)
	for _, m := range manyMachines() {
		named("EquivalentStates").compare(t, m)
	}
}

// TestPromise15EquivalentByAllWords goes through all words with fewer letters than the machine has states.
func TestPromise15EquivalentByAllWords(t *testing.T) {
	t.Parallel()
	fewer := 0
	for _, m := range slices.Concat(smallMachines(), randomMachines(150, 3, 5), swollenMachines(60, 6)) {
		words := machineWords(m, int(m.States)-1)
		class, code := impl.EquivalentStates(m)
		if code != impl.OK || !modelIsDivision(modelAuto(m), class) {
			t.Fatalf("EquivalentStates(%v): got %v %d", m, class, code)
		}
		for s := range m.States {
			for u := range s {
				_, code := firstWordFor(words, func(w []int64) bool { return !slices.Equal(read(m, s, w), read(m, u, w)) })
				if (class[s] == class[u]) != (code == impl.ErrNotFound) {
					t.Errorf("EquivalentStates(%v): got %v, but for %d and %d a look at all words tells %d", m, class, u, s, code)
				}
				if class[s] == class[u] {
					fewer++
				}
			}
		}
	}
	if fewer < 300 {
		t.Errorf("only %d pairs of equivalent states", fewer)
	}
}

func TestPromise15ReducedMachines(t *testing.T) {
	reduce := func(m, want impl.Machine) {
		t.Helper()
		expect(t, "ReduceMachine", impl.ReduceMachine, []any{m}, []any{want, impl.OK})
	}
	reduce(machineExample(), machineExample())
	reduce(readMachine("machine 3 2 1\nletter 1/0 2/1 1/0\n"), readMachine("machine 2 2 1\nletter 1/0 0/1\n"))
	reduce(silent(cycle(10)), silent(auto(1, list(0))))
	reduce(silent(auto(10, upTo(10), repeated(9, 10), upTo(10))), silent(auto(1, list(0), list(0), list(0))))
	reduce(bell(10), bell(10))
	reduce(doubled(bell(5)), bell(5))
	reduce(doubled(machineExample()), machineExample())
	// Outputs stays as it is, even if some output is never used.
	reduce(readMachine("machine 2 3 1\nletter 1/2 0/2\n"), readMachine("machine 1 3 1\nletter 0/2\n"))
	// States that cannot be reached are kept.
	reduce(readMachine("machine 3 2 1\nletter 0/0 0/1 0/1\n"), readMachine("machine 2 2 1\nletter 0/0 0/1\n"))
	reduce(readMachine("machine 4 3 1\nletter 3/0 3/1 3/0 3/2\n"), readMachine("machine 3 3 1\nletter 2/0 2/1 2/2\n"))
	for _, m := range manyMachines() {
		named("ReduceMachine").compare(t, m)
	}
}

// TestPromise15ReducedOutputTheSame tells that each state outputs the same as its class, that no two classes are equivalent, and that a reduced machine is not reduced further.
func TestPromise15ReducedOutputTheSame(t *testing.T) {
	t.Parallel()
	source := rand.New(rand.NewSource(15))
	smaller := 0
	for _, m := range manyMachines() {
		class, _ := impl.EquivalentStates(m)
		reduced, code := impl.ReduceMachine(m)
		if code != impl.OK || !impl.ValidMachine(reduced) || reduced.Outputs != m.Outputs || len(reduced.Next) != len(m.Next) {
			t.Fatalf("ReduceMachine(%v): got %v %d", m, reduced, code)
		}
		if reduced.States < m.States {
			smaller++
		}
		for s, c := range class {
			for _, longest := range []int{5, 30} {
				if w := randomWord(source, m, longest); !slices.Equal(read(m, int64(s), w), read(reduced, c, w)) {
					t.Errorf("%v: the state %d and its class %d differ by %v", m, s, c, w)
				}
			}
		}
		expect(t, "EquivalentStates", impl.EquivalentStates, []any{reduced}, []any{upTo(reduced.States), impl.OK})
		expect(t, "ReduceMachine", impl.ReduceMachine, []any{reduced}, []any{reduced, impl.OK})
		expect(t, "MachineDifference", impl.MachineDifference, []any{m, reduced}, []any{nil, impl.ErrNotFound})
	}
	if smaller < 100 {
		t.Errorf("only %d machines have been made smaller", smaller)
	}
}

func TestPromise15TrimmedMachines(t *testing.T) {
	trim := func(text, want string) {
		t.Helper()
		expect(t, "TrimMachine", impl.TrimMachine, []any{readMachine(text)}, []any{readMachine(want), impl.OK})
	}
	trim(machineText, machineText)
	trim("machine 1 3 1\nletter 0/2\n", "machine 1 3 1\nletter 0/2\n")
	// States that are not reached are left out, wherever they lead.
	trim("machine 3 2 1\nletter 0/1 0/0 1/0\n", "machine 1 2 1\nletter 0/1\n")
	trim("machine 3 2 2\nletter 2/0 0/0 0/1\nletter 0/1 1/1 2/0\n", "machine 2 2 2\nletter 1/0 0/1\nletter 0/1 1/0\n")
	// The order is that of the first words: first by their lengths, then by their letters.
	trim("machine 3 2 1\nletter 2/0 0/1 1/0\n", "machine 3 2 1\nletter 1/0 2/0 0/1\n")
	trim("machine 3 1 2\nletter 2/0 1/0 2/0\nletter 1/0 1/0 0/0\n", "machine 3 1 2\nletter 1/0 1/0 2/0\nletter 2/0 0/0 2/0\n")
	trim("machine 4 2 2\nletter 0/0 2/0 2/0 3/1\nletter 3/0 1/1 2/0 1/0\n", "machine 4 2 2\nletter 0/0 1/1 3/0 3/0\nletter 1/0 2/0 2/1 3/0\n")
	trim("machine 5 1 2\nletter 3/0 0/0 0/0 4/0 0/0\nletter 1/0 2/0 0/0 3/0 4/0\n", "machine 5 1 2\nletter 1/0 3/0 0/0 0/0 0/0\nletter 2/0 1/0 4/0 3/0 0/0\n")
	// The empty word leads to the state 0, so it stays the first one.
	trim("machine 2 2 1\nletter 1/0 1/1\n", "machine 2 2 1\nletter 1/0 1/1\n")
	expect(t, "TrimMachine", impl.TrimMachine, []any{silent(cycle(10))}, []any{silent(cycle(10)), impl.OK})
	expect(t, "TrimMachine", impl.TrimMachine, []any{silent(auto(10, list(9, 0, 1, 2, 3, 4, 5, 6, 7, 8)))}, []any{silent(cycle(10)), impl.OK})
	// Equivalent states are not put together.
	expect(t, "TrimMachine", impl.TrimMachine, []any{silent(auto(10, upTo(10), repeated(9, 10)))}, []any{silent(auto(2, list(0, 1), list(1, 1))), impl.OK})
	for _, m := range manyMachines() {
		named("TrimMachine").compare(t, m)
	}
}

// TestPromise15TrimmedOutputTheSame tells that a trimmed machine outputs the same from its state 0, has just the states that can be reached, and is not trimmed further; where all states are reached, it is a renumbering.
func TestPromise15TrimmedOutputTheSame(t *testing.T) {
	t.Parallel()
	smaller, other := 0, 0
	for _, m := range manyMachines() {
		trimmed, code := impl.TrimMachine(m)
		if code != impl.OK || !impl.ValidMachine(trimmed) || trimmed.Outputs != m.Outputs {
			t.Fatalf("TrimMachine(%v): got %v %d", m, trimmed, code)
		}
		reached, _ := impl.ReachedFrom(modelAuto(m), 0)
		if trimmed.States != int64(len(reached)) {
			t.Errorf("TrimMachine(%v): got %v, but %v are reached", m, trimmed, reached)
		}
		expect(t, "MachineDifference", impl.MachineDifference, []any{m, trimmed}, []any{nil, impl.ErrNotFound})
		expect(t, "TrimMachine", impl.TrimMachine, []any{trimmed}, []any{trimmed, impl.OK})
		if trimmed.States < m.States {
			smaller++
		} else if !impl.SameMachine(m, trimmed) {
			other++
		}
		for _, w := range machineWords(m, 3) {
			if !slices.Equal(read(m, 0, w), read(trimmed, 0, w)) {
				t.Errorf("TrimMachine(%v): got %v, which differs by %v", m, trimmed, w)
			}
		}
	}
	if smaller < 200 || other < 50 {
		t.Errorf("only %d trimmed machines are smaller, and %d renumbered", smaller, other)
	}
}

func TestPromise15Differences(t *testing.T) {
	first := func(one, two, want string) {
		t.Helper()
		expect(t, "MachineDifference", impl.MachineDifference, []any{readMachine(one), readMachine(two)}, []any{word(want), impl.OK})
		expect(t, "MachineDifference", impl.MachineDifference, []any{readMachine(two), readMachine(one)}, []any{word(want), impl.OK})
	}
	refuse := func(one, two string, code int64) {
		t.Helper()
		expect(t, "MachineDifference", impl.MachineDifference, []any{readMachine(one), readMachine(two)}, []any{nil, code})
		expect(t, "MachineDifference", impl.MachineDifference, []any{readMachine(two), readMachine(one)}, []any{nil, code})
	}
	const loud, quiet = "machine 1 2 1\nletter 0/1\n", "machine 1 2 1\nletter 0/0\n"
	first(loud, quiet, "a")
	refuse(loud, loud, impl.ErrNotFound)
	refuse(quiet, "machine 3 2 1\nletter 1/0 0/0 2/1\n", impl.ErrNotFound)
	first(quiet, "machine 3 2 1\nletter 1/0 2/0 2/1\n", "aaa")
	first(quiet, modelMachineText(bell(10)), "aaaaaaaaaa")
	first(modelMachineText(bell(9)), modelMachineText(bell(10)), "aaaaaaaaa")
	// They begin in their states 0, and these are different.
	first(machineText, "machine 2 2 2\nletter 1/1 0/0\nletter 1/0 1/0\n", "a")
	refuse(machineText, "machine 3 2 2\nletter 2/0 0/1 0/1\nletter 0/0 0/0 0/0\n", impl.ErrNotFound)
	// Of several words of one length, the first one; a shorter word comes before one with lesser letters.
	first("machine 1 2 2\nletter 0/0\nletter 0/0\n", "machine 2 2 2\nletter 1/0 1/1\nletter 0/1 0/1\n", "b")
	first("machine 1 2 2\nletter 0/0\nletter 0/0\n", "machine 2 2 2\nletter 0/0 1/1\nletter 1/0 0/1\n", "ba")
	first("machine 1 2 3\nletter 0/0\nletter 0/0\nletter 0/0\n", "machine 1 2 3\nletter 0/0\nletter 0/1\nletter 0/1\n", "b")
	// A different number of outputs or letters is told ahead, whether the outputs are used or not.
	refuse(loud, "machine 1 3 1\nletter 0/1\n", impl.ErrRange)
	refuse(loud, "machine 1 3 1\nletter 0/2\n", impl.ErrRange)
	refuse(quiet, "machine 1 1 1\nletter 0/0\n", impl.ErrRange)
	refuse(quiet, "machine 1 2 2\nletter 0/0\nletter 0/0\n", impl.ErrRange)
	refuse(quiet, "machine 1 2 3\nletter 0/0\nletter 0/0\nletter 0/0\n", impl.ErrRange)
	refuse(loud, "machine 1 2 2\nletter 0/0\nletter 0/1\n", impl.ErrRange)
	refuse(machineText, "machine 3 2 1\nletter 1/0 2/1 1/0\n", impl.ErrRange)
	for _, m := range validMachines() {
		expect(t, "MachineDifference", impl.MachineDifference, []any{m, m}, []any{nil, impl.ErrNotFound})
	}
}

// alikeMachines returns machines with as many letters and outputs each, in groups; some of those of one group are equivalent.
func alikeMachines() [][]impl.Machine {
	groups := [][]impl.Machine{
		slices.Concat(allMachines(1, 1, 2, 1), allMachines(2, 1, 2, 1), allMachines(3, 1, 2, 3)),
		slices.Concat(allMachines(1, 2, 2, 1), allMachines(2, 2, 2, 5), allMachines(3, 2, 2, 997)),
		slices.Concat(allMachines(1, 1, 3, 1), allMachines(2, 1, 3, 1), allMachines(3, 1, 3, 13)),
		slices.Concat(allMachines(1, 1, 1, 1), allMachines(2, 1, 1, 1), allMachines(3, 1, 1, 1)),
	}
	source := rand.New(rand.NewSource(151))
	for _, m := range append(randomMachines(25, 3, 5), swollenMachines(15, 6)...) {
		// A state of the same machine in the beginning, and one output or next state that has been changed.
		group := []impl.Machine{m}
		for range 6 {
			order := upTo(m.States)
			source.Shuffle(len(order), func(i, k int) { order[i], order[k] = order[k], order[i] })
			other := renumberedMachine(m, order)
			letter, s := source.Intn(len(m.Next)), source.Int63n(m.States)
			if source.Intn(2) == 0 {
				other.Out[letter][s] = source.Int63n(m.Outputs)
			} else {
				other.Next[letter][s] = source.Int63n(m.States)
			}
			group = append(group, other)
		}
		groups = append(groups, group)
	}
	return groups
}

// TestPromise15DifferencesOfMachines goes through all words with fewer letters than two machines have states together: they are equivalent if none of these differs. And they are equivalent just if they are the same when they have been reduced and trimmed.
func TestPromise15DifferencesOfMachines(t *testing.T) {
	t.Parallel()
	codes := map[int]int{}
	for _, group := range alikeMachines() {
		for i, a := range group {
			for k, b := range group {
				if i > 60 && k > 60 && (i+k)%7 > 0 {
					continue
				}
				words := machineWords(a, min(int(a.States+b.States)-1, 7))
				want, code := firstWordFor(words, func(w []int64) bool { return !slices.Equal(read(a, 0, w), read(b, 0, w)) })
				expect(t, "MachineDifference", impl.MachineDifference, []any{a, b}, []any{want, code})
				if same := impl.SameMachine(leastMachine(a), leastMachine(b)); same != (code == impl.ErrNotFound) {
					t.Errorf("%v and %v: a look at all words tells %d, but the least machines are the same: %v", a, b, code, same)
				}
				codes[code]++
			}
		}
	}
	if codes[impl.OK] < 1000 || codes[impl.ErrNotFound] < 1000 {
		t.Errorf("there are too few of some codes: %v", codes)
	}
}

// leastMachine returns a machine that has been reduced and trimmed.
func leastMachine(m impl.Machine) impl.Machine {
	reduced, _ := impl.ReduceMachine(m)
	trimmed, _ := impl.TrimMachine(reduced)
	return trimmed
}

func TestPromise15DifferencesOfManyMachines(t *testing.T) {
	t.Parallel()
	all := slices.Concat(randomMachines(40, 4, 10), swollenMachines(30, 10), validMachines())
	for i, a := range all {
		for k, b := range all {
			if i%3 == k%3 {
				named("MachineDifference").compare(t, a, b)
			}
		}
		least := leastMachine(a)
		expect(t, "MachineDifference", impl.MachineDifference, []any{a, least}, []any{nil, impl.ErrNotFound})
		expect(t, "MachineDifference", impl.MachineDifference, []any{least, a}, []any{nil, impl.ErrNotFound})
		// Trimming and then reducing leaves as many states.
		trimmed, _ := impl.TrimMachine(a)
		other, _ := impl.ReduceMachine(trimmed)
		if other.States != least.States {
			t.Errorf("%v: trimmed and reduced it has %d states, reduced and trimmed %d", a, other.States, least.States)
		}
	}
}
