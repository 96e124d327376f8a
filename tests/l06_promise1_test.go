package tests

import (
	"math"
	"reflect"
	"slices"
	"strings"
	"testing"

	"loop.example/g01102/impl"
)

// treesOf returns the trees of machines, by their models.
func treesOf(all []impl.Machine) []impl.Tree {
	var trees []impl.Tree
	for _, m := range all {
		if t, code := modelHomingTree(m); code == impl.OK {
			trees = append(trees, t)
		}
		if t, code := modelTellingTree(m); code == impl.OK {
			trees = append(trees, t)
		}
	}
	return trees
}

// someTrees are trees of some machines, and others that are trees of none.
func someTrees() []impl.Tree {
	none := []impl.Tree{{}, {Letter: -1}, {Letter: 3}, {Letter: math.MinInt64}, {Letter: math.MaxInt64, From: upTo(2), Now: upTo(2)}, leaf(list(0), list(1)), leaf(list(0, 0), list(0, 0)), leaf(list(1, 0), list(1, 0)),
		leaf(upTo(2), upTo(2)), leaf(upTo(3), upTo(3)), leaf(upTo(10), upTo(10)), node(-1, list(0), list(0), leaf(list(0), list(0))), node(0, list(0), list(0)),
		{Kids: make([]impl.Tree, 601)}, {Letter: -1, From: list(0), Now: list(0), Kids: []impl.Tree{{}}}}
	return append(treesOf(validMachines()), append(none, silentChain(1), silentChain(2), silentChain(5))...)
}

func chapter6Pools() pools {
	return pools{
		reflect.TypeFor[impl.Machine](): anyOf(append(invalidMachines(), validMachines()...)),
		reflect.TypeFor[impl.Tree]():    anyOf(someTrees()),
		reflect.TypeFor[[]int64]():      anyOf(someLists()),
		reflect.TypeFor[int64]():        anyOf(list(-1, 0, 1, 2, 9, 10, 1<<32, math.MinInt64, math.MaxInt64)),
		reflect.TypeFor[string]():       anyOf(someMachineTexts()),
		reflect.TypeFor[bool]():         {false, true},
	}
}

// TestPromise1Chapter6 calls each function with all choices of arguments, right and wrong ones, and compares what it returns with its model, where the conventions of each call are checked as well.
func TestPromise1Chapter6(t *testing.T) {
	all := chapter6Pools()
	for _, f := range chapter6() {
		t.Run(f.name, func(t *testing.T) {
			t.Parallel()
			f.compareAll(t, all)
		})
	}
}

// TestPromise1TogetherChapter6 calls the functions from several goroutines with the same arguments: what they return depends on nothing else.
func TestPromise1TogetherChapter6(t *testing.T) {
	answers := func() []any {
		var out []any
		add := func(results ...any) { out = append(out, results...) }
		for _, m := range slices.Concat(validMachines(), randomMachines(20, 5, 10)) {
			w, code := impl.HomingWord(m)
			add(w, code)
			w, code = impl.TellingWord(m)
			add(w, code)
			w, code = impl.IdentifyingWord(m, m.States-1)
			add(w, code)
			set, code := impl.TellingSet(m)
			add(set, code)
			reduced, code := impl.ReduceMachine(m)
			add(reduced, code)
			trimmed, code := impl.TrimMachine(m)
			add(trimmed, code)
			a, code := impl.PairAutomaton(m)
			add(a, code)
			home, code := impl.HomingTree(m)
			add(home, code)
			tell, code := impl.TellingTree(m)
			add(tell, code)
			letters, end, code := impl.FollowTree(m, tell, 0)
			add(letters, end, code)
		}
		return out
	}
	agreeTogether(t, answers)
}

// TestPromise1LargeArgumentsChapter6 gives arguments far beyond all limits.
func TestPromise1LargeArgumentsChapter6(t *testing.T) {
	const size = 1 << 20
	long := make([]int64, size)
	many := make([][]int64, size)
	m := machineExample()
	returnErrors(t, []wrongCall{
		{"OutputsOf", impl.OutputsOf, []any{m, 0, long}, impl.ErrRange, []any{nil, 0}},
		{"IsHoming", impl.IsHoming, []any{m, long}, impl.ErrRange, []any{false}},
		{"IsTelling", impl.IsTelling, []any{m, long}, impl.ErrRange, []any{false}},
		{"ReadMachine", impl.ReadMachine, []any{strings.Repeat("0/0 ", size)}, impl.ErrRange, []any{impl.Machine{}}},
		{"FollowTree", impl.FollowTree, []any{m, leaf(long, long), 0}, impl.ErrInvalid, []any{nil, 0}},
	})
	for _, large := range []impl.Tree{leaf(long, nil), leaf(nil, long), {Kids: make([]impl.Tree, size)}, node(0, upTo(2), upTo(2), make([]impl.Tree, size)...)} {
		if yes, code := impl.CheckTree(m, large, false); yes || code != impl.OK {
			t.Errorf("CheckTree of a large tree: %v %d", yes, code)
		}
	}
	for _, large := range []impl.Machine{machine(1, 1, many, many), machine(size, 1, lists(long), lists(long)), machine(1, size, lists(list(0)), lists(list(0))), machine(2, 2, m.Next, lists(long, long)), machine(2, 2, lists(long, long), m.Out)} {
		if impl.ValidMachine(large) || impl.MachineText(large) != "" || !impl.SameMachine(large, large) {
			t.Errorf("a large machine is valid, or not the same")
		}
		if w, code := impl.HomingWord(large); len(w) > 0 || code != impl.ErrInvalid {
			t.Errorf("HomingWord of a large machine: %v %d", w, code)
		}
		if w, code := impl.MachineDifference(m, large); len(w) > 0 || code != impl.ErrInvalid {
			t.Errorf("MachineDifference from a large machine: %v %d", w, code)
		}
	}
}

// TestPromise1DeepTrees gives trees that are nested 10,000 levels deep, and one whose kids are the same tree again and again, so that it has too many nodes to look at all of them.
func TestPromise1DeepTrees(t *testing.T) {
	m, one := machineExample(), silent(auto(1, list(0)))
	refuse := func(m impl.Machine, tree impl.Tree) {
		t.Helper()
		for _, tells := range []bool{false, true} {
			if yes, code := impl.CheckTree(m, tree, tells); yes || code != impl.OK {
				t.Errorf("CheckTree of a deep tree: %v %d", yes, code)
			}
		}
		if letters, end, code := impl.FollowTree(m, tree, 0); len(letters) > 0 || end != 0 || code != impl.ErrInvalid {
			t.Errorf("FollowTree of a deep tree: %v %d %d", letters, end, code)
		}
	}
	deep := silentChain(10000)
	refuse(one, deep)
	refuse(m, deep)
	var zeros impl.Tree
	for range 9999 {
		zeros = impl.Tree{Kids: []impl.Tree{zeros}}
	}
	refuse(one, zeros)
	refuse(m, zeros)
	two := readMachine("machine 1 2 1\nletter 0/0\n")
	wide, empty := leaf(list(0), list(0)), leaf(nil, nil)
	for range 200 {
		wide, empty = node(0, list(0), list(0), wide, empty), node(0, nil, nil, empty, empty)
	}
	refuse(two, wide)
	for _, bad := range invalidMachines() {
		if yes, code := impl.CheckTree(bad, deep, false); yes || code != impl.ErrInvalid {
			t.Errorf("CheckTree(%v): %v %d", bad, yes, code)
		}
	}
}

// TestPromise1FirstErrorsChapter6 gives functions several wrong arguments at once: the error that the document lists first is returned.
func TestPromise1FirstErrorsChapter6(t *testing.T) {
	bad, m := machine(2, 2, lists(list(0, 2)), lists(list(0, 0))), machineExample()
	three := readMachine("machine 2 3 2\nletter 1/0 0/1\nletter 0/0 0/0\n")
	oneLetter := readMachine("machine 2 2 1\nletter 1/0 0/1\n")
	var none impl.Machine
	returnErrors(t, []wrongCall{
		{"ReadMachine", impl.ReadMachine, []any{strings.Repeat("x", impl.MaxText+1)}, impl.ErrRange, []any{none}},
		{"OutputsOf", impl.OutputsOf, []any{bad, 2, list(1)}, impl.ErrInvalid, []any{nil, 0}},
		{"OutputsOf", impl.OutputsOf, []any{m, 2, list(0)}, impl.ErrRange, []any{nil, 0}},
		{"OutputsOf", impl.OutputsOf, []any{m, 0, list(2)}, impl.ErrRange, []any{nil, 0}},
		{"DistinguishingWord", impl.DistinguishingWord, []any{bad, 2, 2}, impl.ErrInvalid, []any{nil}},
		// A state that is none is not equivalent to itself.
		{"DistinguishingWord", impl.DistinguishingWord, []any{m, 2, 2}, impl.ErrRange, []any{nil}},
		{"MachineDifference", impl.MachineDifference, []any{bad, three}, impl.ErrInvalid, []any{nil}},
		{"MachineDifference", impl.MachineDifference, []any{three, bad}, impl.ErrInvalid, []any{nil}},
		// But for their Outputs or letters, the machines are equivalent.
		{"MachineDifference", impl.MachineDifference, []any{m, three}, impl.ErrRange, []any{nil}},
		{"MachineDifference", impl.MachineDifference, []any{m, oneLetter}, impl.ErrRange, []any{nil}},
		{"MachineDifference", impl.MachineDifference, []any{oneLetter, m}, impl.ErrRange, []any{nil}},
		{"PairAutomaton", impl.PairAutomaton, []any{silent(cycle(11))}, impl.ErrInvalid, []any{impl.Automaton{}}},
		{"IsHoming", impl.IsHoming, []any{bad, list(2)}, impl.ErrInvalid, []any{false}},
		{"IsTelling", impl.IsTelling, []any{bad, list(2)}, impl.ErrInvalid, []any{false}},
		{"IdentifyingWord", impl.IdentifyingWord, []any{bad, 2}, impl.ErrInvalid, []any{nil}},
		// No word identifies any state of this machine.
		{"IdentifyingWord", impl.IdentifyingWord, []any{silent(cycle(2)), 2}, impl.ErrRange, []any{nil}},
		{"FollowTree", impl.FollowTree, []any{bad, impl.Tree{}, -1}, impl.ErrInvalid, []any{nil, 0}},
		{"FollowTree", impl.FollowTree, []any{m, impl.Tree{}, -1}, impl.ErrInvalid, []any{nil, 0}},
		{"FollowTree", impl.FollowTree, []any{m, impl.Tree{}, 0}, impl.ErrInvalid, []any{nil, 0}},
	})
}

// TestPromise1InvalidChapter6 tells that no function takes a machine that is not valid.
func TestPromise1InvalidChapter6(t *testing.T) {
	m, tree := machineExample(), leaf(list(0), list(0))
	for _, bad := range invalidMachines() {
		expect(t, "MachineText", impl.MachineText, []any{bad}, []any{""})
		returnErrors(t, []wrongCall{
			{"OutputsOf", impl.OutputsOf, []any{bad, 0, nil}, impl.ErrInvalid, []any{nil, 0}},
			{"ForgetOutputs", impl.ForgetOutputs, []any{bad}, impl.ErrInvalid, []any{impl.Automaton{}}},
			{"DistinguishingWord", impl.DistinguishingWord, []any{bad, 0, 0}, impl.ErrInvalid, []any{nil}},
			{"EquivalentStates", impl.EquivalentStates, []any{bad}, impl.ErrInvalid, []any{nil}},
			{"ReduceMachine", impl.ReduceMachine, []any{bad}, impl.ErrInvalid, []any{impl.Machine{}}},
			{"TrimMachine", impl.TrimMachine, []any{bad}, impl.ErrInvalid, []any{impl.Machine{}}},
			{"MachineDifference", impl.MachineDifference, []any{bad, m}, impl.ErrInvalid, []any{nil}},
			{"MachineDifference", impl.MachineDifference, []any{m, bad}, impl.ErrInvalid, []any{nil}},
			{"PairAutomaton", impl.PairAutomaton, []any{bad}, impl.ErrInvalid, []any{impl.Automaton{}}},
			{"IsHoming", impl.IsHoming, []any{bad, nil}, impl.ErrInvalid, []any{false}},
			{"HomingWord", impl.HomingWord, []any{bad}, impl.ErrInvalid, []any{nil}},
			{"IsTelling", impl.IsTelling, []any{bad, nil}, impl.ErrInvalid, []any{false}},
			{"TellingWord", impl.TellingWord, []any{bad}, impl.ErrInvalid, []any{nil}},
			{"IdentifyingWord", impl.IdentifyingWord, []any{bad, 0}, impl.ErrInvalid, []any{nil}},
			{"TellingSet", impl.TellingSet, []any{bad}, impl.ErrInvalid, []any{nil}},
			{"HomingTree", impl.HomingTree, []any{bad}, impl.ErrInvalid, []any{impl.Tree{}}},
			{"TellingTree", impl.TellingTree, []any{bad}, impl.ErrInvalid, []any{impl.Tree{}}},
			{"CheckTree", impl.CheckTree, []any{bad, tree, false}, impl.ErrInvalid, []any{false}},
			{"FollowTree", impl.FollowTree, []any{bad, tree, 0}, impl.ErrInvalid, []any{nil, 0}},
		})
	}
}
