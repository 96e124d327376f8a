package tests

import (
	"math"
	"math/rand"
	"slices"
	"strings"

	"loop.example/g01102/impl"
)

// machine returns a machine with so many states and outputs, and a list of next states and one of outputs for each letter.
func machine(states, outputs int64, next, out [][]int64) impl.Machine {
	return impl.Machine{States: states, Outputs: outputs, Next: next, Out: out}
}

const machineText = "machine 2 2 2\nletter 1/0 0/1\nletter 0/0 0/0\n"

func machineExample() impl.Machine {
	return machine(2, 2, lists(list(1, 0), list(0, 0)), lists(list(0, 1), list(0, 0)))
}

// readMachine returns the machine with a text.
func readMachine(text string) impl.Machine {
	m, code := modelReadMachine(text)
	if code != impl.OK {
		panic("no machine: " + text)
	}
	return m
}

// silent returns the machine of an automaton that always outputs 0.
func silent(a impl.Automaton) impl.Machine {
	var out [][]int64
	for range a.Next {
		out = append(out, repeated(0, int(a.States)))
	}
	return machine(a.States, 1, a.Next, out)
}

// bell leads n states around, and outputs 1 only in the last one: n - 1 letters are needed to tell the first two states apart.
func bell(n int64) impl.Machine {
	out := repeated(0, int(n))
	out[n-1] = 1
	return machine(n, 2, cycle(n).Next, lists(out))
}

// machineWords returns all words of at most so many letters for a machine, in order.
func machineWords(m impl.Machine, longest int) [][]int64 {
	return allWords(impl.Automaton{Next: m.Next}, longest)
}

// invalidMachines has one for each way not to be valid.
func invalidMachines() []impl.Machine {
	next, out := lists(list(1, 0), list(0, 0)), lists(list(0, 1), list(0, 0))
	var all []impl.Machine
	for _, states := range list(0, 1, 3, -2, 10, 11, math.MinInt64, math.MaxInt64) {
		all = append(all, machine(states, 2, next, out))
	}
	for _, outputs := range list(0, 1, -1, 4, math.MinInt64, math.MaxInt64) {
		all = append(all, machine(2, outputs, next, out))
	}
	wrongLists := [][][]int64{nil, {}, next[:1], append(slices.Clone(next), list(0, 1)), {nil, list(0, 1)}, {list(0, 1), nil}, {list(0), list(0, 1)}, {list(0, 1), list(0, 1, 0)}}
	for _, wrong := range wrongLists {
		all = append(all, machine(2, 2, wrong, out), machine(2, 2, next, wrong))
	}
	for _, number := range list(-1, 2, 3, math.MinInt64, math.MaxInt64) {
		for _, wrong := range [][][]int64{{list(number, 0), list(0, 0)}, {list(0, 0), list(0, number)}} {
			all = append(all, machine(2, 2, wrong, out), machine(2, 2, next, wrong))
		}
	}
	four, one := slices.Repeat(lists(list(0)), 4), lists(list(0))
	many := make([][]int64, 500)
	return append(all, impl.Machine{}, machine(1, 1, nil, nil), machine(0, 1, lists(nil), lists(nil)), machine(1, 1, lists(nil), lists(nil)),
		machine(1, 1, four, four), machine(1, 1, four, one), machine(1, 1, one, four), machine(1, 0, one, one), machine(1, 4, one, one),
		machine(1, 3, one, lists(list(3))), machine(1, 1, one, lists(list(1))), machine(1, 3, one, lists(list(-1))), machine(1, 1, lists(list(1)), one), machine(1, 1, lists(list(-1)), one),
		silent(cycle(11)), bell(11), machine(500, 500, many, many), machine(1, 3, many, many), machine(500, 3, lists(repeated(0, 500)), lists(repeated(0, 500))))
}

// validMachines has small machines of many kinds, and some at the limits.
func validMachines() []impl.Machine {
	return []impl.Machine{
		machineExample(),
		silent(auto(1, list(0))),
		silent(auto(1, list(0), list(0), list(0))),
		readMachine("machine 1 3 1\nletter 0/2\n"),
		readMachine("machine 1 3 3\nletter 0/2\nletter 0/0\nletter 0/1\n"),
		silent(auto(2, list(0, 1))),
		silent(auto(2, list(1, 1), list(0, 1))),
		bell(2),
		readMachine("machine 2 2 1\nletter 1/0 1/1\n"),
		readMachine("machine 2 2 1\nletter 1/1 1/1\n"),
		readMachine("machine 2 2 2\nletter 0/0 0/0\nletter 0/0 1/1\n"),
		readMachine("machine 3 2 1\nletter 1/0 2/1 1/0\n"),
		readMachine("machine 3 2 1\nletter 1/0 2/0 0/1\n"),
		comingTogether(),
		readMachine("machine 3 3 1\nletter 0/0 1/1 2/2\n"),
		readMachine("machine 3 2 2\nletter 0/0 0/0 1/1\nletter 2/1 1/1 1/0\n"),
		silent(slow(3)),
		silent(slow(4)),
		readMachine("machine 4 2 2\nletter 1/0 0/1 3/0 2/1\nletter 2/0 3/0 0/0 1/0\n"),
		readMachine("machine 4 2 1\nletter 0/0 0/0 1/1 1/1\n"),
		readMachine("machine 4 3 2\nletter 1/0 2/1 3/2 0/0\nletter 0/1 0/1 2/1 2/0\n"),
		bell(5),
		readMachine("machine 5 2 2\nletter 1/0 2/0 3/0 4/0 0/1\nletter 1/0 1/0 3/0 3/0 4/1\n"),
		doubled(bell(3)),
		doubled(machineExample()),
		doubled(bell(5)),
		bell(9),
		bell(10),
		silent(cycle(10)),
		silent(auto(10, upTo(10), repeated(9, 10), list(9, 8, 7, 6, 5, 4, 3, 2, 1, 0))),
		readMachine("machine 10 3 3\nletter 1/0 2/1 3/2 4/0 5/1 6/2 7/0 8/1 9/2 0/0\nletter 0/2 0/2 2/2 2/2 4/2 4/2 6/2 6/2 8/2 8/1\nletter 9/0 8/0 7/0 6/0 5/0 4/1 3/1 2/1 1/1 0/1\n"),
	}
}

// comingTogether has states that come together with the same output, so that no word tells all of them apart, but each two of them can be told apart.
func comingTogether() impl.Machine {
	return readMachine("machine 3 2 2\nletter 0/0 0/0 1/1\nletter 1/1 1/0 1/1\n")
}

// doubled returns a machine with a twin behind each state, which is equivalent to it; letters lead to states and twins by turns.
func doubled(m impl.Machine) impl.Machine {
	twice := machine(2*m.States, m.Outputs, nil, nil)
	for letter := range m.Next {
		var next, out []int64
		for s := range m.States {
			t := m.Next[letter][s]
			next = append(next, 2*t+s%2, 2*t+(s+1)%2)
			out = append(out, m.Out[letter][s], m.Out[letter][s])
		}
		twice.Next = append(twice.Next, next)
		twice.Out = append(twice.Out, out)
	}
	return twice
}

// allMachines returns all machines with so many states, letters and outputs, or one of so many of them.
func allMachines(states int64, letters int, outputs int64, of int) []impl.Machine {
	var all []impl.Machine
	noted := allLists(int(states)*letters, 0, outputs-1)
	for i, a := range allAutomata(states, letters) {
		for k, numbers := range noted {
			if (i*len(noted)+k)%of > 0 {
				continue
			}
			out := slices.Collect(slices.Chunk(slices.Clone(numbers), int(states)))
			all = append(all, machine(states, outputs, a.Next, out))
		}
	}
	return all
}

// smallMachines returns all machines with up to two states, letters and outputs, those with three states and one letter, and some of those with more.
func smallMachines() []impl.Machine {
	return slices.Concat(allMachines(1, 1, 2, 1), allMachines(1, 2, 2, 1), allMachines(1, 3, 3, 7), allMachines(2, 1, 2, 1), allMachines(2, 1, 3, 1), allMachines(2, 2, 1, 1), allMachines(2, 2, 2, 1),
		allMachines(2, 2, 3, 7), allMachines(2, 3, 2, 31), allMachines(3, 1, 2, 1), allMachines(3, 1, 3, 5), allMachines(3, 2, 2, 131), allMachines(4, 1, 2, 17))
}

// randomMachines returns machines with many and few states, always the same ones. Some of them lead different states to different ones, and some output 0 nearly always, so that words are short and long, if there are any.
func randomMachines(count int, least, most int64) []impl.Machine {
	source := rand.New(rand.NewSource(6))
	var all []impl.Machine
	for range count {
		m := machine(least+source.Int63n(most-least+1), 1+source.Int63n(3), nil, nil)
		merging, noisy := source.Intn(4), 1+source.Intn(4)
		for range 1 + source.Intn(3) {
			var next, out []int64
			for _, t := range source.Perm(int(m.States)) {
				goal, output := int64(t), int64(0)
				if source.Intn(6) < merging {
					goal = source.Int63n(m.States)
				}
				if source.Intn(5) < noisy {
					output = source.Int63n(m.Outputs)
				}
				next, out = append(next, goal), append(out, output)
			}
			m.Next, m.Out = append(m.Next, next), append(m.Out, out)
		}
		all = append(all, m)
	}
	return all
}

// swollenMachines returns machines with classes of equivalent states, always the same ones.
func swollenMachines(count int, most int64) []impl.Machine {
	source := rand.New(rand.NewSource(66))
	var all []impl.Machine
	for _, m := range randomMachines(count, 1, 5) {
		states := m.States + source.Int63n(most-m.States+1)
		class := upTo(m.States)
		for int64(len(class)) < states {
			class = append(class, source.Int63n(m.States))
		}
		source.Shuffle(len(class), func(i, k int) { class[i], class[k] = class[k], class[i] })
		all = append(all, swollen(source, m, class))
	}
	return all
}

// swollen returns a machine whose states are equivalent to those of another one that a list tells; letters lead to any one of several.
func swollen(source *rand.Rand, m impl.Machine, class []int64) impl.Machine {
	n := machine(int64(len(class)), m.Outputs, nil, nil)
	for letter := range m.Next {
		var next, out []int64
		for _, c := range class {
			t := source.Intn(len(class))
			for class[t] != m.Next[letter][c] {
				t = source.Intn(len(class))
			}
			next, out = append(next, int64(t)), append(out, m.Out[letter][c])
		}
		n.Next, n.Out = append(n.Next, next), append(n.Out, out)
	}
	return n
}

// adaptiveMachines have telling trees with a depth less than the length of their telling words, or no telling words at all. Beside the longest way of some trees, a lesser letter would do for the depth of the tree, but not for that of the node.
func adaptiveMachines() []impl.Machine {
	return []impl.Machine{
		readMachine("machine 4 3 2\nletter 1/2 0/0 3/2 2/0\nletter 1/2 1/2 1/2 1/0\n"),
		readMachine("machine 4 2 2\nletter 3/1 2/1 3/1 1/0\nletter 1/1 1/0 3/1 0/0\n"),
		readMachine("machine 4 2 2\nletter 2/0 3/1 0/0 1/1\nletter 1/1 3/0 2/0 0/0\n"),
		readMachine("machine 4 2 3\nletter 0/0 1/0 2/0 3/0\nletter 2/1 3/1 0/0 1/0\nletter 2/0 0/0 1/0 1/0\n"),
		readMachine("machine 5 2 2\nletter 1/1 0/0 4/0 3/0 2/1\nletter 0/0 1/1 3/1 2/0 0/0\n"),
		readMachine("machine 5 2 2\nletter 4/0 0/1 3/0 2/1 1/1\nletter 1/0 3/0 4/0 2/0 0/1\n"),
		readMachine("machine 5 3 3\nletter 4/0 1/0 2/1 0/2 0/0\nletter 1/0 3/0 2/1 0/0 4/1\nletter 4/1 3/0 1/1 0/0 2/0\n"),
		readMachine("machine 6 3 2\nletter 1/0 5/1 4/1 2/0 3/1 0/1\nletter 3/0 0/0 2/0 1/0 0/0 0/0\n"),
		readMachine("machine 6 2 2\nletter 0/0 2/0 4/0 5/0 1/0 1/0\nletter 5/1 0/0 3/0 4/1 2/0 1/0\n"),
		readMachine("machine 7 2 2\nletter 1/0 5/1 4/0 2/1 0/1 3/0 6/0\nletter 6/1 0/0 4/0 2/0 4/0 4/0 0/0\n"),
		readMachine("machine 7 2 2\nletter 1/0 0/0 4/1 6/1 6/0 2/0 5/0\nletter 3/0 2/1 0/0 6/0 1/0 4/0 4/0\n"),
		readMachine("machine 7 2 3\nletter 5/0 6/1 1/1 4/0 0/0 3/0 2/1\nletter 0/0 4/0 1/0 2/0 6/0 6/0 3/0\nletter 4/1 5/0 5/0 1/1 6/0 3/0 0/0\n"),
	}
}

// The machines with long words have a homing word of 66 letters, a telling word of 41, and a word of 62 that identifies the state 0.
func longHoming() impl.Machine {
	return readMachine("machine 10 3 2\nletter 0/1 1/1 6/1 7/1 2/1 9/1 8/1 3/1 4/1 5/1\nletter 7/2 2/2 1/2 6/2 3/2 8/2 3/2 0/2 5/2 9/2\n")
}

func longTelling() impl.Machine {
	return readMachine("machine 10 2 3\nletter 6/0 5/0 9/0 0/0 0/0 6/0 7/0 5/0 2/0 8/0\nletter 1/0 4/0 9/0 2/0 4/1 6/0 7/0 5/0 8/0 3/0\nletter 6/0 3/0 6/0 5/0 9/0 8/0 6/0 5/0 6/0 6/0\n")
}

func longIdentifying() impl.Machine {
	return readMachine("machine 10 3 3\nletter 0/1 5/1 6/1 9/1 1/1 2/1 0/1 0/1 7/2 4/1\nletter 4/2 4/2 4/2 8/2 4/2 4/2 9/2 0/2 9/2 4/2\nletter 0/0 1/0 2/0 9/0 4/0 5/0 7/0 3/0 6/0 9/0\n")
}

// manyMachines are machines of many kinds.
func manyMachines() []impl.Machine {
	return slices.Concat(validMachines(), smallMachines(), adaptiveMachines(), randomMachines(200, 2, 6), randomMachines(60, 7, 10), swollenMachines(80, 10))
}

// renumberedMachine returns the machine whose state i is the state order[i] of another one; states that are left out are not led to.
func renumberedMachine(m impl.Machine, order []int64) impl.Machine {
	other := machine(int64(len(order)), m.Outputs, nil, nil)
	for letter := range m.Next {
		var next, out []int64
		for _, s := range order {
			next = append(next, int64(slices.Index(order, m.Next[letter][s])))
			out = append(out, m.Out[letter][s])
		}
		other.Next, other.Out = append(other.Next, next), append(other.Out, out)
	}
	return other
}

// doubtful is a machine for which so many different doubts are found before the first one without sets, or in all.
type doubtful struct {
	doubts int
	code   int64
	text   string
}

// doubtfulHoming and doubtfulTelling reach MaxUncertain doubts, or pass it, when a homing or a telling word is looked for.
func doubtfulHoming() []doubtful {
	return []doubtful{
		{2000, impl.OK, "machine 10 2 2\nletter 2/0 9/0 7/0 3/0 4/0 1/0 3/0 5/0 8/0 0/0\nletter 0/0 7/0 5/0 9/0 3/0 1/0 1/1 4/1 6/1 4/0\n"},
		{2000, impl.OK, "machine 10 2 3\nletter 0/0 9/0 8/0 5/0 4/0 1/0 1/1 3/1 3/0 2/0\nletter 4/0 5/0 3/0 2/0 8/0 8/1 7/1 5/0 0/0 4/1\nletter 4/0 7/0 5/0 0/0 8/0 2/0 8/0 9/0 1/0 6/0\n"},
		{2001, impl.ErrLimit, "machine 10 2 2\nletter 4/0 7/0 5/0 0/0 2/0 6/0 9/0 4/0 3/0 3/0\nletter 8/0 8/1 4/0 5/0 2/0 0/0 3/0 4/1 6/0 1/1\n"},
		{2001, impl.ErrLimit, "machine 9 2 3\nletter 5/0 4/0 8/0 3/0 2/0 7/0 1/1 0/0 5/1\nletter 4/0 6/0 8/0 2/0 3/0 5/0 8/0 1/0 7/0\nletter 3/0 2/0 7/0 5/0 8/0 0/0 2/0 1/0 6/0\n"},
		{2000, impl.ErrNotFound, "machine 10 3 2\nletter 1/0 7/0 5/0 0/0 6/0 2/0 9/0 9/0 1/0 3/0\nletter 8/1 3/0 2/0 7/0 5/0 5/0 6/1 8/0 4/0 1/0\n"},
		{2000, impl.ErrNotFound, "machine 10 2 2\nletter 3/1 2/1 5/0 1/0 7/0 6/0 0/0 6/0 9/0 8/0\nletter 7/0 3/0 0/0 6/0 0/0 4/0 1/0 5/0 8/0 9/0\n"},
		{2001, impl.ErrLimit, "machine 10 2 2\nletter 8/0 4/0 1/1 0/0 3/0 5/0 6/0 9/0 6/1 7/0\nletter 1/0 8/0 0/0 1/0 5/0 2/0 7/0 6/0 4/0 9/0\n"},
		{2001, impl.ErrLimit, "machine 10 3 2\nletter 8/0 9/0 7/0 2/0 0/1 1/1 0/0 7/0 6/0 5/0\nletter 7/0 1/0 8/0 0/0 1/0 4/0 2/0 6/0 3/0 9/0\n"},
	}
}

func doubtfulTelling() []doubtful {
	return []doubtful{
		{2000, impl.OK, "machine 8 2 3\nletter 7/0 0/0 6/0 5/0 3/0 0/0 4/0 2/0\nletter 1/0 6/1 3/0 6/0 3/0 7/0 5/0 2/0\nletter 0/1 3/1 6/0 7/0 3/0 2/0 4/0 5/0\n"},
		{2000, impl.OK, "machine 10 2 3\nletter 4/0 1/0 0/0 5/0 3/0 2/0 2/0 3/0 6/0 8/0\nletter 0/1 3/0 5/0 2/0 9/0 1/0 9/1 7/1 8/0 6/1\nletter 3/0 7/0 9/0 6/0 6/1 8/0 2/0 0/1 0/0 1/0\n"},
		{2001, impl.ErrLimit, "machine 10 2 3\nletter 3/0 8/0 1/0 0/0 4/0 7/1 7/0 6/0 2/0 8/0\nletter 0/1 4/0 6/1 3/1 4/1 0/1 7/1 2/1 8/1 7/0\nletter 1/0 6/0 0/0 2/0 8/0 0/1 3/0 7/0 4/0 9/1\n"},
		{2001, impl.ErrLimit, "machine 10 2 3\nletter 2/0 8/0 1/0 5/0 7/0 5/1 0/0 4/0 9/0 3/0\nletter 4/0 6/1 2/0 9/0 3/0 1/0 6/0 5/1 0/0 8/0\nletter 0/0 4/0 6/1 9/0 1/0 3/0 8/0 5/1 6/0 2/0\n"},
		{2000, impl.ErrNotFound, "machine 10 2 2\nletter 4/1 0/0 1/0 8/1 0/1 6/1 9/1 5/1 7/1 3/1\nletter 4/0 1/0 4/1 8/0 0/0 9/0 5/1 7/1 5/0 3/0\n"},
		{2000, impl.ErrNotFound, "machine 10 3 3\nletter 3/1 4/2 2/1 4/1 0/1 1/2 9/2 7/1 8/1 8/2\nletter 5/0 7/0 8/0 2/1 9/0 7/2 1/0 0/0 2/0 4/0\nletter 0/1 9/1 2/1 4/1 7/1 4/1 8/1 1/1 8/1 8/1\n"},
		{2001, impl.ErrLimit, "machine 10 2 2\nletter 1/0 6/0 8/0 1/0 4/0 3/0 8/0 9/0 5/0 7/0\nletter 4/1 8/0 0/0 2/1 9/0 7/1 1/0 4/0 2/0 7/0\n"},
		{2001, impl.ErrLimit, "machine 10 3 2\nletter 2/1 8/1 0/1 5/1 7/1 1/1 3/1 3/1 4/1 7/1\nletter 0/0 3/0 2/0 6/0 0/2 9/0 5/0 5/2 9/2 8/0\n"},
	}
}

// leaf and node return trees.
func leaf(from, now []int64) impl.Tree {
	return impl.Tree{Letter: -1, From: from, Now: now}
}

func node(letter int64, from, now []int64, kids ...impl.Tree) impl.Tree {
	return impl.Tree{Letter: letter, From: from, Now: now, Kids: kids}
}

// copiedTree returns a tree with the same lists in other memory.
func copiedTree(t impl.Tree) impl.Tree {
	out := impl.Tree{Letter: t.Letter, From: slices.Clone(t.From), Now: slices.Clone(t.Now)}
	for _, kid := range t.Kids {
		out.Kids = append(out.Kids, copiedTree(kid))
	}
	return out
}

// nodesOf returns the nodes of a tree, to be changed in place.
func nodesOf(t *impl.Tree) []*impl.Tree {
	nodes := []*impl.Tree{t}
	for i := range t.Kids {
		nodes = append(nodes, nodesOf(&t.Kids[i])...)
	}
	return nodes
}

// depthOf tells how many letters a tree reads at most.
func depthOf(t impl.Tree) int {
	depth := 0
	for _, kid := range t.Kids {
		depth = max(depth, 1+depthOf(kid))
	}
	return depth
}

// silentChain returns a tree with so many nodes for a machine with one state and one output.
func silentChain(nodes int) impl.Tree {
	t := leaf(list(0), list(0))
	for range nodes - 1 {
		t = node(0, list(0), list(0), t)
	}
	return t
}

// chapter6 are the functions of chapter 6, with their models.
func chapter6() []function {
	return []function{
		{"ValidMachine", impl.ValidMachine, modelValidMachine},
		{"SameMachine", impl.SameMachine, modelSameMachine},
		{"MachineText", impl.MachineText, modelMachineText},
		{"ReadMachine", impl.ReadMachine, modelReadMachine},
		{"OutputsOf", impl.OutputsOf, modelOutputsOf},
		{"ForgetOutputs", impl.ForgetOutputs, modelForgetOutputs},
		{"DistinguishingWord", impl.DistinguishingWord, modelDistinguishingWord},
		{"EquivalentStates", impl.EquivalentStates, modelEquivalentStates},
		{"ReduceMachine", impl.ReduceMachine, modelReduceMachine},
		{"TrimMachine", impl.TrimMachine, modelTrimMachine},
		{"MachineDifference", impl.MachineDifference, modelMachineDifference},
		{"PairAutomaton", impl.PairAutomaton, modelPairAutomaton},
		{"IsHoming", impl.IsHoming, modelIsHoming},
		{"HomingWord", impl.HomingWord, modelHomingWord},
		{"IsTelling", impl.IsTelling, modelIsTelling},
		{"TellingWord", impl.TellingWord, modelTellingWord},
		{"IdentifyingWord", impl.IdentifyingWord, modelIdentifyingWord},
		{"TellingSet", impl.TellingSet, modelTellingSet},
		{"HomingTree", impl.HomingTree, modelHomingTree},
		{"TellingTree", impl.TellingTree, modelTellingTree},
		{"CheckTree", impl.CheckTree, modelCheckTree},
		{"FollowTree", impl.FollowTree, modelFollowTree},
	}
}

// someMachineTexts are texts of machines, and others.
func someMachineTexts() []string {
	return append(someTexts(), machineText, "machine 1 1 1\nletter 0/0\n", "machine 1 3 1\nletter 0/2\n", "machine 1 1 1\nletter 0/1\n", "machine 1 1 1\nletter 1/0\n", "machine 1 1 1\nletter 0\n", "machine 1 4 1\nletter 0/0\n",
		"machine 11 1 1\nletter"+strings.Repeat(" 0/0", 11)+"\n", "machine 2 2 1\nletter 1/0 0/1", "machine 2 2 1\nletter 1/0  0/1\n", strings.Repeat("machine ", 250), strings.Repeat("machine ", 251))
}
