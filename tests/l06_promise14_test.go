package tests

import (
	"math"
	"math/rand"
	"slices"
	"strings"
	"testing"

	"loop.example/g01102/impl"
)

func TestPromise14Limits(t *testing.T) {
	got := list(impl.MaxOutputs, impl.MaxUncertain, impl.MaxTreeDepth, impl.MaxTreeNodes)
	if wanted(got) != wanted(list(3, 2000, 8, 600)) {
		t.Errorf("limits: %v", got)
	}
}

func TestPromise14ExampleOfChapter6(t *testing.T) {
	m, code := impl.ReadMachine(machineText)
	if code != impl.OK || !modelSameMachine(m, machineExample()) {
		t.Fatalf("ReadMachine: %v %d", m, code)
	}
	expect(t, "TellingWord", impl.TellingWord, []any{m}, []any{word("a"), impl.OK})
	expect(t, "HomingWord", impl.HomingWord, []any{m}, []any{word("a"), impl.OK})
	expect(t, "IsHoming", impl.IsHoming, []any{m, word("b")}, []any{true, impl.OK})
	expect(t, "OutputsOf", impl.OutputsOf, []any{m, 1, word("ab")}, []any{list(1, 0), 0, impl.OK})
}

func TestPromise14ValidMachines(t *testing.T) {
	for _, m := range manyMachines() {
		expect(t, "ValidMachine", impl.ValidMachine, []any{m}, []any{true})
	}
	zeros, nines, outs := repeated(0, 10), repeated(9, 10), repeated(2, 10)
	expect(t, "ValidMachine", impl.ValidMachine, []any{machine(10, 3, lists(zeros, nines, upTo(10)), lists(outs, outs, zeros))}, []any{true})
	beyond := []impl.Machine{
		machine(10, 3, lists(zeros, nines, repeated(10, 10)), lists(outs, outs, zeros)),
		machine(10, 3, lists(zeros, nines, upTo(10)), lists(outs, outs, repeated(3, 10))),
		machine(10, 3, lists(zeros, nines, upTo(10)), lists(outs, outs, append(repeated(0, 9), 3))),
		machine(10, 3, lists(zeros, nines, upTo(10)), lists(outs, outs, append(repeated(0, 9), -1))),
		machine(10, 3, lists(zeros, nines, upTo(9)), lists(outs, outs, zeros)),
		machine(10, 3, lists(zeros, nines, upTo(10)), lists(outs, outs, zeros[:9])),
		machine(10, 3, lists(zeros, nines, upTo(10)), lists(outs, outs, repeated(0, 11))),
		machine(10, 3, lists(zeros, nines, upTo(10)), lists(outs, outs)),
		machine(10, 3, lists(zeros, nines), lists(outs, outs, zeros)),
		machine(10, 3, lists(zeros, zeros, zeros, zeros), lists(outs, outs, zeros, zeros)),
		machine(10, 2, lists(zeros, nines, upTo(10)), lists(outs, outs, zeros)),
		machine(10, 4, lists(zeros, nines, upTo(10)), lists(outs, outs, zeros)),
		machine(9, 3, lists(zeros, zeros, zeros), lists(outs, outs, zeros)),
		machine(11, 3, lists(repeated(0, 11)), lists(repeated(0, 11))),
	}
	for _, m := range append(beyond, invalidMachines()...) {
		expect(t, "ValidMachine", impl.ValidMachine, []any{m}, []any{false})
	}
}

// TestPromise14OutputRange takes all outputs from -1 to one more than there may be, and all numbers of outputs.
func TestPromise14OutputRange(t *testing.T) {
	for outputs := int64(-1); outputs <= 5; outputs++ {
		for _, out := range allLists(2, -1, 5) {
			named("ValidMachine").compare(t, machine(2, outputs, lists(list(0, 1)), lists(out)))
			named("ValidMachine").compare(t, machine(2, outputs, lists(list(0, 1), list(1, 1)), lists(list(0, 0), out)))
		}
	}
	for _, next := range allLists(2, -1, 3) {
		named("ValidMachine").compare(t, machine(2, 3, lists(next), lists(list(0, 2))))
		named("ValidMachine").compare(t, machine(2, 3, lists(list(0, 0), next), lists(list(0, 2), list(1, 1))))
	}
}

func TestPromise14SameMachines(t *testing.T) {
	same := func(a, b impl.Machine, want bool) {
		t.Helper()
		expect(t, "SameMachine", impl.SameMachine, []any{a, b}, []any{want})
		expect(t, "SameMachine", impl.SameMachine, []any{b, a}, []any{want})
	}
	m := machineExample()
	same(m, machineExample(), true)
	// Machines that are not valid may be the same, too; nil and empty lists are equal.
	same(impl.Machine{}, machine(0, 0, [][]int64{}, [][]int64{}), true)
	same(machine(-7, 9, lists(nil, list(8)), lists(list(), list(-8))), machine(-7, 9, lists(list(), list(8)), lists(nil, list(-8))), true)
	same(machine(1, 1, nil, lists(list(3))), machine(1, 1, lists(), lists(list(3))), true)
	same(machine(math.MinInt64, math.MaxInt64, nil, nil), machine(math.MinInt64, math.MaxInt64, nil, nil), true)
	same(machine(1, 1, nil, nil), machine(1, 1, lists(nil), nil), false)
	same(machine(1, 1, nil, nil), machine(1, 1, nil, lists(nil)), false)
	same(machine(1, 1, lists(nil), nil), machine(1, 1, nil, lists(nil)), false)
	same(machine(1, 1, nil, lists(nil)), machine(1, 1, nil, lists(nil, nil)), false)
	same(m, machine(3, 2, m.Next, m.Out), false)
	same(m, machine(2, 3, m.Next, m.Out), false)
	same(m, machine(2, 2, m.Next[:1], m.Out), false)
	same(m, machine(2, 2, m.Next, m.Out[:1]), false)
	same(m, machine(2, 2, m.Next, lists(list(0, 1), list(0, 1))), false)
	same(m, machine(2, 2, m.Next, lists(list(0, 1), list(0))), false)
	same(m, machine(2, 2, lists(list(1, 0), list(0, 1)), m.Out), false)
	same(m, machine(2, 2, m.Out, m.Next), false)
}

func TestPromise14Texts(t *testing.T) {
	texts := map[string]impl.Machine{
		machineText:                                                        machineExample(),
		"machine 1 1 1\nletter 0/0\n":                                      silent(auto(1, list(0))),
		"machine 1 3 1\nletter 0/2\n":                                      machine(1, 3, lists(list(0)), lists(list(2))),
		"machine 1 3 1\nletter 0/0\n":                                      machine(1, 3, lists(list(0)), lists(list(0))),
		"machine 2 1 1\nletter 1/0 0/0\n":                                  silent(cycle(2)),
		"machine 3 2 1\nletter 1/0 2/0 0/1\n":                              bell(3),
		"machine 3 3 1\nletter 2/1 2/2 2/0\n":                              machine(3, 3, lists(list(2, 2, 2)), lists(list(1, 2, 0))),
		"machine 1 2 2\nletter 0/1\nletter 0/0\n":                          machine(1, 2, lists(list(0), list(0)), lists(list(1), list(0))),
		"machine 10 2 1\nletter 1/0 2/0 3/0 4/0 5/0 6/0 7/0 8/0 9/0 0/1\n": bell(10),
		"machine 10 3 3\n" + strings.Repeat("letter 9/2 8/1 7/0 6/2 5/1 4/0 3/2 2/1 1/0 0/2\n", 3): machine(10, 3,
			slices.Repeat(lists(list(9, 8, 7, 6, 5, 4, 3, 2, 1, 0)), 3), slices.Repeat(lists(list(2, 1, 0, 2, 1, 0, 2, 1, 0, 2)), 3)),
	}
	for text, m := range texts {
		expect(t, "MachineText", impl.MachineText, []any{m}, []any{text})
		expect(t, "ReadMachine", impl.ReadMachine, []any{text}, []any{m, impl.OK})
	}
	for _, m := range manyMachines() {
		named("MachineText").compare(t, m)
		expect(t, "ReadMachine", impl.ReadMachine, []any{impl.MachineText(m)}, []any{m, impl.OK})
	}
	for _, m := range invalidMachines() {
		expect(t, "MachineText", impl.MachineText, []any{m}, []any{""})
	}
}

func TestPromise14TextsOfNoMachine(t *testing.T) {
	texts := []string{
		"", "\n", " ", "/", "machine", "machine \n", "machine 1\n", "machine 1 1\n", "machine 1 1 1\n", "machine 1 1\nletter 0/0\n", "machine 1 1 1\nletter\n", "machine 1 1 1\nletter \n",
		// A byte too few or too many, a blank too many.
		"machine 1 1 1\nletter 0/0", "machine 1 1 1\nletter 0/0\n\n", "machine 1 1 1\nletter 0/0 \n", "machine 1 1 1\nletter 0/0\n ", "machine 1 1 1\nletter 0/0\n0", "machine 1 1 1\nletter 0/0\n\x00", "machine 1 1 1 \nletter 0/0\n",
		" machine 1 1 1\nletter 0/0\n", "\nmachine 1 1 1\nletter 0/0\n", "machine  1 1 1\nletter 0/0\n", "machine 1  1 1\nletter 0/0\n", "machine 1 1  1\nletter 0/0\n", "machine 1 1 1\nletter  0/0\n", "machine 1 1 1\n letter 0/0\n", "machine 1 1 1\n\nletter 0/0\n",
		"machine 1 1 1\nletter 0 /0\n", "machine 1 1 1\nletter 0/ 0\n", "machine 1 1 1\nletter 0 / 0\n", "machine 2 1 1\nletter 0/0  0/0\n", "machine\t1 1 1\nletter 0/0\n", "machine 1 1 1\nletter\t0/0\n", "machine 1 1 1\r\nletter 0/0\r\n", "machine1 1 1\nletter 0/0\n", "machine 1 1 1\nletter0/0\n", "machine 1 1 1letter 0/0\n",
		// A missing or another "/".
		"machine 1 1 1\nletter 0\n", "machine 1 1 1\nletter 0 0\n", "machine 1 1 1\nletter 00\n", "machine 1 1 1\nletter 0/\n", "machine 1 1 1\nletter /0\n", "machine 1 1 1\nletter /\n", "machine 1 1 1\nletter 0//0\n", "machine 1 1 1\nletter 0/0/\n", "machine 1 1 1\nletter 0/0/0\n", "machine 1 1 1\nletter /0/0\n", "machine 1 1 1\nletter 0\\0\n", "machine 1 1 1\nletter 0,0\n", "machine 1 1 1\nletter 0:0\n", "machine 1 1 1\nletter 0\u22150\n",
		"machine 2 1 1\nletter 0/0 0\n", "machine 2 1 1\nletter 0 0/0\n", "machine 2 1 1\nletter 0/0/0 0\n",
		// Numbers with a sign or a leading zero.
		"machine 01 1 1\nletter 0/0\n", "machine 1 01 1\nletter 0/0\n", "machine 1 1 01\nletter 0/0\n", "machine +1 1 1\nletter 0/0\n", "machine 1 +1 1\nletter 0/0\n", "machine 1 1 +1\nletter 0/0\n",
		"machine 1 1 1\nletter 00/0\n", "machine 1 1 1\nletter 0/00\n", "machine 1 1 1\nletter +0/0\n", "machine 1 1 1\nletter 0/+0\n", "machine 1 1 1\nletter -0/0\n", "machine 1 1 1\nletter 0/-0\n", "machine 2 2 1\nletter 01/0 0/0\n", "machine 2 2 1\nletter 1/01 0/0\n", "machine 2 2 1\nletter 1/0 0/+1\n",
		// Numbers out of range.
		"machine 0 1 1\nletter\n", "machine 0 1 1\nletter \n", "machine 1 0 1\nletter 0/0\n", "machine 1 1 0\n", "machine -1 1 1\nletter 0/0\n", "machine 1 -1 1\nletter 0/0\n", "machine 1 1 -1\nletter 0/0\n", "machine 1 4 1\nletter 0/0\n", "machine 1 4 1\nletter 0/3\n", "machine 1 1 4\nletter 0/0\nletter 0/0\nletter 0/0\nletter 0/0\n",
		"machine 11 1 1\nletter" + strings.Repeat(" 0/0", 11) + "\n", "machine 1 1 1\nletter 1/0\n", "machine 1 1 1\nletter 0/1\n", "machine 1 2 1\nletter 0/2\n", "machine 1 3 1\nletter 0/3\n", "machine 1 1 1\nletter -1/0\n", "machine 1 1 1\nletter 0/-1\n", "machine 2 2 1\nletter 0/1 2/0\n", "machine 2 2 1\nletter 0/1 1/2\n",
		"machine 18446744073709551617 1 1\nletter 0/0\n", "machine 1 18446744073709551617 1\nletter 0/0\n", "machine 1 1 18446744073709551617\nletter 0/0\n", "machine 1 1 1\nletter 18446744073709551616/0\n", "machine 1 1 1\nletter 0/18446744073709551616\n", "machine 1 1 1\nletter 0/9223372036854775808\n",
		// Too few or too many elements or lines.
		"machine 2 1 1\nletter 0/0\n", "machine 1 1 1\nletter 0/0 0/0\n", "machine 1 1 2\nletter 0/0\n", "machine 1 1 2\nletter 0/0\n\n", "machine 1 1 2\nletter 0/0\nletter\n", "machine 1 1 1\nletter 0/0\nletter 0/0\n", "machine 1 1 2 3\nletter 0/0\nletter 0/0\n",
		"Machine 1 1 1\nletter 0/0\n", "machine 1 1 1\nLetter 0/0\n", "machine 1 1 1\nletters 0/0\n", "machines 1 1 1\nletter 0/0\n", "machine 1 1 1 letter 0/0\n", "machine 1 1 1\nletter 0/a\n", "machine 1 1 1\nletter x/0\n", "machine a 1 1\nletter 0/0\n", "automaton 1 1\nletter 0\n", "automaton 1 1 1\nletter 0/0\n", "partial 1 1 1\nletter 0/0\n",
		"\ufeffmachine 1 1 1\nletter 0/0\n", "machine 1 1 1\nletter \u0660/0\n", machineText + machineText, machineText + "\n",
	}
	for _, text := range texts {
		expect(t, "ReadMachine", impl.ReadMachine, []any{text}, []any{impl.Machine{}, impl.ErrSyntax})
	}
	expect(t, "ReadAutomaton", impl.ReadAutomaton, []any{machineText}, []any{impl.Automaton{}, impl.ErrSyntax})
}

func TestPromise14ChangedTexts(t *testing.T) {
	t.Parallel()
	compareChangedTexts(t, "ReadMachine", machineText, "machine 1 1 1\nletter 0/0\n", "machine 1 3 1\nletter 0/1\n", "machine 3 2 1\nletter 1/0 2/0 0/1\n", "machine 10 3 1\nletter 9/0 8/1 7/2 6/0 5/1 4/2 3/0 2/1 1/2 0/0\n")
}

func TestPromise14LongTexts(t *testing.T) {
	for _, begin := range []string{"", machineText, "machine 1 1 1\nletter ", "machine 1 1 1\nletter 0/", "machine 1 ", "machine "} {
		for _, b := range []string{" ", "0", "1", "/", "\n", "x", "\xff"} {
			long := begin + strings.Repeat(b, impl.MaxText-len(begin))
			expect(t, "ReadMachine", impl.ReadMachine, []any{long}, []any{impl.Machine{}, impl.ErrSyntax})
			expect(t, "ReadMachine", impl.ReadMachine, []any{long + b}, []any{impl.Machine{}, impl.ErrRange})
			expect(t, "ReadMachine", impl.ReadMachine, []any{strings.Repeat(long, 3)}, []any{impl.Machine{}, impl.ErrRange})
		}
	}
}

func TestPromise14Outputs(t *testing.T) {
	m := readMachine("machine 3 3 2\nletter 1/0 2/1 0/2\nletter 1/2 1/1 1/0\n")
	outputs := func(s int64, text string, want []int64, end int64) {
		t.Helper()
		expect(t, "OutputsOf", impl.OutputsOf, []any{m, s, word(text)}, []any{want, end, impl.OK})
	}
	for s := range int64(3) {
		// The empty word has no outputs and leads nowhere else.
		outputs(s, "-", nil, s)
		expect(t, "OutputsOf", impl.OutputsOf, []any{m, s, list()}, []any{list(), s, impl.OK})
	}
	outputs(0, "a", list(0), 1)
	outputs(1, "a", list(1), 2)
	outputs(2, "a", list(2), 0)
	outputs(0, "b", list(2), 1)
	outputs(1, "b", list(1), 1)
	outputs(2, "b", list(0), 1)
	outputs(0, "aaaa", list(0, 1, 2, 0), 1)
	outputs(2, "abba", list(2, 2, 1, 1), 2)
	outputs(1, "ab", list(1, 0), 1)
	long := slices.Repeat(list(0, 1, 2), impl.MaxWord/3+1)[:impl.MaxWord]
	expect(t, "OutputsOf", impl.OutputsOf, []any{m, 0, repeated(0, impl.MaxWord)}, []any{long, 1, impl.OK})
	for _, w := range lists(repeated(0, impl.MaxWord+1), list(2), list(-1), list(0, 1, 2), list(math.MinInt64), list(math.MaxInt64, 0)) {
		expect(t, "OutputsOf", impl.OutputsOf, []any{m, 0, w}, []any{nil, 0, impl.ErrRange})
	}
	for _, s := range list(-1, 3, 10, math.MinInt64, math.MaxInt64) {
		expect(t, "OutputsOf", impl.OutputsOf, []any{m, s, nil}, []any{nil, 0, impl.ErrRange})
		expect(t, "OutputsOf", impl.OutputsOf, []any{m, s, word("a")}, []any{nil, 0, impl.ErrRange})
	}
	one := silent(auto(1, list(0), list(0), list(0)))
	expect(t, "OutputsOf", impl.OutputsOf, []any{one, 0, repeated(2, impl.MaxWord)}, []any{repeated(0, impl.MaxWord), 0, impl.OK})
	expect(t, "OutputsOf", impl.OutputsOf, []any{one, 0, repeated(2, impl.MaxWord+1)}, []any{nil, 0, impl.ErrRange})
}

// randomWord returns a word of a machine with at most so many letters.
func randomWord(source *rand.Rand, m impl.Machine, longest int) []int64 {
	w := make([]int64, source.Intn(longest+1))
	for i := range w {
		w[i] = source.Int63n(int64(len(m.Next)))
	}
	return w
}

// TestPromise14OutputsOfParts tells that the outputs for a word are those for its two parts, the second one from where the first one leads, and that it leads to where the machine's automaton leads.
func TestPromise14OutputsOfParts(t *testing.T) {
	t.Parallel()
	source := rand.New(rand.NewSource(14))
	for _, m := range manyMachines() {
		a, code := impl.ForgetOutputs(m)
		if code != impl.OK {
			t.Fatalf("ForgetOutputs(%v): %d", m, code)
		}
		for _, longest := range []int{4, 8, impl.MaxWord} {
			w, s := randomWord(source, m, longest), source.Int63n(m.States)
			named("OutputsOf").compare(t, m, s, w)
			cut := source.Intn(len(w) + 1)
			first, middle, _ := impl.OutputsOf(m, s, w[:cut])
			second, last, _ := impl.OutputsOf(m, middle, w[cut:])
			expect(t, "OutputsOf", impl.OutputsOf, []any{m, s, w}, []any{slices.Concat(first, second), last, impl.OK})
			if image, _ := impl.ImageOf(a, list(s), w); !slices.Equal(image, list(last)) {
				t.Errorf("%v: the word %v leads from %d to %d, without outputs to %v", m, w, s, last, image)
			}
		}
	}
}

func TestPromise14ForgottenOutputs(t *testing.T) {
	forget := func(text, want string) {
		t.Helper()
		a, code := impl.ForgetOutputs(readMachine(text))
		if got := impl.AutomatonText(a); got != want || code != impl.OK {
			t.Errorf("ForgetOutputs(%q): got %q %d", text, got, code)
		}
	}
	forget(machineText, "automaton 2 2\nletter 1 0\nletter 0 0\n")
	forget("machine 1 3 1\nletter 0/2\n", "automaton 1 1\nletter 0\n")
	forget("machine 3 2 1\nletter 1/0 2/1 1/0\n", "automaton 3 1\nletter 1 2 1\n")
	for _, m := range manyMachines() {
		named("ForgetOutputs").compare(t, m)
	}
	for _, a := range validAutomata() {
		expect(t, "ForgetOutputs", impl.ForgetOutputs, []any{silent(a)}, []any{a, impl.OK})
	}
}

func TestPromise14DistinguishingWords(t *testing.T) {
	first := func(m impl.Machine, s, u int64, want string) {
		t.Helper()
		expect(t, "DistinguishingWord", impl.DistinguishingWord, []any{m, s, u}, []any{word(want), impl.OK})
		expect(t, "DistinguishingWord", impl.DistinguishingWord, []any{m, u, s}, []any{word(want), impl.OK})
	}
	none := func(m impl.Machine, s, u int64) {
		t.Helper()
		expect(t, "DistinguishingWord", impl.DistinguishingWord, []any{m, s, u}, []any{nil, impl.ErrNotFound})
		expect(t, "DistinguishingWord", impl.DistinguishingWord, []any{m, u, s}, []any{nil, impl.ErrNotFound})
	}
	first(machineExample(), 0, 1, "a")
	// A state is equivalent to itself.
	for _, m := range validMachines() {
		for s := range m.States {
			none(m, s, s)
		}
	}
	first(bell(3), 0, 1, "aa")
	first(bell(3), 0, 2, "a")
	first(bell(3), 1, 2, "a")
	first(bell(10), 0, 1, "aaaaaaaaa")
	first(bell(10), 3, 7, "aaa")
	// Of several words of one length, the first one; a shorter word comes before one with lesser letters.
	first(readMachine("machine 2 2 3\nletter 0/0 1/0\nletter 0/0 1/1\nletter 0/1 1/0\n"), 0, 1, "b")
	first(readMachine("machine 2 2 2\nletter 1/0 0/0\nletter 0/1 0/0\n"), 0, 1, "b")
	first(readMachine("machine 4 2 2\nletter 2/0 3/0 2/0 3/1\nletter 3/0 2/0 2/1 3/1\n"), 0, 1, "aa")
	first(readMachine("machine 4 2 2\nletter 0/0 0/0 0/0 0/1\nletter 3/0 2/0 2/0 3/0\n"), 0, 1, "ba")
	// States that come together with the same output never differ by words that begin so.
	come := comingTogether()
	first(come, 0, 1, "b")
	first(come, 0, 2, "a")
	first(come, 1, 2, "a")
	none(readMachine("machine 2 2 1\nletter 0/1 0/1\n"), 0, 1)
	first(readMachine("machine 2 2 1\nletter 0/1 0/0\n"), 0, 1, "a")
	none(readMachine("machine 3 2 1\nletter 1/0 2/1 1/0\n"), 0, 2)
	none(silent(cycle(10)), 2, 9)
	none(silent(auto(10, upTo(10), repeated(9, 10))), 0, 9)
	for _, s := range list(-1, 2, 10, math.MinInt64, math.MaxInt64) {
		for _, u := range list(0, s) {
			expect(t, "DistinguishingWord", impl.DistinguishingWord, []any{machineExample(), s, u}, []any{nil, impl.ErrRange})
			expect(t, "DistinguishingWord", impl.DistinguishingWord, []any{machineExample(), u, s}, []any{nil, impl.ErrRange})
		}
	}
}

// firstWordFor returns the first one of the words for which something is true.
func firstWordFor(words [][]int64, isTrue func(w []int64) bool) ([]int64, int) {
	if i := slices.IndexFunc(words, isTrue); i >= 0 {
		return words[i], impl.OK
	}
	return nil, impl.ErrNotFound
}

// TestPromise14AllShortWords goes through all words with fewer letters than the machine has states: two states that none of these distinguishes are equivalent.
func TestPromise14AllShortWords(t *testing.T) {
	t.Parallel()
	lengths := map[int]int{}
	for _, m := range slices.Concat(validMachines()[:21], smallMachines(), randomMachines(150, 3, 5), swollenMachines(60, 6)) {
		words := machineWords(m, int(m.States)-1)
		for s := range m.States {
			for u := range m.States {
				want, code := firstWordFor(words, func(w []int64) bool {
					one, _, _ := impl.OutputsOf(m, s, w)
					two, _, _ := impl.OutputsOf(m, u, w)
					return !slices.Equal(one, two)
				})
				expect(t, "DistinguishingWord", impl.DistinguishingWord, []any{m, s, u}, []any{want, code})
				lengths[len(want)]++
			}
		}
	}
	if lengths[0] < 500 || lengths[1] < 500 || lengths[2] < 100 || lengths[3] < 20 {
		t.Errorf("there are too few words of some lengths: %v", lengths)
	}
}

func TestPromise14WordsOfManyMachines(t *testing.T) {
	t.Parallel()
	for _, m := range slices.Concat(validMachines(), randomMachines(60, 6, 10), swollenMachines(40, 10)) {
		for s := range m.States {
			for u := range m.States {
				named("DistinguishingWord").compare(t, m, s, u)
			}
		}
	}
}
