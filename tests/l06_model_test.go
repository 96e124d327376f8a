package tests

import (
	"fmt"
	"slices"
	"strconv"
	"strings"

	"loop.example/g01102/impl"
)

// The functions of this file tell what those of chapter 6 should return, as directly as the document does. They read each word from its beginning, from all states, and look at its outputs and its ends.

// modelAuto returns the automaton of a machine.
func modelAuto(m impl.Machine) impl.Automaton { return auto(m.States, m.Next...) }

func modelValidMachine(m impl.Machine) bool {
	valid := modelValid(modelAuto(m)) && 1 <= m.Outputs && m.Outputs <= 3 && len(m.Out) == len(m.Next)
	for _, out := range m.Out {
		valid = valid && int64(len(out)) == m.States && modelAllBelow(out, m.Outputs)
	}
	return valid
}

// Nil and empty slices print alike.
func modelSameMachine(a, b impl.Machine) bool { return fmt.Sprint(a) == fmt.Sprint(b) }

func modelMachineText(m impl.Machine) string {
	if !modelValidMachine(m) {
		return ""
	}
	text := fmt.Sprintf("machine %d %d %d\n", m.States, m.Outputs, len(m.Next))
	for letter := range m.Next {
		text += "letter"
		for s := range m.States {
			text += fmt.Sprintf(" %d/%d", m.Next[letter][s], m.Out[letter][s])
		}
		text += "\n"
	}
	return text
}

// modelReadMachine guesses the machine of a text, and looks whether it has this text.
func modelReadMachine(text string) (impl.Machine, int64) {
	if len(text) > 2000 {
		return impl.Machine{}, impl.ErrRange
	}
	states, lines := modelLines(text)
	m := impl.Machine{States: states}
	if first := strings.Fields(text); len(first) > 2 {
		m.Outputs, _ = strconv.ParseInt(first[2], 10, 64)
	}
	for _, line := range lines {
		var next, out []int64
		for _, word := range line {
			before, behind, _ := strings.Cut(word, "/")
			t, _ := strconv.ParseInt(before, 10, 64)
			output, _ := strconv.ParseInt(behind, 10, 64)
			next, out = append(next, t), append(out, output)
		}
		m.Next, m.Out = append(m.Next, next), append(m.Out, out)
	}
	if !modelValidMachine(m) || modelMachineText(m) != text {
		return impl.Machine{}, impl.ErrSyntax
	}
	return m, impl.OK
}

// modelEnd tells to which state a word leads.
func modelEnd(m impl.Machine, s int64, w []int64) int64 { return modelLead(modelAuto(m), s, w) }

// modelOutputs returns the outputs for a word, each at the end of what has been read before.
func modelOutputs(m impl.Machine, s int64, w []int64) []int64 {
	var outputs []int64
	for i, letter := range w {
		outputs = append(outputs, m.Out[letter][modelEnd(m, s, w[:i])])
	}
	return outputs
}

// modelRun returns the outputs as a text, and the end.
func modelRun(m impl.Machine, s int64, w []int64) (string, int64) {
	text := ""
	for _, letter := range w {
		text += string("012"[m.Out[letter][s]])
		s = m.Next[letter][s]
	}
	return text, s
}

func modelIsMachineWord(m impl.Machine, w []int64) bool { return modelValidWord(modelAuto(m), w) }

func modelIsMachineState(m impl.Machine, s int64) bool { return 0 <= s && s < m.States }

func modelOutputsOf(m impl.Machine, s int64, w []int64) ([]int64, int64, int64) {
	if !modelValidMachine(m) {
		return nil, 0, impl.ErrInvalid
	}
	if !modelIsMachineState(m, s) || !modelIsMachineWord(m, w) {
		return nil, 0, impl.ErrRange
	}
	if len(w) > 50 {
		// The outputs for two parts, one behind the other, take less time.
		first, middle, _ := modelOutputsOf(m, s, w[:50])
		second, end, _ := modelOutputsOf(m, middle, w[50:])
		return append(first, second...), end, impl.OK
	}
	return modelOutputs(m, s, w), modelEnd(m, s, w), impl.OK
}

func modelForgetOutputs(m impl.Machine) (impl.Automaton, int64) {
	if !modelValidMachine(m) {
		return impl.Automaton{}, impl.ErrInvalid
	}
	return modelAuto(m), impl.OK
}

// modelDiffers returns the first word whose outputs from s in a and from t in b are different.
func modelDiffers(a impl.Machine, s int64, b impl.Machine, t int64) ([]int64, int64) {
	read := func(w []int64) ([]int64, bool) {
		one, oneEnd := modelRun(a, s, w)
		two, twoEnd := modelRun(b, t, w)
		if one != two {
			return list(-1), true
		}
		return list(oneEnd, twoEnd), true
	}
	return modelFirstOf(len(a.Next), read, func(image []int64) bool { return image[0] < 0 })
}

func modelDistinguishingWord(m impl.Machine, s, t int64) ([]int64, int64) {
	if !modelValidMachine(m) {
		return nil, impl.ErrInvalid
	}
	if !modelIsMachineState(m, s) || !modelIsMachineState(m, t) {
		return nil, impl.ErrRange
	}
	return modelDiffers(m, s, m, t)
}

func modelEquivalentStates(m impl.Machine) ([]int64, int64) {
	if !modelValidMachine(m) {
		return nil, impl.ErrInvalid
	}
	class := list(0)
	for t := int64(1); t < m.States; t++ {
		number := slices.Max(class) + 1
		for s := range t {
			if _, code := modelDiffers(m, s, m, t); code == impl.ErrNotFound {
				number = class[s]
			}
		}
		class = append(class, number)
	}
	return class, impl.OK
}

func modelReduceMachine(m impl.Machine) (impl.Machine, int64) {
	class, code := modelEquivalentStates(m)
	if code != impl.OK {
		return impl.Machine{}, code
	}
	reduced := impl.Machine{States: slices.Max(class) + 1, Outputs: m.Outputs}
	for letter := range m.Next {
		next, out := make([]int64, reduced.States), make([]int64, reduced.States)
		for s, c := range class {
			next[c], out[c] = class[m.Next[letter][s]], m.Out[letter][s]
		}
		reduced.Next, reduced.Out = append(reduced.Next, next), append(reduced.Out, out)
	}
	return reduced, impl.OK
}

// modelTrimMachine sorts the states by the texts of their first words, in front of which their lengths stand.
func modelTrimMachine(m impl.Machine) (impl.Machine, int64) {
	if !modelValidMachine(m) {
		return impl.Machine{}, impl.ErrInvalid
	}
	stateOf := map[string]int64{}
	var texts []string
	for s := range m.States {
		w, code := modelFirst(modelAuto(m), list(0), func(image []int64) bool { return image[0] == s })
		if code == impl.OK {
			text := fmt.Sprintf("%03d", len(w)) + modelWordText(w)
			stateOf[text] = s
			texts = append(texts, text)
		}
	}
	slices.Sort(texts)
	var order []int64
	for _, text := range texts {
		order = append(order, stateOf[text])
	}
	return renumberedMachine(m, order), impl.OK
}

func modelMachineDifference(a, b impl.Machine) ([]int64, int64) {
	if !modelValidMachine(a) || !modelValidMachine(b) {
		return nil, impl.ErrInvalid
	}
	if a.Outputs != b.Outputs || len(a.Next) != len(b.Next) {
		return nil, impl.ErrRange
	}
	return modelDiffers(a, 0, b, 0)
}

func modelPairAutomaton(m impl.Machine) (impl.Automaton, int64) {
	if !modelValidMachine(m) {
		return impl.Automaton{}, impl.ErrInvalid
	}
	pairs := modelPairs(upTo(m.States))
	if len(pairs) > 9 {
		return impl.Automaton{}, impl.ErrLimit
	}
	end := int64(len(pairs))
	a := auto(end + 1)
	for letter, out := range m.Out {
		var next []int64
		for _, p := range pairs {
			goal := modelImage(modelAuto(m), p, list(int64(letter)))
			if out[p[0]] != out[p[1]] || len(goal) == 1 {
				next = append(next, end)
				continue
			}
			next = append(next, int64(slices.IndexFunc(pairs, func(q []int64) bool { return slices.Equal(q, goal) })))
		}
		a.Next = append(a.Next, append(next, end))
	}
	return a, impl.OK
}

func modelIsHoming(m impl.Machine, w []int64) (bool, int64) {
	return modelForAllPairs(m, w, func(one, two string, oneEnd, twoEnd int64) bool { return one != two || oneEnd == twoEnd })
}

func modelIsTelling(m impl.Machine, w []int64) (bool, int64) {
	return modelForAllPairs(m, w, func(one, two string, _, _ int64) bool { return one != two })
}

// modelForAllPairs asks for any two different states.
func modelForAllPairs(m impl.Machine, w []int64, isTrue func(one, two string, oneEnd, twoEnd int64) bool) (bool, int64) {
	if !modelValidMachine(m) {
		return false, impl.ErrInvalid
	}
	if !modelIsMachineWord(m, w) {
		return false, impl.ErrRange
	}
	for s := range m.States {
		for t := range m.States {
			one, oneEnd := modelRun(m, s, w)
			two, twoEnd := modelRun(m, t, w)
			if s != t && !isTrue(one, two, oneEnd, twoEnd) {
				return false, impl.OK
			}
		}
	}
	return true, impl.OK
}

// modelDoubt returns the doubt behind a word: for all outputs, the ends from the states that have these outputs, if there are several. It reports false if two of them have come together.
func modelDoubt(m impl.Machine, w []int64) ([]string, bool) {
	ends := map[string][]int64{}
	for s := range m.States {
		outputs, end := modelRun(m, s, w)
		ends[outputs] = append(ends[outputs], end)
	}
	var doubt []string
	apart := true
	for _, set := range ends {
		slices.Sort(set)
		several := slices.Compact(slices.Clone(set))
		apart = apart && len(several) == len(set)
		if len(several) > 1 {
			doubt = append(doubt, fmt.Sprint(several))
		}
	}
	slices.Sort(doubt)
	return slices.Compact(doubt), apart
}

// modelSettling follows the doubts of words, in their order, and returns the first word without doubt, and how many different doubts have been found before it.
func modelSettling(m impl.Machine, tells bool) ([]int64, int, int64) {
	found := map[string]bool{}
	for words := lists(nil); len(words) > 0; {
		var longer [][]int64
		for _, w := range words {
			doubt, apart := modelDoubt(m, w)
			if tells && !apart || found[fmt.Sprint(doubt)] {
				continue
			}
			if len(doubt) == 0 {
				return w, len(found), impl.OK
			}
			found[fmt.Sprint(doubt)] = true
			if len(found) > 2000 {
				return nil, len(found), impl.ErrLimit
			}
			for letter := range m.Next {
				longer = append(longer, append(slices.Clone(w), int64(letter)))
			}
		}
		words = longer
	}
	return nil, len(found), impl.ErrNotFound
}

func modelHomingWord(m impl.Machine) ([]int64, int64) {
	if !modelValidMachine(m) {
		return nil, impl.ErrInvalid
	}
	w, _, code := modelSettling(m, false)
	return w, code
}

func modelTellingWord(m impl.Machine) ([]int64, int64) {
	if !modelValidMachine(m) {
		return nil, impl.ErrInvalid
	}
	w, _, code := modelSettling(m, true)
	return w, code
}

// modelIdentifyingWord follows the end from s and the ends from the other states with the same outputs; where one of these is the end from s, no word goes on.
func modelIdentifyingWord(m impl.Machine, s int64) ([]int64, int64) {
	if !modelValidMachine(m) {
		return nil, impl.ErrInvalid
	}
	if !modelIsMachineState(m, s) {
		return nil, impl.ErrRange
	}
	read := func(w []int64) ([]int64, bool) {
		one, oneEnd := modelRun(m, s, w)
		var others []int64
		for t := range m.States {
			if two, twoEnd := modelRun(m, t, w); t != s && one == two {
				others = append(others, twoEnd)
			}
		}
		others = modelDifferent(others)
		return append(list(oneEnd), others...), !slices.Contains(others, oneEnd)
	}
	return modelFirstOf(len(m.Next), read, func(image []int64) bool { return len(image) == 1 })
}

func modelTellingSet(m impl.Machine) ([][]int64, int64) {
	if !modelValidMachine(m) {
		return nil, impl.ErrInvalid
	}
	var words [][]int64
	for _, p := range modelPairs(upTo(m.States)) {
		known := slices.ContainsFunc(words, func(w []int64) bool {
			one, _ := modelRun(m, p[0], w)
			two, _ := modelRun(m, p[1], w)
			return one != two
		})
		w, code := modelDiffers(m, p[0], m, p[1])
		if code != impl.OK {
			return nil, impl.ErrState
		}
		if !known {
			words = append(words, w)
		}
	}
	return words, impl.OK
}

// modelAnswering returns the states from which a word has these outputs, and the ends.
func modelAnswering(m impl.Machine, w []int64, outputs string) (from, now []int64) {
	for s := range m.States {
		if text, end := modelRun(m, s, w); text == outputs {
			from, now = append(from, s), append(now, end)
		}
	}
	return from, now
}

// modelDifferent returns the different numbers of a list, in ascending order.
func modelDifferent(numbers []int64) []int64 {
	return slices.Compact(slices.Sorted(slices.Values(numbers)))
}

// modelNodes counts the nodes of a tree, up to one more than there may be.
func modelNodes(t impl.Tree) int {
	nodes := 1
	for _, kid := range t.Kids {
		if nodes > 600 {
			break
		}
		nodes += modelNodes(kid)
	}
	return nodes
}

func modelHomingTree(m impl.Machine) (impl.Tree, int64) {
	if _, code := modelTellingSet(m); code != impl.OK {
		return impl.Tree{}, code
	}
	// read is what has been read, and rest what has not been read of the latest word.
	var grow func(read []int64, outputs string, rest []int64) impl.Tree
	grow = func(read []int64, outputs string, rest []int64) impl.Tree {
		from, now := modelAnswering(m, read, outputs)
		different := modelDifferent(now)
		if len(different) < 2 {
			return leaf(from, now)
		}
		if len(rest) == 0 {
			rest, _ = modelDiffers(m, different[0], m, different[1])
		}
		t := node(rest[0], from, now)
		for output := range m.Outputs {
			t.Kids = append(t.Kids, grow(append(slices.Clone(read), rest[0]), outputs+string("012"[output]), rest[1:]))
		}
		return t
	}
	t := grow(nil, "", nil)
	if modelNodes(t) > 600 {
		return impl.Tree{}, impl.ErrLimit
	}
	return t, impl.OK
}

// modelDepth returns the least depth of a telling tree for present states, if it is at most as great as told, and the least letter at its root; -1 if there is none. It asks for all letters and all their outputs.
func modelDepth(m impl.Machine, now []int64, most int64, known map[string][2]int64) (int64, int64) {
	if len(now) < 2 {
		return 0, -1
	}
	slices.Sort(now)
	key := fmt.Sprint(now, most)
	if told, ok := known[key]; ok {
		return told[0], told[1]
	}
	least, best := int64(-1), int64(-1)
	for letter := int64(0); letter < int64(len(m.Next)) && most > 0; letter++ {
		depth := modelDepthBehind(m, now, letter, most-1, known)
		if depth >= 0 && (least < 0 || depth+1 < least) {
			least, best = depth+1, letter
		}
	}
	known[key] = [2]int64{least, best}
	return least, best
}

// modelDepthBehind returns the greatest depth that has to be behind a letter, or -1 if there is none.
func modelDepthBehind(m impl.Machine, now []int64, letter, most int64, known map[string][2]int64) int64 {
	greatest := int64(0)
	for output := range m.Outputs {
		var goals []int64
		for _, s := range now {
			if m.Out[letter][s] == output {
				goals = append(goals, m.Next[letter][s])
			}
		}
		if len(modelDifferent(goals)) < len(goals) {
			return -1
		}
		depth, _ := modelDepth(m, goals, most, known)
		if depth < 0 {
			return -1
		}
		greatest = max(greatest, depth)
	}
	return greatest
}

func modelTellingTree(m impl.Machine) (impl.Tree, int64) {
	if !modelValidMachine(m) {
		return impl.Tree{}, impl.ErrInvalid
	}
	known := map[string][2]int64{}
	if depth, _ := modelDepth(m, upTo(m.States), 8, known); depth < 0 {
		return impl.Tree{}, impl.ErrNotFound
	}
	var grow func(read []int64, outputs string) impl.Tree
	grow = func(read []int64, outputs string) impl.Tree {
		from, now := modelAnswering(m, read, outputs)
		_, letter := modelDepth(m, slices.Clone(now), 8, known)
		t := node(letter, from, now)
		for output := int64(0); letter >= 0 && output < m.Outputs; output++ {
			t.Kids = append(t.Kids, grow(append(slices.Clone(read), letter), outputs+string("012"[output])))
		}
		return t
	}
	t := grow(nil, "")
	if modelNodes(t) > 600 {
		return impl.Tree{}, impl.ErrLimit
	}
	return t, impl.OK
}

func modelCheckTree(m impl.Machine, t impl.Tree, tells bool) (bool, int64) {
	if !modelValidMachine(m) {
		return false, impl.ErrInvalid
	}
	return modelNodes(t) <= 600 && modelIsTree(m, t, tells, nil, ""), impl.OK
}

// modelIsTree asks of each node what the letters that have been read, and their outputs, tell.
func modelIsTree(m impl.Machine, t impl.Tree, tells bool, read []int64, outputs string) bool {
	from, now := modelAnswering(m, read, outputs)
	if fmt.Sprint(t.From, t.Now) != fmt.Sprint(from, now) {
		return false
	}
	if t.Letter == -1 {
		last := now
		if tells {
			last = from
		}
		return len(t.Kids) == 0 && len(modelDifferent(last)) <= 1
	}
	if t.Letter < 0 || t.Letter >= int64(len(m.Next)) || int64(len(t.Kids)) != m.Outputs {
		return false
	}
	for output, kid := range t.Kids {
		if !modelIsTree(m, kid, tells, append(slices.Clone(read), t.Letter), outputs+string("012"[output])) {
			return false
		}
	}
	return true
}

func modelFollowTree(m impl.Machine, t impl.Tree, s int64) ([]int64, int64, int64) {
	if yes, _ := modelCheckTree(m, t, false); !yes {
		return nil, 0, impl.ErrInvalid
	}
	if !modelIsMachineState(m, s) {
		return nil, 0, impl.ErrRange
	}
	var read []int64
	for len(t.Kids) > 0 {
		before := modelEnd(m, s, read)
		read = append(read, t.Letter)
		t = t.Kids[m.Out[t.Letter][before]]
	}
	return read, modelEnd(m, s, read), impl.OK
}
