package tests

import (
	"fmt"
	"slices"
	"strings"
	"sync"

	"loop.example/g01102/impl"
)

// The functions of this file tell what those of chapter 7 should return, as directly as the document does. They compare outputs as texts, sort words by their texts, and ask each mutant and each machine by itself.

func modelValidSuite(m impl.Machine, suite [][]int64) bool {
	valid := modelValidMachine(m) && len(suite) <= 400
	for i := 0; valid && i < len(suite); i++ {
		valid = modelIsMachineWord(m, suite[i])
	}
	return valid
}

func modelSuiteText(suite [][]int64) string {
	text := ""
	for _, w := range suite {
		if modelWordText(w) == "" || len(suite) > 400 {
			return ""
		}
		text += modelWordText(w) + "\n"
	}
	return text
}

// modelReadSuite guesses the suite of a text, and looks whether it has this text.
func modelReadSuite(text string) ([][]int64, int64) {
	if len(text) > 20000 {
		return nil, impl.ErrRange
	}
	var suite [][]int64
	for range strings.Count(text, "\n") {
		line, _, _ := strings.Cut(text[len(modelSuiteText(suite)):], "\n")
		w, code := modelReadWord(line)
		if code != impl.OK {
			return nil, impl.ErrSyntax
		}
		suite = append(suite, w)
		if len(suite) > 400 {
			return nil, impl.ErrSyntax
		}
	}
	if modelSuiteText(suite) != text {
		return nil, impl.ErrSyntax
	}
	return suite, impl.OK
}

func modelSuiteCost(suite [][]int64) (int64, int64) {
	if len(suite) > 0 && modelSuiteText(suite) == "" {
		return 0, impl.ErrRange
	}
	return int64(len(suite) + len(slices.Concat(suite...))), impl.OK
}

// modelCheckSuite returns the first error of a function of a machine and a suite.
func modelCheckSuite(m impl.Machine, suite [][]int64) int64 {
	if !modelValidMachine(m) {
		return impl.ErrInvalid
	}
	if !modelValidSuite(m, suite) {
		return impl.ErrRange
	}
	return impl.OK
}

// modelSeen returns the outputs for a word from the state 0.
func modelSeen(m impl.Machine, w []int64) string {
	text, _ := modelRun(m, 0, w)
	return text
}

func modelFirstFailing(m, n impl.Machine, suite [][]int64) (int64, int64, int64) {
	if !modelValidMachine(m) || !modelValidMachine(n) {
		return 0, 0, impl.ErrInvalid
	}
	if m.Outputs != n.Outputs || len(m.Next) != len(n.Next) || !modelValidSuite(m, suite) {
		return 0, 0, impl.ErrRange
	}
	for i, w := range suite {
		one, two := modelSeen(m, w), modelSeen(n, w)
		for k := range w {
			if one[:k+1] != two[:k+1] {
				return int64(i), int64(k), impl.OK
			}
		}
	}
	return 0, 0, impl.ErrNotFound
}

func modelPasses(m, n impl.Machine, suite [][]int64) (bool, int64) {
	if _, _, code := modelFirstFailing(m, n, suite); code == impl.ErrInvalid || code == impl.ErrRange {
		return false, code
	}
	return modelHasOutputs(m, n, suite), impl.OK
}

// modelHasOutputs reports whether the outputs of n for all words are those of m.
func modelHasOutputs(m, n impl.Machine, suite [][]int64) bool {
	return !slices.ContainsFunc(suite, func(w []int64) bool { return modelSeen(m, w) != modelSeen(n, w) })
}

func modelStateCover(m impl.Machine) ([][]int64, int64) {
	if !modelValidMachine(m) {
		return nil, impl.ErrInvalid
	}
	var cover [][]int64
	for s := range m.States {
		w, code := modelFirst(modelAuto(m), list(0), func(image []int64) bool { return image[0] == s })
		if code != impl.OK {
			return nil, impl.ErrState
		}
		cover = append(cover, w)
	}
	return cover, impl.OK
}

// modelInOrder returns words in their order, each once. Their texts are sorted, behind their lengths.
func modelInOrder(all [][]int64) [][]int64 {
	byText := map[string][]int64{}
	var texts []string
	for _, w := range all {
		text := fmt.Sprintf("%03d", len(w)) + modelWordText(w)
		byText[text] = w
		texts = append(texts, text)
	}
	slices.Sort(texts)
	var ordered [][]int64
	for _, text := range slices.Compact(texts) {
		ordered = append(ordered, byText[text])
	}
	return ordered
}

func modelTransitionCover(m impl.Machine) ([][]int64, int64) {
	cover, code := modelStateCover(m)
	if code != impl.OK {
		return nil, code
	}
	all := slices.Clone(cover)
	for _, w := range cover {
		for letter := range m.Next {
			all = append(all, slices.Concat(w, list(int64(letter))))
		}
	}
	return modelInOrder(all), impl.OK
}

// modelBegins reports whether the word w begins with v, and is longer.
func modelBegins(v, w []int64) bool {
	return len(v) < len(w) && slices.Equal(v, w[:len(v)])
}

func modelMaximal(suite [][]int64) [][]int64 {
	var maximal [][]int64
	for _, v := range modelInOrder(suite) {
		if !slices.ContainsFunc(suite, func(w []int64) bool { return modelBegins(v, w) }) {
			maximal = append(maximal, v)
		}
	}
	return maximal
}

func modelMaximalWords(m impl.Machine, suite [][]int64) ([][]int64, int64) {
	if code := modelCheckSuite(m, suite); code != impl.OK {
		return nil, code
	}
	return modelMaximal(suite), impl.OK
}

// modelCompleteWords returns the words of a complete suite before those that are not maximal are left out.
func modelCompleteWords(m impl.Machine, extra int64) ([][]int64, int64) {
	begins, code := modelTransitionCover(m)
	ends, other := modelTellingSet(m)
	if code != impl.OK || other != impl.OK {
		return nil, impl.ErrState
	}
	if len(ends) == 0 {
		ends = lists(nil)
	}
	var all [][]int64
	for _, begin := range begins {
		for _, middle := range machineWords(m, int(extra)) {
			for _, end := range ends {
				all = append(all, slices.Concat(begin, middle, end))
			}
		}
	}
	return modelInOrder(all), impl.OK
}

func modelCompleteSuite(m impl.Machine, extra int64) ([][]int64, int64) {
	if !modelValidMachine(m) {
		return nil, impl.ErrInvalid
	}
	if extra < 0 || extra > 2 {
		return nil, impl.ErrRange
	}
	all, code := modelCompleteWords(m, extra)
	if code != impl.OK {
		return nil, code
	}
	if len(all) > 400 || len(all[len(all)-1]) > 400 {
		return nil, impl.ErrLimit
	}
	return modelMaximal(all), impl.OK
}

// modelNumbers is the list by which machines with as many states are ordered.
func modelNumbers(m impl.Machine) []int64 {
	var numbers []int64
	for letter := range m.Next {
		for s := range m.States {
			numbers = append(numbers, m.Next[letter][s], m.Out[letter][s])
		}
	}
	return numbers
}

// modelMachines keeps what modelAllMachines has sorted, as it is asked for again and again.
var modelMachines = struct {
	sync.Mutex
	known map[[3]int64][]impl.Machine
}{known: map[[3]int64][]impl.Machine{}}

// modelAllMachines returns all machines with so many states, outputs and letters, in order.
func modelAllMachines(states, outputs int64, letters int) []impl.Machine {
	modelMachines.Lock()
	defer modelMachines.Unlock()
	key := [3]int64{states, outputs, int64(letters)}
	if modelMachines.known[key] == nil {
		all := allMachines(states, letters, outputs, 1)
		slices.SortFunc(all, func(m, n impl.Machine) int { return slices.Compare(modelNumbers(m), modelNumbers(n)) })
		modelMachines.known[key] = all
	}
	return modelMachines.known[key]
}

// modelCountMachines tells how many machines there are, or 50,001 if there are more.
func modelCountMachines(states, outputs int64, letters int) int64 {
	count := int64(1)
	for range states * int64(letters) {
		count = min(50001, count*states*outputs)
	}
	return count
}

func modelFirstSurvivor(m impl.Machine, suite [][]int64, states int64) (impl.Machine, int64) {
	if code := modelCheckSuite(m, suite); code != impl.OK {
		return impl.Machine{}, code
	}
	if states < 1 || states > 10 {
		return impl.Machine{}, impl.ErrRange
	}
	if modelCountMachines(states, m.Outputs, len(m.Next)) > 50000 {
		return impl.Machine{}, impl.ErrLimit
	}
	for fewer := int64(1); fewer <= states; fewer++ {
		for _, n := range modelAllMachines(fewer, m.Outputs, len(m.Next)) {
			if !modelHasOutputs(m, n, suite) {
				continue
			}
			if _, code := modelMachineDifference(m, n); code == impl.OK {
				return n, impl.OK
			}
		}
	}
	return impl.Machine{}, impl.ErrNotFound
}

// modelMutants returns all mutants, in order.
func modelMutants(m impl.Machine) []impl.Machine {
	var all []impl.Machine
	for letter := range m.Next {
		for s := range m.States {
			for output := range m.Outputs {
				if output != m.Out[letter][s] {
					mutant := copiedMachine(m)
					mutant.Out[letter][s] = output
					all = append(all, mutant)
				}
			}
			for next := range m.States {
				if next != m.Next[letter][s] {
					mutant := copiedMachine(m)
					mutant.Next[letter][s] = next
					all = append(all, mutant)
				}
			}
		}
	}
	return all
}

func modelMutantCount(m impl.Machine) (int64, int64) {
	if !modelValidMachine(m) {
		return 0, impl.ErrInvalid
	}
	return int64(len(modelMutants(m))), impl.OK
}

func modelMutantAt(m impl.Machine, k int64) (impl.Machine, int64) {
	if !modelValidMachine(m) {
		return impl.Machine{}, impl.ErrInvalid
	}
	for i, mutant := range modelMutants(m) {
		if int64(i) == k {
			return mutant, impl.OK
		}
	}
	return impl.Machine{}, impl.ErrRange
}

// modelKilled returns the numbers of the mutants that words kill.
func modelKilled(m impl.Machine, suite [][]int64) []int64 {
	var killed []int64
	for i, mutant := range modelMutants(m) {
		if !modelHasOutputs(m, mutant, suite) {
			killed = append(killed, int64(i))
		}
	}
	return killed
}

func modelKilledBy(m impl.Machine, suite [][]int64) ([]int64, int64) {
	if code := modelCheckSuite(m, suite); code != impl.OK {
		return nil, code
	}
	return modelKilled(m, suite), impl.OK
}

func modelCoverageOf(m impl.Machine, suite [][]int64) (int64, int64, int64, int64) {
	if code := modelCheckSuite(m, suite); code != impl.OK {
		return 0, 0, 0, code
	}
	var killed, equivalent, neither int64
	for _, mutant := range modelMutants(m) {
		_, code := modelMachineDifference(m, mutant)
		switch {
		case !modelHasOutputs(m, mutant, suite):
			killed++
		case code == impl.ErrNotFound:
			equivalent++
		default:
			neither++
		}
	}
	return killed, equivalent, neither, impl.OK
}

// modelShrinkSuite asks, for each word, for the mutants that are killed without it.
func modelShrinkSuite(m impl.Machine, suite [][]int64) ([][]int64, int64) {
	killed, code := modelKilledBy(m, suite)
	if code != impl.OK {
		return nil, code
	}
	left := slices.Clone(suite)
	for i := len(suite) - 1; i >= 0; i-- {
		without := slices.Concat(left[:i], left[i+1:])
		if slices.Equal(modelKilled(m, without), killed) {
			left = without
		}
	}
	return left, impl.OK
}

func modelCandidates(m impl.Machine, suite, outputs [][]int64) ([]int64, int64) {
	if code := modelCheckSuite(m, suite); code != impl.OK {
		return nil, code
	}
	if len(outputs) != len(suite) {
		return nil, impl.ErrRange
	}
	var numbers []int64
	for i, mutant := range append([]impl.Machine{m}, modelMutants(m)...) {
		seen := make([]string, len(suite))
		for k, w := range suite {
			seen[k] = fmt.Sprint(outputsByRead(mutant, w))
		}
		if slices.EqualFunc(seen, outputs, func(text string, given []int64) bool { return text == fmt.Sprint(given) }) {
			numbers = append(numbers, int64(i)-1)
		}
	}
	return numbers, impl.OK
}

// outputsByRead returns the outputs for a word from the state 0, as numbers.
func outputsByRead(m impl.Machine, w []int64) []int64 {
	var outputs []int64
	for _, b := range []byte(modelSeen(m, w)) {
		outputs = append(outputs, int64(b-'0'))
	}
	return outputs
}

func modelBestWord(m impl.Machine, length int64) ([]int64, int64) {
	if !modelValidMachine(m) {
		return nil, impl.ErrInvalid
	}
	if length < 0 || length > 6 {
		return nil, impl.ErrRange
	}
	var best []int64
	most := -1
	for _, w := range allLists(int(length), 0, int64(len(m.Next)-1)) {
		if killed := len(modelKilled(m, lists(w))); killed > most {
			best, most = w, killed
		}
	}
	return best, impl.OK
}
