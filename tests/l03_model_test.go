package tests

import (
	"fmt"
	"math/big"
	"slices"
	"strings"

	"loop.example/g01102/impl"
)

// The functions of this file tell what those of chapter 3 should return, as directly as the document does. Like those of chapter 2, they go through words by their texts.

// modelImages returns all sets to which words lead from those of a set.
func modelImages(a impl.Automaton, set []int64) [][]int64 {
	var images [][]int64
	modelFirst(a, set, func(image []int64) bool {
		images = append(images, image)
		return false
	})
	return images
}

// modelLeast returns the least number of states to which a word leads from those of a set.
func modelLeast(a impl.Automaton, set []int64) int64 {
	least := len(set)
	for _, image := range modelImages(a, set) {
		least = min(least, len(image))
	}
	return int64(least)
}

func modelRankOfWord(a impl.Automaton, w []int64) (int64, int64) {
	if !modelValid(a) {
		return 0, impl.ErrInvalid
	}
	if !modelValidWord(a, w) {
		return 0, impl.ErrRange
	}
	return int64(len(modelImage(a, upTo(a.States), w))), impl.OK
}

func modelRankOf(a impl.Automaton) (int64, int64) {
	if !modelValid(a) {
		return 0, impl.ErrInvalid
	}
	return modelLeast(a, upTo(a.States)), impl.OK
}

func modelRankOfSet(a impl.Automaton, set []int64) (int64, int64) {
	if !modelValid(a) {
		return 0, impl.ErrInvalid
	}
	if !modelIsSet(a, set) {
		return 0, impl.ErrRange
	}
	return modelLeast(a, set), impl.OK
}

func modelRankWord(a impl.Automaton) ([]int64, int64) {
	rank, code := modelRankOf(a)
	if code != impl.OK {
		return nil, code
	}
	return modelFirst(a, upTo(a.States), func(image []int64) bool { return int64(len(image)) == rank })
}

func modelLeastImages(a impl.Automaton) ([][]int64, int64) {
	rank, code := modelRankOf(a)
	if code != impl.OK {
		return nil, code
	}
	images := modelImages(a, upTo(a.States))
	images = slices.DeleteFunc(images, func(image []int64) bool { return int64(len(image)) != rank })
	slices.SortFunc(images, slices.Compare)
	return images, impl.OK
}

// modelKernel returns the division in which those states are together from which a word leads to the same state.
func modelKernel(a impl.Automaton, w []int64) []int64 {
	number := map[int64]int64{}
	var class []int64
	for _, t := range modelAction(a, w) {
		if _, known := number[t]; !known {
			number[t] = int64(len(number))
		}
		class = append(class, number[t])
	}
	return class
}

func modelKernelOf(a impl.Automaton, w []int64) ([]int64, int64) {
	if !modelValid(a) {
		return nil, impl.ErrInvalid
	}
	if !modelValidWord(a, w) {
		return nil, impl.ErrRange
	}
	return modelKernel(a, w), impl.OK
}

// modelLeastKernels puts letters in front of one word with the least rank, as long as there is a new kernel. There are no others: a word with this rank has the same kernel if this word is put behind it.
func modelLeastKernels(a impl.Automaton) ([][]int64, int64) {
	w, code := modelRankWord(a)
	if code != impl.OK {
		return nil, code
	}
	var kernels [][]int64
	known := map[string]bool{}
	for todo := lists(w); len(todo) > 0; todo = todo[1:] {
		kernel := modelKernel(a, todo[0])
		if known[fmt.Sprint(kernel)] {
			continue
		}
		known[fmt.Sprint(kernel)] = true
		kernels = append(kernels, kernel)
		for letter := range a.Next {
			todo = append(todo, append(list(int64(letter)), todo[0]...))
		}
	}
	slices.SortFunc(kernels, slices.Compare)
	return kernels, impl.OK
}

// modelCountByRank asks after each letter how many words go on from there to each rank.
func modelCountByRank(a impl.Automaton, length int64) ([]int64, int64) {
	if !modelValid(a) {
		return nil, impl.ErrInvalid
	}
	if length < 0 || length > 20 {
		return nil, impl.ErrRange
	}
	known := map[string][]int64{}
	var count func(set []int64, length int64) []int64
	count = func(set []int64, length int64) []int64 {
		key := fmt.Sprint(set, length)
		if known[key] != nil {
			return known[key]
		}
		sum := make([]int64, a.States+1)
		if length == 0 {
			sum[len(set)] = 1
		} else {
			for letter := range a.Next {
				for rank, words := range count(modelImage(a, set, list(int64(letter))), length-1) {
					sum[rank] += words
				}
			}
		}
		known[key] = sum
		return sum
	}
	return slices.Clone(count(upTo(a.States), length)), impl.OK
}

// modelWeights takes an automaton as a walk that reads each letter as often as the others: how often a state is passed is its weight. States are left out one by one, where the ways through them become ways between the others, and are then put back. No number is taken from another one here.
func modelWeights(a impl.Automaton) []int64 {
	ways := make([][]*big.Rat, a.States)
	for t := range ways {
		for s := range a.States {
			steps := int64(0)
			for _, next := range a.Next {
				if next[t] == s {
					steps++
				}
			}
			ways[t] = append(ways[t], big.NewRat(steps, int64(len(a.Next))))
		}
	}
	for out := len(ways) - 1; out > 0; out-- {
		leaves := new(big.Rat)
		for _, way := range ways[out][:out] {
			leaves.Add(leaves, way)
		}
		for t := range ways[:out] {
			ways[t][out].Quo(ways[t][out], leaves)
			for s := range ways[:out] {
				ways[t][s].Add(ways[t][s], new(big.Rat).Mul(ways[t][out], ways[out][s]))
			}
		}
	}
	passed := []*big.Rat{big.NewRat(1, 1)}
	for s := 1; s < len(ways); s++ {
		sum := new(big.Rat)
		for t := range s {
			sum.Add(sum, new(big.Rat).Mul(passed[t], ways[t][s]))
		}
		passed = append(passed, sum)
	}
	return wholeNumbers(passed)
}

// wholeNumbers returns integers without a common divisor whose ratios are those of positive numbers.
func wholeNumbers(numbers []*big.Rat) []int64 {
	multiple := big.NewInt(1)
	for _, number := range numbers {
		multiple.Mul(multiple, number.Denom())
	}
	divisor := new(big.Int)
	var whole []*big.Int
	for _, number := range numbers {
		product := new(big.Int).Mul(multiple, number.Num())
		whole = append(whole, product.Quo(product, number.Denom()))
		divisor.GCD(nil, nil, divisor, whole[len(whole)-1])
	}
	var out []int64
	for _, number := range whole {
		out = append(out, new(big.Int).Quo(number, divisor).Int64())
	}
	return out
}

// modelWeighed returns the first error of a function that weighs a set, and the weights of the states if there is none.
func modelWeighed(a impl.Automaton, set []int64) ([]int64, int64) {
	connected, code := modelIsConnected(a)
	if code != impl.OK {
		return nil, code
	}
	if !modelIsSet(a, set) {
		return nil, impl.ErrRange
	}
	if !connected {
		return nil, impl.ErrState
	}
	return modelWeights(a), impl.OK
}

func modelSum(weights, set []int64) int64 {
	sum := int64(0)
	for _, s := range set {
		sum += weights[s]
	}
	return sum
}

func modelWeightsOf(a impl.Automaton) ([]int64, int64) {
	return modelWeighed(a, nil)
}

func modelWeightOfSet(a impl.Automaton, set []int64) (int64, int64) {
	weights, code := modelWeighed(a, set)
	if code != impl.OK {
		return 0, code
	}
	return modelSum(weights, set), impl.OK
}

// origin is a set of states from which a word leads to another set, with the least text of such a word.
type origin struct {
	set  []int64
	text string
}

// modelExtendWord looks at all origins of words with one length after another, each with the least of their texts, until there are only origins that shorter words have had.
func modelExtendWord(a impl.Automaton, set []int64) ([]int64, int64) {
	weights, code := modelWeighed(a, set)
	if code != impl.OK {
		return nil, code
	}
	seen := map[string]bool{}
	level := map[string]origin{"": {set, ""}}
	for isNew := true; isNew; {
		isNew = false
		longer := map[string]origin{}
		var good []string
		for _, o := range level {
			if modelSum(weights, o.set) > modelSum(weights, set) {
				good = append(good, o.text)
			}
			isNew = isNew || !seen[fmt.Sprint(o.set)]
			seen[fmt.Sprint(o.set)] = true
			for letter := range a.Next {
				before, _ := modelPreimageOf(a, o.set, list(int64(letter)))
				text := string("abc"[letter]) + o.text
				if old, known := longer[fmt.Sprint(before)]; !known || text < old.text {
					longer[fmt.Sprint(before)] = origin{before, text}
				}
			}
		}
		if len(good) > 0 {
			return modelReadWord(slices.Min(good))
		}
		level = longer
	}
	return nil, impl.ErrNotFound
}

// modelReachedSets sorts the reached sets by texts that begin with the number of states that are missing.
func modelReachedSets(a impl.Automaton) ([][]int64, int64) {
	if !modelValid(a) {
		return nil, impl.ErrInvalid
	}
	reached := map[string][]int64{}
	for _, image := range modelImages(a, upTo(a.States)) {
		reached[fmt.Sprint(10-len(image), image)] = image
	}
	var keys []string
	for key := range reached {
		keys = append(keys, key)
	}
	slices.SortFunc(keys, strings.Compare)
	var out [][]int64
	for _, key := range keys {
		out = append(out, reached[key])
	}
	return out, impl.OK
}

func modelSetWord(a impl.Automaton, set []int64) ([]int64, int64) {
	if !modelValid(a) {
		return nil, impl.ErrInvalid
	}
	if !modelIsSet(a, set) {
		return nil, impl.ErrRange
	}
	return modelFirst(a, upTo(a.States), func(image []int64) bool { return slices.Equal(image, set) })
}

func modelIsFullyReached(a impl.Automaton) (bool, int64) {
	if !modelValid(a) {
		return false, impl.ErrInvalid
	}
	reached := map[string]bool{fmt.Sprint(list()): true}
	for _, image := range modelImages(a, upTo(a.States)) {
		reached[fmt.Sprint(image)] = true
	}
	for _, set := range subsets(a.States) {
		if !reached[fmt.Sprint(set)] {
			return false, impl.OK
		}
	}
	return true, impl.OK
}
