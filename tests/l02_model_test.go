package tests

import (
	"fmt"
	"slices"
	"sort"

	"loop.example/g01102/impl"
)

// The functions of this file tell what those of chapter 2 should return, as directly as the document does. They go through words in the order of their texts, which are sorted by themselves.

// modelImage returns the states to which a word leads from those of a list.
func modelImage(a impl.Automaton, set, w []int64) []int64 {
	return modelSetOf(a, func(t int64) bool {
		return slices.ContainsFunc(set, func(s int64) bool { return modelLead(a, s, w) == t })
	})
}

// modelFirst returns the first word whose image of a set is good.
func modelFirst(a impl.Automaton, set []int64, good func(image []int64) bool) ([]int64, int64) {
	return modelFirstOf(len(a.Next), func(w []int64) ([]int64, bool) { return modelImage(a, set, w), true }, good)
}

// modelFirstOf returns the first word whose image is good. A word is not gone on with if it cannot be read, or if another one before it has the same image.
func modelFirstOf(letters int, read func(w []int64) ([]int64, bool), good func(image []int64) bool) ([]int64, int64) {
	seen := map[string]bool{}
	level := []string{""}
	for len(level) > 0 {
		var longer []string
		for _, text := range level {
			w, _ := modelReadWord(text)
			image, ok := read(w)
			if !ok || seen[fmt.Sprint(image)] {
				continue
			}
			if good(image) {
				return w, impl.OK
			}
			seen[fmt.Sprint(image)] = true
			for letter := range letters {
				longer = append(longer, text+string("abc"[letter]))
			}
		}
		sort.Strings(longer)
		level = longer
	}
	return nil, impl.ErrNotFound
}

// modelMerging returns the first word that leads from all states of a set to one.
func modelMerging(a impl.Automaton, set []int64) ([]int64, int64) {
	return modelFirst(a, set, func(image []int64) bool { return len(image) <= 1 })
}

func modelIsReset(a impl.Automaton, w []int64) (bool, int64) {
	if !modelValid(a) {
		return false, impl.ErrInvalid
	}
	if !modelValidWord(a, w) {
		return false, impl.ErrRange
	}
	action := modelAction(a, w)
	return slices.Max(action) == slices.Min(action), impl.OK
}

func modelCanReset(a impl.Automaton) (bool, int64) {
	if !modelValid(a) {
		return false, impl.ErrInvalid
	}
	_, code := modelMerging(a, upTo(a.States))
	return code == impl.OK, impl.OK
}

func modelShortestReset(a impl.Automaton) ([]int64, int64) {
	if !modelValid(a) {
		return nil, impl.ErrInvalid
	}
	return modelMerging(a, upTo(a.States))
}

func modelShortestTo(a impl.Automaton, s int64) ([]int64, int64) {
	if !modelValid(a) {
		return nil, impl.ErrInvalid
	}
	if !modelIsState(a, s) {
		return nil, impl.ErrRange
	}
	return modelFirst(a, upTo(a.States), func(image []int64) bool { return slices.Equal(image, list(s)) })
}

func modelShortestFor(a impl.Automaton, set []int64) ([]int64, int64) {
	if !modelValid(a) {
		return nil, impl.ErrInvalid
	}
	if !modelIsSet(a, set) {
		return nil, impl.ErrRange
	}
	return modelMerging(a, set)
}

func modelTargetsOf(a impl.Automaton) ([]int64, int64) {
	if !modelValid(a) {
		return nil, impl.ErrInvalid
	}
	targets := modelSetOf(a, func(s int64) bool {
		_, code := modelShortestTo(a, s)
		return code == impl.OK
	})
	if len(targets) == 0 {
		return nil, impl.ErrNotFound
	}
	return targets, impl.OK
}

func modelMergingWord(a impl.Automaton, s, t int64) ([]int64, int64) {
	if !modelValid(a) {
		return nil, impl.ErrInvalid
	}
	if !modelIsState(a, s) || !modelIsState(a, t) {
		return nil, impl.ErrRange
	}
	return modelMerging(a, list(s, t))
}

func modelPairTable(a impl.Automaton) ([][]int64, int64) {
	if !modelValid(a) {
		return nil, impl.ErrInvalid
	}
	var table [][]int64
	for s := range a.States {
		var row []int64
		for t := range a.States {
			if w, code := modelMerging(a, list(s, t)); code == impl.OK {
				row = append(row, int64(len(w)))
			} else {
				row = append(row, -1)
			}
		}
		table = append(table, row)
	}
	return table, impl.OK
}

// modelPairs returns the pairs of the states of a set, in order.
func modelPairs(set []int64) [][]int64 {
	var pairs [][]int64
	for _, s := range set {
		for _, t := range set {
			if s < t {
				pairs = append(pairs, list(s, t))
			}
		}
	}
	return pairs
}

func modelGreedyReset(a impl.Automaton) ([]int64, int64) {
	if yes, code := modelCanReset(a); code != impl.OK {
		return nil, code
	} else if !yes {
		return nil, impl.ErrNotFound
	}
	table, _ := modelPairTable(a)
	set := upTo(a.States)
	var word []int64
	for len(set) > 1 {
		pairs := modelPairs(set)
		nearest := pairs[0]
		for _, pair := range pairs {
			if table[pair[0]][pair[1]] < table[nearest[0]][nearest[1]] {
				nearest = pair
			}
		}
		more, _ := modelMerging(a, nearest)
		word = append(word, more...)
		set = modelImage(a, set, more)
	}
	return word, impl.OK
}

func modelCountResets(a impl.Automaton, length int64) (int64, int64) {
	if !modelValid(a) {
		return 0, impl.ErrInvalid
	}
	if length < 0 || length > 20 {
		return 0, impl.ErrRange
	}
	known := map[string]int64{}
	var count func(set []int64, length int64) int64
	count = func(set []int64, length int64) int64 {
		if length == 0 {
			if len(set) == 1 {
				return 1
			}
			return 0
		}
		key := fmt.Sprint(set, length)
		if _, ok := known[key]; !ok {
			sum := int64(0)
			for letter := range a.Next {
				sum += count(modelImage(a, set, list(int64(letter))), length-1)
			}
			known[key] = sum
		}
		return known[key]
	}
	return count(upTo(a.States), length), impl.OK
}

func modelStablePairs(a impl.Automaton) ([][]int64, int64) {
	table, code := modelPairTable(a)
	if code != impl.OK {
		return nil, code
	}
	var stable [][]int64
	for _, pair := range modelPairs(upTo(a.States)) {
		_, code := modelFirst(a, pair, func(image []int64) bool {
			return len(image) == 2 && table[image[0]][image[1]] < 0
		})
		if code == impl.ErrNotFound {
			stable = append(stable, pair)
		}
	}
	return stable, impl.OK
}

// modelStableDivision puts each state into the class of one before it with which it is a stable pair, or else into a new class.
func modelStableDivision(a impl.Automaton) ([]int64, int64) {
	stable, code := modelStablePairs(a)
	if code != impl.OK {
		return nil, code
	}
	together := map[string]bool{}
	for _, pair := range stable {
		together[fmt.Sprint(pair)] = true
	}
	class := make([]int64, a.States)
	classes := int64(0)
	for s := range class {
		class[s] = -1
		for t := range s {
			if together[fmt.Sprint(list(int64(t), int64(s)))] {
				class[s] = class[t]
			}
		}
		if class[s] < 0 {
			class[s] = classes
			classes++
		}
	}
	return class, impl.OK
}

func modelFindCertificate(a impl.Automaton) (impl.Certificate, int64) {
	if !modelValid(a) {
		return impl.Certificate{}, impl.ErrInvalid
	}
	var apart, words [][]int64
	for _, pair := range modelPairs(upTo(a.States)) {
		if w, code := modelMerging(a, pair); code == impl.OK {
			words = append(words, w)
		} else {
			apart = append(apart, pair)
		}
	}
	if len(apart) > 0 {
		return impl.Certificate{Kind: impl.CtApart, Pairs: apart}, impl.OK
	}
	return impl.Certificate{Kind: impl.CtMerges, Words: words}, impl.OK
}

// modelMerges reports whether what the table of certificates tells of CtMerges is true.
func modelMerges(a impl.Automaton, c impl.Certificate) bool {
	pairs := modelPairs(upTo(a.States))
	if c.Kind != 1 || len(c.Pairs) != 0 || len(c.Words) != len(pairs) {
		return false
	}
	for i, pair := range pairs {
		if w := c.Words[i]; !modelValidWord(a, w) || modelLead(a, pair[0], w) != modelLead(a, pair[1], w) {
			return false
		}
	}
	return true
}

// modelApart reports whether what the table of certificates tells of CtApart is true.
func modelApart(a impl.Automaton, c impl.Certificate) bool {
	if c.Kind != 2 || len(c.Words) != 0 || len(c.Pairs) == 0 {
		return false
	}
	listed := map[string]bool{}
	for i, pair := range c.Pairs {
		if len(pair) != 2 || !modelIsSet(a, pair) || i > 0 && slices.Compare(pair, c.Pairs[i-1]) <= 0 {
			return false
		}
		listed[fmt.Sprint(pair)] = true
	}
	for _, pair := range c.Pairs {
		for _, next := range a.Next {
			s, t := next[pair[0]], next[pair[1]]
			if !listed[fmt.Sprint(list(min(s, t), max(s, t)))] {
				return false
			}
		}
	}
	return true
}

func modelCheckCertificate(a impl.Automaton, c impl.Certificate) (bool, int64) {
	if !modelValid(a) {
		return false, impl.ErrInvalid
	}
	return modelMerges(a, c) || modelApart(a, c), impl.OK
}

func modelWordOfCertificate(a impl.Automaton, c impl.Certificate) ([]int64, int64) {
	if yes, code := modelCheckCertificate(a, c); code != impl.OK {
		return nil, code
	} else if !yes {
		return nil, impl.ErrProof
	}
	if c.Kind == impl.CtApart {
		return nil, impl.ErrState
	}
	var word []int64
	for set := upTo(a.States); len(set) > 1; {
		for i, pair := range modelPairs(upTo(a.States)) {
			if slices.Equal(pair, set[:2]) {
				word = append(word, c.Words[i]...)
				set = modelImage(a, set, c.Words[i])
				break
			}
		}
	}
	if len(word) > 400 {
		return nil, impl.ErrLimit
	}
	return word, impl.OK
}

func modelSlowAutomaton(n int64) (impl.Automaton, int64) {
	if n < 2 || n > 10 {
		return impl.Automaton{}, impl.ErrRange
	}
	around, stay := upTo(n), upTo(n)
	for s := range n - 1 {
		around[s] = s + 1
	}
	around[n-1], stay[n-1] = 0, 0
	return auto(n, around, stay), impl.OK
}

func modelResetBound(n int64) (int64, int64) {
	if n < 1 || n > 10 {
		return 0, impl.ErrRange
	}
	return list(0, 1, 6, 18, 40, 75, 126, 196, 288, 405)[n-1], impl.OK
}
