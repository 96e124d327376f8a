package tests

import (
	"fmt"
	"math"
	"slices"
	"strconv"
	"strings"

	"loop.example/g01102/impl"
)

// The functions of this file tell what those of chapter 4 should return, as directly as the document does. Words are read from each state by itself, and fillings are looked at one by one.

func modelValidPartial(p impl.Partial) bool {
	valid := 1 <= p.States && p.States <= 10 && 1 <= len(p.Next) && len(p.Next) <= 3
	for _, next := range p.Next {
		valid = valid && int64(len(next)) == p.States
		for _, t := range next {
			valid = valid && -1 <= t && t <= p.States-1
		}
	}
	return valid
}

func modelSamePartial(p, q impl.Partial) bool { return fmt.Sprint(p) == fmt.Sprint(q) }

func modelPartialText(p impl.Partial) string {
	if !modelValidPartial(p) {
		return ""
	}
	text := fmt.Sprintf("partial %d %d\n", p.States, len(p.Next))
	for _, next := range p.Next {
		line := strings.Trim(fmt.Sprint(next), "[]")
		text += "letter " + strings.ReplaceAll(line, "-1", ".") + "\n"
	}
	return text
}

// modelLines returns the words of all lines but the first one that begin with "letter", without this word, and the first number of the first line.
func modelLines(text string) (int64, [][]string) {
	lines := strings.Split(text, "\n")
	var words [][]string
	for _, line := range lines[1:] {
		if rest, ok := strings.CutPrefix(line, "letter "); ok {
			words = append(words, strings.Split(rest, " "))
		}
	}
	states := int64(0)
	if first := strings.Split(lines[0], " "); len(first) > 1 {
		states, _ = strconv.ParseInt(first[1], 10, 64)
	}
	return states, words
}

// modelReadPartial guesses the partial automaton of a text, and looks whether it has this text.
func modelReadPartial(text string) (impl.Partial, int64) {
	if len(text) > 2000 {
		return impl.Partial{}, impl.ErrRange
	}
	states, lines := modelLines(text)
	p := impl.Partial{States: states}
	for _, line := range lines {
		var next []int64
		for _, word := range line {
			t, err := strconv.ParseInt(word, 10, 64)
			if err != nil {
				t = -1
			}
			next = append(next, t)
		}
		p.Next = append(p.Next, next)
	}
	if !modelValidPartial(p) || modelPartialText(p) != text {
		return impl.Partial{}, impl.ErrSyntax
	}
	return p, impl.OK
}

func modelGaps(p impl.Partial) []impl.Gap {
	var gaps []impl.Gap
	for letter := range p.Next {
		for s := range p.States {
			if p.Next[letter][s] == -1 {
				gaps = append(gaps, impl.Gap{Letter: int64(letter), State: s})
			}
		}
	}
	return gaps
}

func modelGapsOf(p impl.Partial) ([]impl.Gap, int64) {
	if !modelValidPartial(p) {
		return nil, impl.ErrInvalid
	}
	return modelGaps(p), impl.OK
}

// modelFill puts the states of a list into the gaps, one after the other.
func modelFill(p impl.Partial, states []int64) impl.Automaton {
	a := impl.Automaton{States: p.States}
	taken := 0
	for _, next := range p.Next {
		var filled []int64
		for _, t := range next {
			if t == -1 {
				t = states[taken]
				taken++
			}
			filled = append(filled, t)
		}
		a.Next = append(a.Next, filled)
	}
	return a
}

func modelFillGaps(p impl.Partial, states []int64) (impl.Automaton, int64) {
	if !modelValidPartial(p) {
		return impl.Automaton{}, impl.ErrInvalid
	}
	if len(states) != len(modelGaps(p)) || !modelAllBelow(states, p.States) {
		return impl.Automaton{}, impl.ErrRange
	}
	return modelFill(p, states), impl.OK
}

// modelIsPartialWord reports whether a list is a word of an automaton with as many letters.
func modelIsPartialWord(p impl.Partial, w []int64) bool {
	return len(w) <= 400 && modelAllBelow(w, int64(len(p.Next)))
}

// modelCarefulLead tells to which state a word leads from s, and whether it can be read.
func modelCarefulLead(p impl.Partial, s int64, w []int64) (int64, bool) {
	for _, letter := range w {
		if s = p.Next[letter][s]; s == -1 {
			return 0, false
		}
	}
	return s, true
}

// modelCareful tells to which states a word leads from those of a list, and whether it can be read from all of them.
func modelCareful(p impl.Partial, set, w []int64) ([]int64, bool) {
	reached := map[int64]bool{}
	for _, s := range set {
		t, ok := modelCarefulLead(p, s, w)
		if !ok {
			return nil, false
		}
		reached[t] = true
	}
	return modelSetOf(auto(p.States), func(t int64) bool { return reached[t] }), true
}

func modelCarefulImage(p impl.Partial, set, w []int64) ([]int64, int64) {
	if !modelValidPartial(p) {
		return nil, impl.ErrInvalid
	}
	if !modelIsSet(auto(p.States), set) || !modelIsPartialWord(p, w) {
		return nil, impl.ErrRange
	}
	image, ok := modelCareful(p, set, w)
	if !ok {
		return nil, impl.ErrState
	}
	return image, impl.OK
}

func modelIsCareful(p impl.Partial, w []int64) (bool, int64) {
	if !modelValidPartial(p) {
		return false, impl.ErrInvalid
	}
	if !modelIsPartialWord(p, w) {
		return false, impl.ErrRange
	}
	image, ok := modelCareful(p, upTo(p.States), w)
	return ok && len(image) == 1, impl.OK
}

func modelCarefulWord(p impl.Partial) ([]int64, int64) {
	if !modelValidPartial(p) {
		return nil, impl.ErrInvalid
	}
	read := func(w []int64) ([]int64, bool) { return modelCareful(p, upTo(p.States), w) }
	return modelFirstOf(len(p.Next), read, func(image []int64) bool { return len(image) == 1 })
}

func modelTrapCompletion(p impl.Partial) (impl.Automaton, int64) {
	if !modelValidPartial(p) {
		return impl.Automaton{}, impl.ErrInvalid
	}
	if p.States == 10 {
		return impl.Automaton{}, impl.ErrLimit
	}
	trap := p.States
	a := impl.Automaton{States: trap + 1}
	for _, next := range p.Next {
		var line []int64
		for _, t := range append(slices.Clone(next), trap) {
			if t == -1 {
				t = trap
			}
			line = append(line, t)
		}
		a.Next = append(a.Next, line)
	}
	return a, impl.OK
}

// modelFillings returns all fillings in their order.
func modelFillings(p impl.Partial) ([]impl.Automaton, int64) {
	if !modelValidPartial(p) {
		return nil, impl.ErrInvalid
	}
	gaps := len(modelGaps(p))
	if math.Pow(float64(p.States), float64(gaps)) > 5000 {
		return nil, impl.ErrLimit
	}
	var out []impl.Automaton
	for _, states := range allLists(gaps, 0, p.States-1) {
		out = append(out, modelFill(p, states))
	}
	return out, impl.OK
}

func modelFirstFilling(p impl.Partial) (impl.Automaton, int64) {
	all, code := modelFillings(p)
	if code != impl.OK {
		return impl.Automaton{}, code
	}
	for _, a := range all {
		if _, code := modelShortestReset(a); code == impl.OK {
			return a, impl.OK
		}
	}
	return impl.Automaton{}, impl.ErrNotFound
}

// modelSurestWord keeps the first reset words of all fillings by their texts, and asks each filling about each of them.
func modelSurestWord(p impl.Partial) ([]int64, int64) {
	all, code := modelFillings(p)
	if code != impl.OK {
		return nil, code
	}
	known := map[string]bool{}
	for _, a := range all {
		if w, code := modelShortestReset(a); code == impl.OK {
			known[modelWordText(w)] = true
		}
	}
	surest, most := "", -1
	for text := range known {
		w, _ := modelReadWord(text)
		count := 0
		for _, a := range all {
			if yes, _ := modelIsReset(a, w); yes {
				count++
			}
		}
		if count > most || count == most && modelIsBefore(text, surest) {
			surest, most = text, count
		}
	}
	if most < 0 {
		return nil, impl.ErrNotFound
	}
	return modelReadWord(surest)
}

// modelIsBefore reports whether the word with one text comes before that with another text. The empty word has no letters, but a text of one byte.
func modelIsBefore(text, other string) bool {
	if text == "-" || other == "-" {
		return other != "-"
	}
	if len(text) != len(other) {
		return len(text) < len(other)
	}
	return text < other
}

func modelValidChoice(c impl.Choice) bool {
	valid := 1 <= c.States && c.States <= 10 && 1 <= len(c.Next) && len(c.Next) <= 3
	for _, next := range c.Next {
		valid = valid && int64(len(next)) == c.States
		for _, set := range next {
			valid = valid && modelIsSet(auto(c.States), set)
		}
	}
	return valid
}

func modelSameChoice(c, d impl.Choice) bool { return fmt.Sprint(c) == fmt.Sprint(d) }

func modelChoiceText(c impl.Choice) string {
	if !modelValidChoice(c) {
		return ""
	}
	text := fmt.Sprintf("choice %d %d\n", c.States, len(c.Next))
	for _, next := range c.Next {
		text += "letter"
		for _, set := range next {
			word := strings.Join(strings.Fields(strings.Trim(fmt.Sprint(set), "[]")), ",")
			if word == "" {
				word = "."
			}
			text += " " + word
		}
		text += "\n"
	}
	return text
}

// modelReadChoice guesses the automaton of a text, and looks whether it has this text.
func modelReadChoice(text string) (impl.Choice, int64) {
	if len(text) > 2000 {
		return impl.Choice{}, impl.ErrRange
	}
	states, lines := modelLines(text)
	c := impl.Choice{States: states}
	for _, line := range lines {
		var next [][]int64
		for _, word := range line {
			var set []int64
			for _, number := range strings.Split(word, ",") {
				if t, err := strconv.ParseInt(number, 10, 64); err == nil {
					set = append(set, t)
				}
			}
			next = append(next, set)
		}
		c.Next = append(c.Next, next)
	}
	if !modelValidChoice(c) || modelChoiceText(c) != text {
		return impl.Choice{}, impl.ErrSyntax
	}
	return c, impl.OK
}

func modelChoiceOf(p impl.Partial) (impl.Choice, int64) {
	if !modelValidPartial(p) {
		return impl.Choice{}, impl.ErrInvalid
	}
	c := impl.Choice{States: p.States}
	for _, next := range p.Next {
		c.Next = append(c.Next, only(next...))
	}
	return c, impl.OK
}

func modelIsTotal(c impl.Choice) (bool, int64) {
	if !modelValidChoice(c) {
		return false, impl.ErrInvalid
	}
	return !strings.Contains(modelChoiceText(c), "."), impl.OK
}

func modelIsChoiceWord(c impl.Choice, w []int64) bool {
	return len(w) <= 400 && modelAllBelow(w, int64(len(c.Next)))
}

// modelReach returns the states that can be reached by a word from those of a list, by asking for each state whether there is one before it.
func modelReach(c impl.Choice, set, w []int64) []int64 {
	for _, letter := range w {
		var reached []int64
		for t := range c.States {
			leads := func(s int64) bool { return slices.Contains(c.Next[letter][s], t) }
			if slices.ContainsFunc(set, leads) {
				reached = append(reached, t)
			}
		}
		set = reached
	}
	return set
}

func modelReachBy(c impl.Choice, set, w []int64) ([]int64, int64) {
	if !modelValidChoice(c) {
		return nil, impl.ErrInvalid
	}
	if !modelIsSet(auto(c.States), set) || !modelIsChoiceWord(c, w) {
		return nil, impl.ErrRange
	}
	return slices.Clone(modelReach(c, set, w)), impl.OK
}

// modelReaches returns R(s) for all states s.
func modelReaches(c impl.Choice, w []int64) [][]int64 {
	var out [][]int64
	for s := range c.States {
		out = append(out, modelReach(c, list(s), w))
	}
	return out
}

// modelDirectsBy reports whether what the table of kinds tells of a kind is true.
func modelDirectsBy(reaches [][]int64, kind int64) bool {
	all := func(isRight func(set []int64) bool) bool {
		return !slices.ContainsFunc(reaches, func(set []int64) bool { return !isRight(set) })
	}
	if kind == 2 {
		return all(func(set []int64) bool { return slices.Equal(set, reaches[0]) })
	}
	for r := range int64(10) {
		if kind == 1 && all(func(set []int64) bool { return slices.Equal(set, list(r)) }) {
			return true
		}
		if kind == 3 && all(func(set []int64) bool { return slices.Contains(set, r) }) {
			return true
		}
	}
	return false
}

func modelDirects(c impl.Choice, w []int64, kind int64) (bool, int64) {
	if !modelValidChoice(c) {
		return false, impl.ErrInvalid
	}
	if !modelIsChoiceWord(c, w) || kind < 1 || kind > 3 {
		return false, impl.ErrRange
	}
	return modelDirectsBy(modelReaches(c, w), kind), impl.OK
}

// modelDirectingWord counts the lists that are found before one whose word directs.
func modelDirectingWord(c impl.Choice, kind int64) ([]int64, int64) {
	if !modelValidChoice(c) {
		return nil, impl.ErrInvalid
	}
	if kind < 1 || kind > 3 {
		return nil, impl.ErrRange
	}
	found := map[string]bool{}
	for words := lists(nil); len(words) > 0; {
		var longer [][]int64
		for _, w := range words {
			reaches := modelReaches(c, w)
			if found[fmt.Sprint(reaches)] {
				continue
			}
			if modelDirectsBy(reaches, kind) {
				return w, impl.OK
			}
			found[fmt.Sprint(reaches)] = true
			if len(found) > 2000 {
				return nil, impl.ErrLimit
			}
			for letter := range c.Next {
				longer = append(longer, append(slices.Clone(w), int64(letter)))
			}
		}
		words = longer
	}
	return nil, impl.ErrNotFound
}

func modelRefineChoice(c, d impl.Choice) (bool, int64) {
	if !modelValidChoice(c) || !modelValidChoice(d) {
		return false, impl.ErrInvalid
	}
	if c.States != d.States || len(c.Next) != len(d.Next) {
		return false, impl.ErrRange
	}
	for letter := range c.Next {
		for s := range c.States {
			for _, t := range c.Next[letter][s] {
				if !slices.Contains(d.Next[letter][s], t) {
					return false, impl.OK
				}
			}
		}
	}
	return true, impl.OK
}
