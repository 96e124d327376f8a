package tests

import (
	"math"
	"math/rand"
	"slices"

	"loop.example/g01102/impl"
)

// gap stands in place of a next state where a letter cannot be read.
const gap = -1

// partial returns a partial automaton with so many states and a list for each letter.
func partial(states int64, next ...[]int64) impl.Partial {
	return impl.Partial{States: states, Next: next}
}

// choice returns an automaton with choices with so many states and a list of sets for each letter.
func choice(states int64, next ...[][]int64) impl.Choice {
	return impl.Choice{States: states, Next: next}
}

// only returns lists of one number each, of those that are not gaps, and empty lists for these.
func only(numbers ...int64) [][]int64 {
	out := make([][]int64, len(numbers))
	for i, n := range numbers {
		if n != gap {
			out[i] = list(n)
		}
	}
	return out
}

const gapText = "partial 2 2\nletter 1 .\nletter 0 0\n"

func gapExample() impl.Partial { return partial(2, list(1, gap), list(0, 0)) }

const choiceText = "choice 2 2\nletter 0,1 1\nletter 0,1 0,1\n"

func choiceExample() impl.Choice {
	return choice(2, lists(list(0, 1), list(1)), lists(list(0, 1), list(0, 1)))
}

// readPartial and readChoice return what has a text.
func readPartial(text string) impl.Partial {
	p, code := modelReadPartial(text)
	if code != impl.OK {
		panic("no partial automaton: " + text)
	}
	return p
}

func readChoice(text string) impl.Choice {
	c, code := modelReadChoice(text)
	if code != impl.OK {
		panic("no automaton with choices: " + text)
	}
	return c
}

// invalidPartials has one for each way not to be valid.
func invalidPartials() []impl.Partial {
	var out []impl.Partial
	for _, a := range invalidAutomata() {
		// This one is a partial automaton.
		if !modelSame(a, auto(2, list(gap, 0))) {
			out = append(out, impl.Partial(a))
		}
	}
	return append(out,
		partial(0, list()),
		partial(1, list(-2)),
		partial(2, list(gap, -2)),
		partial(2, list(gap, 2)),
		partial(2, list(gap)),
		partial(2, list(gap, gap, gap)),
		partial(2, list(gap, 0), list(gap)),
		partial(1, list(gap), list(gap), list(gap), list(gap)),
		partial(11, repeated(gap, 11)),
	)
}

// validPartials has small partial automata of many kinds, and some at the limits; they have few fillings.
func validPartials() []impl.Partial {
	return []impl.Partial{
		gapExample(),
		partial(1, list(0)),
		partial(1, list(gap)),
		partial(1, list(gap), list(gap), list(gap)),
		partial(1, list(gap), list(0), list(gap)),
		partial(2, list(0, 1)),
		partial(2, list(1, gap)),
		partial(2, list(gap, gap), list(gap, gap)),
		partial(2, list(gap, gap), list(1, 1), list(0, 0)),
		partial(3, list(1, 2, gap), list(0, 0, 2)),
		partial(3, list(1, 2, 2), list(gap, 1, gap)),
		partial(3, list(gap, gap, gap), list(1, 0, 2)),
		partial(4, list(1, gap, 3, 0), list(0, 0, 2, 3), list(gap, 1, 1, 1)),
		partial(5, list(1, 2, 3, 4, 0), list(0, 1, 2, 3, 0)),
		partial(5, list(1, 2, 3, 4, gap), list(0, 1, 2, 3, 0)),
		partial(10, append(upTo(10)[1:], gap), repeated(9, 10)),
		partial(10, append(upTo(10)[1:], gap), repeated(gap, 10)),
		partial(10, repeated(gap, 10), repeated(gap, 10), repeated(gap, 10)),
		partial(10, upTo(10), repeated(9, 10), list(9, 8, 7, 6, 5, 4, 3, 2, 1, 0)),
	}
}

// allPartials returns all partial automata with so many states and letters.
func allPartials(states int64, letters int) []impl.Partial {
	out := []impl.Partial{{States: states}}
	for range letters {
		var more []impl.Partial
		for _, p := range out {
			for _, next := range allLists(int(states), gap, states-1) {
				more = append(more, partial(states, append(slices.Clone(p.Next), next)...))
			}
		}
		out = more
	}
	return out
}

// smallPartials returns all partial automata with up to two states and two letters, those with three states and one letter, and some of those with two.
func smallPartials() []impl.Partial {
	out := slices.Concat(allPartials(1, 1), allPartials(1, 2), allPartials(2, 1), allPartials(2, 2), allPartials(3, 1))
	for i, p := range allPartials(3, 2) {
		if i%7 == 0 {
			out = append(out, p)
		}
	}
	return out
}

// randomPartials returns partial automata with at most so many gaps, always the same ones. Their letters often lead different states to different ones, as words are short otherwise.
func randomPartials(count int, least, most int64, gaps int) []impl.Partial {
	source := rand.New(rand.NewSource(4))
	var out []impl.Partial
	for range count {
		states := least + source.Int63n(most-least+1)
		p := partial(states)
		for range 1 + source.Intn(3) {
			next := make([]int64, states)
			for s, t := range source.Perm(int(states)) {
				next[s] = int64(t)
				if source.Intn(4) == 0 {
					next[s] = source.Int63n(states)
				}
			}
			p.Next = append(p.Next, next)
		}
		for range source.Intn(gaps + 1) {
			p.Next[source.Intn(len(p.Next))][source.Int63n(states)] = gap
		}
		out = append(out, p)
	}
	return out
}

// longWordPartials have long careful words, of 94 and 127 letters.
func longWordPartials() []impl.Partial {
	return []impl.Partial{
		readPartial("partial 10 2\nletter 0 9 2 3 4 5 6 1 8 4\nletter 6 . 3 8 0 7 2 . 5 4\n"),
		readPartial("partial 10 3\nletter . . . . 1 3 . . . 9\nletter 6 7 3 8 2 9 1 4 0 5\nletter 0 1 2 3 2 5 6 7 8 9\n"),
	}
}

// invalidChoices has one for each way not to be valid.
func invalidChoices() []impl.Choice {
	out := []impl.Choice{
		{},
		choice(0),
		choice(0, lists()),
		choice(-1, lists()),
		choice(math.MinInt64, only(0)),
		choice(math.MaxInt64, only(0)),
		choice(11, make([][]int64, 11)),
		choice(1),
		choice(1, only(0), only(0), only(0), only(0)),
		choice(1, lists()),
		choice(2, only(0)),
		choice(2, only(0, 1, 0)),
		choice(2, only(0, 1), only(0)),
		choice(2, only(0, 2)),
		choice(2, lists(list(-1), list(0))),
		choice(2, only(0, 1), lists(list(0), list(0, math.MaxInt64))),
		choice(2, only(0, 1), lists(list(math.MinInt64), nil)),
		choice(2, lists(list(1, 0), nil)),
		choice(2, lists(nil, list(1, 1))),
		choice(2, lists(list(0, 1), list(0, 1, 1))),
		choice(2, lists(list(0, 1, 2), nil)),
		choice(3, lists(list(0, 2, 1), nil, nil)),
		{States: 1, Next: make([][][]int64, 500)},
		choice(2, lists(upTo(500), nil)),
	}
	return out
}

// validChoices has small automata with choices of many kinds, and some at the limits.
func validChoices() []impl.Choice {
	all := slices.Repeat(lists(upTo(10)), 10)
	return []impl.Choice{
		choiceExample(),
		choice(2, only(1, gap), only(0, 0)),
		choice(1, only(0)),
		choice(1, only(gap)),
		choice(1, only(gap), only(0), only(gap)),
		choice(2, only(gap, gap)),
		choice(2, only(gap, gap), only(1, 1), only(0, 0)),
		choice(2, only(0, 1)),
		choice(2, only(1, 0), lists(list(0, 1), nil)),
		choice(2, lists(nil, list(0, 1)), lists(list(0, 1), nil)),
		choice(3, lists(list(1), list(2), list(0)), lists(list(0), list(0, 1), list(2))),
		choice(3, lists(list(0, 1, 2), nil, list(0, 2)), lists(list(1, 2), list(0), nil)),
		choice(3, lists(list(0, 1), list(0, 2), list(0))),
		choice(3, lists(list(1), list(2), nil)),
		choice(4, lists(list(0, 1, 2, 3), list(3), list(0, 2), nil), only(1, 2, 3, 0)),
		choice(5, only(1, 2, 3, 4, 0), only(0, 1, 2, 3, 0)),
		choice(5, only(1, 2, 3, 4, 0), lists(list(0), list(1), list(2), list(3), list(0, 4))),
		choice(10, make([][]int64, 10), all, only(upTo(10)...)),
		choice(10, all, all, all),
	}
}

// allChoices returns all automata with choices with so many states and letters.
func allChoices(states int64, letters int) []impl.Choice {
	out := []impl.Choice{{States: states}}
	sets := subsets(states)
	for range letters {
		var more []impl.Choice
		for _, c := range out {
			for _, numbers := range allLists(int(states), 0, int64(len(sets))-1) {
				var next [][]int64
				for _, n := range numbers {
					next = append(next, sets[n])
				}
				more = append(more, choice(states, append(slices.Clone(c.Next), next)...))
			}
		}
		out = more
	}
	return out
}

// smallChoices returns all automata with choices with up to two states and two letters, and those with three states and one letter.
func smallChoices() []impl.Choice {
	return slices.Concat(allChoices(1, 1), allChoices(1, 2), allChoices(2, 1), allChoices(2, 2), allChoices(3, 1))
}

// randomChoices returns automata with choices, always the same ones; in some of them most sets are empty, in others most have several states.
func randomChoices(count int, least, most int64) []impl.Choice {
	source := rand.New(rand.NewSource(11))
	var out []impl.Choice
	for range count {
		states := least + source.Int63n(most-least+1)
		c := choice(states)
		dense := 1 + source.Int63n(3)
		for range 1 + source.Intn(3) {
			next := make([][]int64, states)
			for s := range next {
				next[s] = modelSetOf(auto(states), func(int64) bool { return source.Int63n(2*states) < dense })
				if source.Intn(3) > 0 && len(next[s]) == 0 {
					next[s] = list(source.Int63n(states))
				}
			}
			c.Next = append(c.Next, next)
		}
		out = append(out, c)
	}
	return out
}

// fullTuples has exactly MaxTuples lists of reached sets, none of which directs in any way: no word leads from the state 4 to where it leads from the others. And overTuples has one more, and no word leads from the state 0 to where it leads from the others.
func fullTuples() impl.Choice {
	return readChoice("choice 5 3\nletter 1 0 3 0 4\nletter 2 1 0 0,1 4\nletter 3 0 0 2 4\n")
}

func overTuples() impl.Choice {
	return readChoice("choice 5 3\nletter 0 1 4 2 1,3\nletter 0 3 2 4 2\nletter 0 2 4 2 3\n")
}

// chapter4 are the functions of chapter 4, with their models.
func chapter4() []function {
	return []function{
		{"ValidPartial", impl.ValidPartial, modelValidPartial},
		{"SamePartial", impl.SamePartial, modelSamePartial},
		{"PartialText", impl.PartialText, modelPartialText},
		{"ReadPartial", impl.ReadPartial, modelReadPartial},
		{"GapsOf", impl.GapsOf, modelGapsOf},
		{"FillGaps", impl.FillGaps, modelFillGaps},
		{"CarefulImage", impl.CarefulImage, modelCarefulImage},
		{"IsCareful", impl.IsCareful, modelIsCareful},
		{"CarefulWord", impl.CarefulWord, modelCarefulWord},
		{"TrapCompletion", impl.TrapCompletion, modelTrapCompletion},
		{"FirstFilling", impl.FirstFilling, modelFirstFilling},
		{"SurestWord", impl.SurestWord, modelSurestWord},
		{"ValidChoice", impl.ValidChoice, modelValidChoice},
		{"SameChoice", impl.SameChoice, modelSameChoice},
		{"ChoiceText", impl.ChoiceText, modelChoiceText},
		{"ReadChoice", impl.ReadChoice, modelReadChoice},
		{"ChoiceOf", impl.ChoiceOf, modelChoiceOf},
		{"IsTotal", impl.IsTotal, modelIsTotal},
		{"ReachBy", impl.ReachBy, modelReachBy},
		{"Directs", impl.Directs, modelDirects},
		{"DirectingWord", impl.DirectingWord, modelDirectingWord},
		{"RefineChoice", impl.RefineChoice, modelRefineChoice},
	}
}
