package tests

import (
	"math"
	"slices"
	"strings"

	"loop.example/g01102/impl"
)

// auto returns an automaton with so many states and a list for each letter.
func auto(states int64, next ...[]int64) impl.Automaton {
	return impl.Automaton{States: states, Next: next}
}

func list(numbers ...int64) []int64 { return numbers }

func lists(all ...[]int64) [][]int64 { return all }

// upTo returns the numbers from 0 to n - 1.
func upTo(n int64) []int64 {
	var out []int64
	for i := range n {
		out = append(out, i)
	}
	return out
}

// repeated returns a list of n equal numbers.
func repeated(number int64, n int) []int64 {
	out := make([]int64, n)
	for i := range out {
		out[i] = number
	}
	return out
}

// cycle returns the automaton with one letter, which leads to the next state, and from the last one to the state 0.
func cycle(n int64) impl.Automaton {
	return auto(n, append(upTo(n)[1:], 0))
}

const exampleText = "automaton 3 2\nletter 1 2 0\nletter 0 1 0\n"

func example() impl.Automaton { return auto(3, list(1, 2, 0), list(0, 1, 0)) }

// fullMonoid has exactly MaxMonoid actions, and overfullMonoid one more.
func fullMonoid() impl.Automaton {
	return auto(7, list(1, 2, 5, 6, 3, 1, 0), list(4, 5, 0, 3, 0, 4, 4))
}

func overfullMonoid() impl.Automaton {
	return auto(5, list(2, 3, 0, 1, 0), list(4, 0, 2, 1, 1), list(0, 4, 0, 0, 2))
}

// invalidAutomata has one for each way not to be valid.
func invalidAutomata() []impl.Automaton {
	return []impl.Automaton{
		{},
		auto(0, nil),
		auto(-1, nil),
		auto(math.MinInt64, list(0)),
		auto(math.MaxInt64, list(0)),
		auto(11, upTo(11)),
		auto(1),
		auto(1, list(0), list(0), list(0), list(0)),
		auto(1, nil),
		auto(2, list(0)),
		auto(2, list(0, 1, 0)),
		auto(2, list(0, 1), list(0)),
		auto(2, list(0, 2)),
		auto(2, list(-1, 0)),
		auto(2, list(0, 1), list(1, math.MaxInt64)),
		auto(2, list(0, 1), list(1, math.MinInt64)),
		{States: 1, Next: make([][]int64, 500)},
		{States: 500, Next: lists(make([]int64, 500))},
	}
}

// validAutomata has small automata of many kinds, and some at the limits.
func validAutomata() []impl.Automaton {
	return []impl.Automaton{
		auto(1, list(0)),
		auto(1, list(0), list(0), list(0)),
		auto(2, list(0, 1)),
		auto(2, list(1, 0), list(0, 0)),
		auto(2, list(1, 1), list(0, 0), list(1, 0)),
		example(),
		auto(3, list(1, 2, 1)),
		auto(3, list(0, 0, 0), list(0, 1, 2)),
		auto(3, list(1, 0, 2), list(0, 1, 2)),
		cycle(4),
		auto(4, list(1, 0, 3, 2), list(2, 3, 0, 1)),
		auto(4, list(1, 1, 3, 3)),
		overfullMonoid(),
		auto(5, list(1, 2, 3, 4, 0), list(0, 1, 2, 3, 0)),
		auto(6, list(1, 0, 3, 4, 5, 2), list(0, 1, 2, 3, 4, 5)),
		fullMonoid(),
		cycle(10),
		auto(10, upTo(10), repeated(9, 10), list(9, 8, 7, 6, 5, 4, 3, 2, 1, 0)),
	}
}

func someLists() [][]int64 {
	all := lists(nil, list(-1), list(3), list(9), list(10), list(math.MinInt64), list(math.MaxInt64),
		list(1, 0), list(0, 0), list(0, 2), list(0, 1, 3), list(2, 0, 1), list(1, 1, 1, 1),
		list(0, 1, 0, 1), list(0, 0, 1, 1), list(1, 0, 1, 0), list(0, 1, 1, 2), list(0, 2, 1, 3), list(0, 1, 2, -1),
		list(3, 2, 1, 0), list(0, 1, 0, 2, 3), list(4, 3, 2, 1, 0), list(0, 2, 2, 2, 0), list(4, 5, 0, 3, 0, 4, 4),
		list(0, 1, 2, 3, 4, 5, 6, 7, 8, 8), list(0, 1, 2, 3, 4, 5, 6, 7, 8, 10), list(9, 8, 7, 6, 5, 4, 3, 2, 1, 0),
		repeated(0, 10), repeated(0, 400), repeated(0, 401), repeated(2, 400), repeated(1, 1000))
	for n := range int64(12) {
		all = append(all, upTo(n))
	}
	return all
}

func someTexts() []string {
	return []string{
		"", "-", "--", "a", "abc", "cba", "abd", "ab ", "A", "a-", "-a", "aé", "\xff", "`", "a\x00",
		strings.Repeat("a", 400), strings.Repeat("a", 401), strings.Repeat("b", 5000),
		exampleText, "automaton 1 1\nletter 0\n", "automaton", "\n",
		strings.Repeat("x", 2000), strings.Repeat("x", 2001),
	}
}

// anyOf turns lists of several types into one list of arguments.
func anyOf[T any](values []T) []any {
	var out []any
	for _, v := range values {
		out = append(out, v)
	}
	return out
}

// chapter1 are the functions of chapter 1, with their models.
func chapter1() []function {
	return []function{
		{"CodeName", impl.CodeName, modelCodeName},
		{"ValidAutomaton", impl.ValidAutomaton, modelValid},
		{"SameAutomaton", impl.SameAutomaton, modelSame},
		{"AutomatonText", impl.AutomatonText, modelText},
		{"ReadAutomaton", impl.ReadAutomaton, modelRead},
		{"ValidWord", impl.ValidWord, modelValidWord},
		{"WordText", impl.WordText, modelWordText},
		{"ReadWord", impl.ReadWord, modelReadWord},
		{"ActionOf", impl.ActionOf, modelActionOf},
		{"ImageOf", impl.ImageOf, modelImageOf},
		{"PreimageOf", impl.PreimageOf, modelPreimageOf},
		{"MonoidOf", impl.MonoidOf, modelMonoidOf},
		{"WordFor", impl.WordFor, modelWordFor},
		{"ReachedFrom", impl.ReachedFrom, modelReachedFrom},
		{"IsConnected", impl.IsConnected, modelIsConnected},
		{"SinkOf", impl.SinkOf, modelSinkOf},
		{"PeriodOf", impl.PeriodOf, modelPeriodOf},
		{"IsCongruence", impl.IsCongruence, modelIsCongruence},
		{"LeastCongruence", impl.LeastCongruence, modelLeastCongruence},
		{"QuotientOf", impl.QuotientOf, modelQuotientOf},
		{"ProductOf", impl.ProductOf, modelProductOf},
		{"RestrictTo", impl.RestrictTo, modelRestrictTo},
		{"RenumberStates", impl.RenumberStates, modelRenumberStates},
		{"RenumberingOf", impl.RenumberingOf, modelRenumberingOf},
	}
}

// named returns the function of a chapter with a name.
func named(name string) function {
	for _, f := range slices.Concat(chapter1(), chapter2(), chapter3(), chapter4(), chapter5(), chapter6(), chapter7(), chapter8()) {
		if f.name == name {
			return f
		}
	}
	panic("no function " + name)
}
