package tests

import (
	"fmt"
	"math"
	"math/rand"
	"slices"
	"strings"

	"loop.example/g01102/impl"
)

// lit returns an automaton with a lamp for each state.
func lit(a impl.Automaton, lamps ...int64) impl.Lit { return impl.Lit{Auto: a, Lamps: lamps} }

// byTurns gives the states of an automaton the first lamps by turns; with one lamp, nothing can be seen.
func byTurns(a impl.Automaton, lamps int64) impl.Lit {
	l := lit(a)
	for s := range a.States {
		l.Lamps = append(l.Lamps, s%lamps)
	}
	return l
}

// lineExample is the lit automaton of the document's example.
func lineExample() impl.Lit { return lit(cycle(2), 0, 1) }

// lateLamp has a lamp only in the last of n states that lead around.
func lateLamp(n int64) impl.Lit {
	return lit(cycle(n), append(repeated(0, int(n-1)), 1)...)
}

// deeds returns the deeds with texts that are separated by commas and blanks; no text is no deed.
func deeds(text string) []impl.Deed {
	var all []impl.Deed
	if text == "" {
		return all
	}
	for _, each := range strings.Split(text, ", ") {
		d, code := modelReadDeed(each)
		if code != impl.OK {
			panic("no deed: " + each)
		}
		all = append(all, d)
	}
	return all
}

// times repeats deeds.
func times(count int, text string) string {
	return strings.Join(slices.Repeat([]string{text}, count), ", ")
}

// bringing orders a letter, saves this, and brings the order with a number to the machine.
func bringing(letter, number int64) string {
	return fmt.Sprintf("order %d, save, post %d, deliver 0", letter, number)
}

const asking = "report, deliver 0, save"

// invalidLits has one for each way not to be valid.
func invalidLits() []impl.Lit {
	var all []impl.Lit
	for _, a := range invalidAutomata() {
		all = append(all, lit(a), lit(a, 0), lit(a, 0, 0), lit(a, repeated(1, 10)...))
	}
	for _, lamps := range lists(nil, list(), list(0), list(0, 1, 0), list(-1, 0), list(0, -1), list(0, impl.MaxLamps), list(impl.MaxLamps, 0), list(0, math.MinInt64), list(math.MaxInt64, 0), repeated(0, 10)) {
		all = append(all, lit(cycle(2), lamps...))
	}
	return append(all, lit(cycle(10), repeated(0, 9)...), lit(cycle(10), repeated(0, 11)...), lit(auto(1, list(0)), 4), lit(auto(1, list(0))))
}

// validLits has automata of many kinds, each with none, few and all of the lamps.
func validLits() []impl.Lit {
	var all []impl.Lit
	for _, a := range validAutomata() {
		all = append(all, byTurns(a, 1), byTurns(a, 2), byTurns(a, impl.MaxLamps))
	}
	return append(all, lineExample(), lateLamp(2), lateLamp(5), byTurns(slow(4), 1), byTurns(slow(5), 2), lit(slow(6), 0, 0, 0, 3, 0, 0))
}

// fewLits are lit automata of many kinds, right and wrong ones, but not too many and not too large ones to choose other arguments for each.
func fewLits() []impl.Lit {
	bad := invalidLits()
	few := []impl.Lit{bad[0], bad[20], bad[len(bad)-1], bad[len(bad)-5], {}}
	for i, l := range validLits() {
		if l.Auto.States <= 5 && i%2 == 0 {
			few = append(few, l)
		}
	}
	return append(few, lineExample(), byTurns(cycle(10), 4))
}

// allLits returns all automata with so many states, letters and lamps.
func allLits(states int64, letters int, lamps int64) []impl.Lit {
	var all []impl.Lit
	for _, a := range allAutomata(states, letters) {
		for _, each := range allLists(int(states), 0, lamps-1) {
			all = append(all, lit(a, each...))
		}
	}
	return all
}

// smallLits are all lit automata with up to three states and few letters.
func smallLits() []impl.Lit {
	return slices.Concat(allLits(1, 1, 4), allLits(2, 1, 4), allLits(2, 2, 2), allLits(2, 3, 2), allLits(3, 1, 3), allLits(3, 2, 2))
}

// randomLits are automata with many and few states, of which some have the same lamp.
func randomLits(count int, least, most int64) []impl.Lit {
	source := rand.New(rand.NewSource(88))
	var all []impl.Lit
	for _, a := range randomAutomata(count, least, most) {
		l := lit(a)
		kinds := 1 + source.Int63n(impl.MaxLamps)
		for range a.States {
			lamp := source.Int63n(kinds)
			if source.Intn(2) == 0 {
				lamp = 0
			}
			l.Lamps = append(l.Lamps, lamp)
		}
		all = append(all, l)
	}
	return all
}

// settledLits are those of some lit automata in which it can always be found out what the state is.
func settledLits(all []impl.Lit) []impl.Lit {
	return slices.DeleteFunc(all, func(l impl.Lit) bool {
		_, code := modelAdaptiveDepth(l, upTo(l.Auto.States))
		return code != impl.OK
	})
}

// wrongDeeds are no valid deeds.
func wrongDeeds() []impl.Deed {
	all := []impl.Deed{{}, {Kind: 10}, {Kind: -1}, {Kind: math.MinInt64}, {Kind: math.MaxInt64}, {Arg: 1}, {Kind: 10, Arg: 3}}
	for kind := range int64(10) {
		for _, arg := range list(-1, 1000, math.MinInt64, math.MaxInt64, 1<<32) {
			all = append(all, impl.Deed{Kind: kind, Arg: arg})
		}
	}
	for _, kind := range list(impl.DdReport, impl.DdSave, impl.DdCrash) {
		all = append(all, impl.Deed{Kind: kind, Arg: 1}, impl.Deed{Kind: kind, Arg: 999})
	}
	return all
}

// drawDeeds returns deeds that mostly do something at a line that begins in a state.
func drawDeeds(source *rand.Rand, l impl.Lit, state int64, count int) []impl.Deed {
	// What happens often in these kinds stands in them often.
	kinds := list(impl.DdOrder, impl.DdOrder, impl.DdOrder, impl.DdPost, impl.DdPost, impl.DdPost, impl.DdPost, impl.DdReport, impl.DdReport, impl.DdReport, impl.DdDeliver, impl.DdDeliver, impl.DdDeliver, impl.DdDeliver, impl.DdCopy, impl.DdCopy, impl.DdDrop, impl.DdSave, impl.DdSave, impl.DdSave, impl.DdCrash)
	n := modelLine(l, state)
	var all []impl.Deed
	for range count {
		d := impl.Deed{Kind: kinds[source.Intn(len(kinds))]}
		if source.Intn(70) == 0 {
			d.Kind = impl.DdJolt
		}
		d.Arg = drawArg(source, l, n, d.Kind)
		all = append(all, d)
		n, _ = modelDone(l, n, d)
	}
	return all
}

// drawArg returns an Arg for a deed, one too large for it now and then.
func drawArg(source *rand.Rand, l impl.Lit, n impl.Line, kind int64) int64 {
	tooMany := source.Int63n(8) / 7
	switch kind {
	case impl.DdOrder:
		return source.Int63n(int64(len(l.Auto.Next)) + tooMany)
	case impl.DdPost:
		// Orders that have not been taken yet lead on, but older ones may come as well.
		if next := n.Taken - source.Int63n(2); next >= 0 && source.Intn(3) > 0 {
			return next
		}
		return source.Int63n(int64(len(n.Saved.Orders)) + 1 + tooMany)
	case impl.DdDeliver, impl.DdCopy, impl.DdDrop:
		return source.Int63n(int64(max(1, len(n.Wire))) + tooMany)
	case impl.DdJolt:
		return source.Int63n(l.Auto.States + tooMany)
	}
	return 0
}

// journey is a machine that begins in a state, with what is done at its line.
type journey struct {
	lit   impl.Lit
	state int64
	deeds []impl.Deed
}

// journeys are drawn for many automata.
func journeys(count, most int) []journey {
	source := rand.New(rand.NewSource(808))
	all := slices.Concat(randomLits(count, 1, 5), []impl.Lit{lineExample(), lateLamp(3), lateLamp(4), byTurns(slow(4), 2), byTurns(cycle(3), 1)})
	var drawn []journey
	for i := range count {
		l := all[len(all)-1-i%len(all)]
		state := source.Int63n(l.Auto.States)
		drawn = append(drawn, journey{l, state, drawDeeds(source, l, state, 1+source.Intn(most))})
	}
	return drawn
}

// chapter8 are the functions of chapter 8, with their models.
func chapter8() []function {
	return []function{
		{"ValidLit", impl.ValidLit, modelValidLit},
		{"LampClasses", impl.LampClasses, modelLampClasses},
		{"Believed", impl.Believed, modelBelieved},
		{"AdaptiveDepth", impl.AdaptiveDepth, modelAdaptiveDepth},
		{"AdaptiveLetter", impl.AdaptiveLetter, modelAdaptiveLetter},
		{"AdaptiveRun", impl.AdaptiveRun, modelAdaptiveRun},
		{"ValidDeed", impl.ValidDeed, modelValidDeed},
		{"DeedText", impl.DeedText, modelDeedText},
		{"ReadDeed", impl.ReadDeed, modelReadDeed},
		{"LineAfter", impl.LineAfter, modelLineAfter},
		{"RefusedDeed", impl.RefusedDeed, modelRefusedDeed},
		{"ToldAfter", impl.ToldAfter, modelToldAfter},
		{"HomeDeeds", impl.HomeDeeds, modelHomeDeeds},
		{"RunScript", impl.RunScript, modelRunScript},
	}
}

// someDeedTexts are texts of deeds, and others.
func someDeedTexts() []string {
	return []string{
		"order 0", "order 1", "order 999", "post 3", "report", "deliver 0", "copy 10", "drop 9", "jolt 2", "save", "crash",
		"order 1000", "order -1", "order +1", "order 01", "order 00", "order  1", "order 1 ", " order 1", "order\t1", "order", "order ", "order a", "order 1 1", "order 1.0", "order1", "Order 1", "orders 1",
		"post", "deliver", "copy", "drop", "jolt", "report 0", "save 0", "crash 0", "report ", "save ", "save 1", "crash\n", "jolt 2\n", "order 0x1", "order 9223372036854775808", "order 99999999999999999999",
	}
}

// someScripts are texts whose lines are deeds and others.
func someScripts() []string {
	return []string{
		"report\nwire\ndeliver 0\ntold\norder 0\norder 1\norders\ntold\nfoo", "told\n", "told", "\n", "\n\n", "told\n\n", "\ntold", "orders\nwire\ntold\n", "told ", "told\r\n", " told", "TOLD", "told told", "order 0\nsave\npost 0\ncopy 0\ncopy 0\ndeliver 0\ntold\nreport\ndeliver 0\ntold\n", "jolt 1\ntold\nreport\ndeliver 0\ntold\norders\n", "jolt 5\njolt 0\njolt 0\njolt 0\njolt 0\njolt 0\njolt 0\njolt 0\n",
		strings.Repeat("wire\n", impl.MaxScriptLines), strings.Repeat("wire\n", impl.MaxScriptLines+1), strings.Repeat("\n", impl.MaxScriptLines), strings.Repeat("\n", impl.MaxScriptLines) + "x", strings.Repeat("x", impl.MaxScriptText), strings.Repeat("x", impl.MaxScriptText+1),
	}
}
