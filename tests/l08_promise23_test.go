package tests

import (
	"math/rand"
	"slices"
	"testing"

	"loop.example/g01102/impl"
)

// TestPromise23OneWay goes all the way from roads to a line whose state becomes known, with each result told.
func TestPromise23OneWay(t *testing.T) {
	r, w := roadsExample(), word("aba")
	a := auto(3, list(1, 0, 0), list(1, 2, 0))
	expect(t, "ReadRoads", impl.ReadRoads, []any{roadsText}, []any{r, impl.OK})
	expect(t, "IsJoined", impl.IsJoined, []any{r}, []any{true, impl.OK})
	expect(t, "RoadPeriod", impl.RoadPeriod, []any{r}, []any{1, impl.OK})
	expect(t, "FirstResetColouring", impl.FirstResetColouring, []any{r}, []any{0, impl.OK})
	expect(t, "ColouringAt", impl.ColouringAt, []any{r, 0}, []any{a, impl.OK})
	expect(t, "ShortestReset", impl.ShortestReset, []any{a}, []any{w, impl.OK})
	expect(t, "CarefulWord", impl.CarefulWord, []any{impl.Partial(a)}, []any{w, impl.OK})
	for _, kind := range kinds() {
		expect(t, "DirectingWord", impl.DirectingWord, []any{choice(3, only(1, 0, 0), only(1, 2, 0)), kind}, []any{w, impl.OK})
	}
	// Only the state 2 has a lamp of its own, which is seen behind "b" from the state 1.
	l := lit(a, 0, 0, 1)
	m := machine(3, 2, a.Next, lists(list(0, 0, 0), list(0, 1, 0)))
	expect(t, "HomingWord", impl.HomingWord, []any{m}, []any{word("ab"), impl.OK})
	expect(t, "AdaptiveDepth", impl.AdaptiveDepth, []any{l, upTo(3)}, []any{2, impl.OK})
	expect(t, "AdaptiveRun", impl.AdaptiveRun, []any{l, upTo(3), 0}, []any{word("ab"), 2, impl.OK})
	expect(t, "ToldAfter", impl.ToldAfter, []any{l, 0, nil}, []any{upTo(3), true, impl.OK})
	plan := then(asking, asking, bringing(0, 0), asking, bringing(1, 1), asking)
	expect(t, "HomeDeeds", impl.HomeDeeds, []any{l, 2, nil}, []any{deeds(then(asking, asking)), impl.OK})
	expect(t, "HomeDeeds", impl.HomeDeeds, []any{byTurns(a, 1), 2, nil}, []any{deeds(then(asking, asking, bringing(0, 0), asking, bringing(1, 1), asking, bringing(0, 2), asking)), impl.OK})
	expect(t, "HomeDeeds", impl.HomeDeeds, []any{lit(a, 0, 0, 0), 0, deeds("report")}, []any{deeds(then("drop 0", asking, asking, bringing(0, 0), asking, bringing(1, 1), asking, bringing(0, 2), asking)), impl.OK})
	findsHome(t, journey{l, 0, deeds(plan)})
	findsHome(t, journey{l, 1, nil})
}

// goodRoads are joined, and their round trips have no common divisor.
func goodRoads() []impl.Roads {
	joined := onlyJoined(slices.Concat(smallRoads(), randomRoads(120, 3, 6, 2000), []impl.Roads{lateRoads(), roads(list(1, 2), list(0, 0), list(3, 3), list(0, 0)), roads(list(0)), roads(list(0, 0, 0))}))
	return slices.DeleteFunc(joined, func(r impl.Roads) bool {
		period, _ := modelRoadPeriod(r)
		return period != 1
	})
}

// resetColourings returns the first colouring of roads that can be reset, and the quickest one.
func resetColourings(t *testing.T, r impl.Roads) []impl.Automaton {
	t.Helper()
	has, _ := impl.HasResetColouring(r)
	first, one := impl.FirstResetColouring(r)
	quickest, quick, two := impl.QuickestColouring(r)
	rank, _, three := impl.LeastRankColouring(r)
	if count, code := impl.CountResetColourings(r); !has || count < 1 || rank != 1 || one+two+three+code != impl.OK {
		t.Fatalf("%v: %v, %d colourings, rank %d, codes %d %d %d %d", r, has, count, rank, one, two, three, code)
	}
	var all []impl.Automaton
	for _, number := range list(first, quickest) {
		a, _ := impl.ColouringAt(r, number)
		if same, code := impl.IsColouring(r, a); !same || code != impl.OK {
			t.Fatalf("%v is no colouring of %v, code %d", a, r, code)
		}
		all = append(all, a)
	}
	if w, code := impl.ShortestReset(all[1]); code != impl.OK || !slices.Equal(w, quick) {
		t.Fatalf("ShortestReset(%v): %v, code %d, but the quickest word is %v", all[1], w, code, quick)
	}
	return all
}

// TestPromise23RoadsAreReset tells that joined roads whose round trips have no common divisor are coloured so that they are reset in all ways: by sets, by pairs, by a certificate, carefully and by choices.
func TestPromise23RoadsAreReset(t *testing.T) {
	t.Parallel()
	for _, r := range goodRoads() {
		for _, a := range resetColourings(t, r) {
			resetsBySets(t, a)
			resetsByPairs(t, a)
			resetsCarefully(t, a)
		}
	}
}

// mustReset tells whether a word resets an automaton; code is that of the function that has returned the word.
func mustReset(t *testing.T, name string, a impl.Automaton, w []int64, code int64) {
	t.Helper()
	if isReset, other := impl.IsReset(a, w); !isReset || code != impl.OK || other != impl.OK {
		t.Errorf("%s(%v): %v, codes %d and %d", name, a, w, code, other)
	}
}

func resetsBySets(t *testing.T, a impl.Automaton) {
	t.Helper()
	w, code := impl.ShortestReset(a)
	mustReset(t, "ShortestReset", a, w, code)
	expect(t, "CanReset", impl.CanReset, []any{a}, []any{true, impl.OK})
	expect(t, "RankOf", impl.RankOf, []any{a}, []any{1, impl.OK})
	expect(t, "RankWord", impl.RankWord, []any{a}, []any{w, impl.OK})
	expect(t, "ShortestFor", impl.ShortestFor, []any{a, upTo(a.States)}, []any{w, impl.OK})
	expect(t, "ShortestTo", impl.ShortestTo, []any{a, modelLead(a, 0, w)}, []any{w, impl.OK})
	// As words lead from the last state to each one, each state is a target.
	expect(t, "TargetsOf", impl.TargetsOf, []any{a}, []any{upTo(a.States), impl.OK})
	if length := int64(len(w)); length > 0 && length <= impl.MaxCounted {
		expect(t, "CountResets", impl.CountResets, []any{a, length - 1}, []any{0, impl.OK})
		if count, code := impl.CountResets(a, length); count < 1 || code != impl.OK {
			t.Errorf("CountResets(%v, %d): %d, code %d", a, length, count, code)
		}
	}
}

func resetsByPairs(t *testing.T, a impl.Automaton) {
	t.Helper()
	for s := range a.States {
		for u := range s {
			if w, code := impl.MergingWord(a, u, s); code != impl.OK || modelLead(a, s, w) != modelLead(a, u, w) {
				t.Errorf("MergingWord(%v, %d, %d): %v, code %d", a, u, s, w, code)
			}
		}
	}
	expect(t, "StableDivision", impl.StableDivision, []any{a}, []any{repeated(0, int(a.States)), impl.OK})
	greedy, code := impl.GreedyReset(a)
	mustReset(t, "GreedyReset", a, greedy, code)
	if first, _ := impl.ShortestReset(a); len(greedy) < len(first) {
		t.Errorf("GreedyReset(%v): %v, the first word is %v", a, greedy, first)
	}
	c, code := impl.FindCertificate(a)
	if right, other := impl.CheckCertificate(a, c); c.Kind != impl.CtMerges || !right || code != impl.OK || other != impl.OK {
		t.Errorf("FindCertificate(%v): %v, codes %d and %d", a, c, code, other)
	}
	w, code := impl.WordOfCertificate(a, c)
	mustReset(t, "WordOfCertificate", a, w, code)
}

func resetsCarefully(t *testing.T, a impl.Automaton) {
	t.Helper()
	w, _ := impl.ShortestReset(a)
	p := impl.Partial(a)
	expect(t, "CarefulWord", impl.CarefulWord, []any{p}, []any{w, impl.OK})
	expect(t, "SurestWord", impl.SurestWord, []any{p}, []any{w, impl.OK})
	expect(t, "FirstFilling", impl.FirstFilling, []any{p}, []any{a, impl.OK})
	c, code := impl.ChoiceOf(p)
	if total, other := impl.IsTotal(c); !total || code != impl.OK || other != impl.OK {
		t.Errorf("ChoiceOf(%v): %v, codes %d and %d", p, c, code, other)
	}
	for _, kind := range kinds() {
		expect(t, "DirectingWord", impl.DirectingWord, []any{c, kind}, []any{w, impl.OK})
		expect(t, "Directs", impl.Directs, []any{c, w, kind}, []any{true, impl.OK})
	}
}

// lampMachine returns the machine that outputs the lamp of the state to which a letter leads; there have to be fewer lamps than MaxLamps.
func lampMachine(l impl.Lit) impl.Machine {
	m := machine(l.Auto.States, impl.MaxOutputs, l.Auto.Next, nil)
	for _, next := range l.Auto.Next {
		var out []int64
		for _, s := range next {
			out = append(out, l.Lamps[s])
		}
		m.Out = append(m.Out, out)
	}
	return m
}

// TestPromise23MachinesComeHome gives the states of colourings lamps: a machine that outputs them comes home by a word, and a tree; and what the lamps tell is the same for an adaptive run and at a line.
func TestPromise23MachinesComeHome(t *testing.T) {
	t.Parallel()
	source := rand.New(rand.NewSource(23))
	for _, r := range goodRoads() {
		for _, a := range resetColourings(t, r) {
			for lamps := range int64(impl.MaxOutputs) {
				l := byTurns(a, lamps+1)
				homesAsMachine(t, l)
				runsHome(t, l)
				for state := range a.States {
					findsHome(t, journey{l, state, nil})
					findsHome(t, journey{l, state, drawDeeds(source, l, state, source.Intn(20))})
				}
			}
		}
	}
}

func homesAsMachine(t *testing.T, l impl.Lit) {
	t.Helper()
	m := lampMachine(l)
	reset, _ := impl.ShortestReset(l.Auto)
	expect(t, "ForgetOutputs", impl.ForgetOutputs, []any{m}, []any{l.Auto, impl.OK})
	expect(t, "IsHoming", impl.IsHoming, []any{m, reset}, []any{true, impl.OK})
	w, code := impl.HomingWord(m)
	homing, _ := impl.IsHoming(m, w)
	depth, other := impl.AdaptiveDepth(l, upTo(m.States))
	// Letters that are chosen by what has been seen need not be more than a word that is not, nor more than one that needs not be watched.
	if code != impl.OK || other != impl.OK || !homing || len(w) > len(reset) || depth > int64(len(w)) {
		t.Errorf("%v: HomingWord %v, code %d, AdaptiveDepth %d, code %d, ShortestReset %v", l, w, code, depth, other, reset)
	}
	if pairs, code := impl.PairAutomaton(m); code == impl.OK {
		expect(t, "ShortestReset", impl.ShortestReset, []any{pairs}, []any{w, impl.OK})
	}
	reduced, _ := impl.ReduceMachine(m)
	tree, code := impl.HomingTree(reduced)
	if right, other := impl.CheckTree(reduced, tree, false); !right || code != impl.OK || other != impl.OK {
		t.Errorf("HomingTree(%v): codes %d and %d", reduced, code, other)
	}
}

// runsHome tells that the machine outputs along an adaptive run what makes its state known.
func runsHome(t *testing.T, l impl.Lit) {
	t.Helper()
	m := lampMachine(l)
	for s := range m.States {
		letters, last, code := impl.AdaptiveRun(l, upTo(m.States), s)
		seen, end, other := impl.OutputsOf(m, s, letters)
		if code != impl.OK || other != impl.OK || end != last {
			t.Errorf("AdaptiveRun(%v, %d): %v %d, code %d, the machine comes to %d", l, s, letters, last, code, end)
		}
		for u := range m.States {
			if same, end, _ := impl.OutputsOf(m, u, letters); slices.Equal(same, seen) && end != last {
				t.Errorf("AdaptiveRun(%v, %d): %v, the state %d outputs the same and leads to %d", l, s, letters, u, end)
			}
		}
	}
}

// TestPromise23NoColouring tells that roads with a common divisor have no colouring that can be reset, and that none of its colourings is reset in another way.
func TestPromise23NoColouring(t *testing.T) {
	t.Parallel()
	for _, r := range onlyJoined(slices.Concat([]impl.Roads{circuit(2, 2), circuit(4, 1), stretched(lateRoads())}, smallRoads(), randomRoads(60, 3, 6, 500))) {
		period, _ := impl.RoadPeriod(r)
		if period == 1 {
			continue
		}
		expect(t, "HasResetColouring", impl.HasResetColouring, []any{r}, []any{false, impl.OK})
		expect(t, "FirstResetColouring", impl.FirstResetColouring, []any{r}, []any{0, impl.ErrNotFound})
		expect(t, "QuickestColouring", impl.QuickestColouring, []any{r}, []any{0, nil, impl.ErrNotFound})
		expect(t, "CountResetColourings", impl.CountResetColourings, []any{r}, []any{0, impl.OK})
		for i, a := range coloured(r) {
			if i%11 > 0 {
				continue
			}
			staysApart(t, a)
		}
	}
	for _, bad := range invalidRoads() {
		expect(t, "FirstResetColouring", impl.FirstResetColouring, []any{bad}, []any{0, impl.ErrInvalid})
	}
}

func staysApart(t *testing.T, a impl.Automaton) {
	t.Helper()
	p := impl.Partial(a)
	c, _ := impl.ChoiceOf(p)
	returnErrors(t, []wrongCall{
		{"ShortestReset", impl.ShortestReset, []any{a}, impl.ErrNotFound, []any{nil}},
		{"GreedyReset", impl.GreedyReset, []any{a}, impl.ErrNotFound, []any{nil}},
		{"CarefulWord", impl.CarefulWord, []any{p}, impl.ErrNotFound, []any{nil}},
		{"FirstFilling", impl.FirstFilling, []any{p}, impl.ErrNotFound, []any{impl.Automaton{}}},
		{"DirectingWord", impl.DirectingWord, []any{c, impl.DirSame}, impl.ErrNotFound, []any{nil}},
		{"DirectingWord", impl.DirectingWord, []any{c, impl.DirEqual}, impl.ErrNotFound, []any{nil}},
		{"DirectingWord", impl.DirectingWord, []any{c, impl.DirMeet}, impl.ErrNotFound, []any{nil}},
		{"AdaptiveDepth", impl.AdaptiveDepth, []any{byTurns(a, 1), upTo(a.States)}, impl.ErrNotFound, []any{0}},
		{"HomeDeeds", impl.HomeDeeds, []any{byTurns(a, 1), 0, nil}, impl.ErrNotFound, []any{nil}},
		{"HomingWord", impl.HomingWord, []any{silent(a)}, impl.ErrNotFound, []any{nil}},
	})
	if c, _ := impl.FindCertificate(a); c.Kind != impl.CtApart {
		t.Errorf("FindCertificate(%v): %v", a, c)
	}
}
