package tests

import (
	"math"
	"math/rand"
	"slices"
	"testing"

	"loop.example/g01102/impl"
)

// partialWords returns all words of at most so many letters for a partial automaton, in order.
func partialWords(p impl.Partial, longest int) [][]int64 {
	return allWords(impl.Automaton(p), longest)
}

// allFillings returns all fillings of a partial automaton in their order, by FillGaps.
func allFillings(t *testing.T, p impl.Partial) []impl.Automaton {
	t.Helper()
	gaps, _ := impl.GapsOf(p)
	var out []impl.Automaton
	for _, states := range allLists(len(gaps), 0, p.States-1) {
		a, code := impl.FillGaps(p, states)
		if code != impl.OK {
			t.Fatalf("FillGaps(%v, %v): %d", p, states, code)
		}
		out = append(out, a)
	}
	return out
}

// fewFillings are partial automata of many kinds with so few fillings that all of them can be asked often.
func fewFillings() []impl.Partial {
	return slices.Concat(smallPartials(), randomPartials(150, 4, 6, 3), randomPartials(30, 7, 10, 2))
}

func TestPromise10ExampleOfChapter4(t *testing.T) {
	p, code := impl.ReadPartial(gapText)
	if code != impl.OK {
		t.Fatalf("ReadPartial: %d", code)
	}
	expect(t, "IsCareful", impl.IsCareful, []any{p, word("b")}, []any{true, impl.OK})
	expect(t, "CarefulWord", impl.CarefulWord, []any{p}, []any{word("b"), impl.OK})
}

func TestPromise10CarefulImages(t *testing.T) {
	p := partial(4, list(1, gap, 3, 0), list(0, 0, 2, gap))
	image := func(set []int64, text string, want []int64) {
		t.Helper()
		expect(t, "CarefulImage", impl.CarefulImage, []any{p, set, word(text)}, []any{want, impl.OK})
	}
	stuck := func(set []int64, text string) {
		t.Helper()
		expect(t, "CarefulImage", impl.CarefulImage, []any{p, set, word(text)}, []any{nil, impl.ErrState})
	}
	image(upTo(4), "-", upTo(4))
	image(list(0, 2, 3), "a", list(0, 1, 3))
	image(list(0, 1, 2), "b", list(0, 2))
	image(list(0, 1, 2), "ba", list(1, 3))
	image(list(1), "b", list(0))
	image(list(2), "aa", list(0))
	image(list(2, 3), "aab", list(0))
	// What could not be read before can be read here.
	image(list(0), "abababab", list(0))
	stuck(list(1), "a")
	stuck(list(3), "b")
	stuck(list(0), "aa")
	stuck(upTo(4), "a")
	stuck(upTo(4), "b")
	// Each of the others can read the letter, and all of them can read what follows.
	stuck(list(0, 1, 2), "a")
	stuck(list(0), "aabbb")
	stuck(list(0, 1, 2), "baab")
	stuck(list(2), "abaa")
	for _, set := range lists(list(1, 0), list(1, 1), list(-1), list(4), list(0, 4), upTo(5), list(math.MinInt64), list(0, math.MaxInt64)) {
		expect(t, "CarefulImage", impl.CarefulImage, []any{p, set, nil}, []any{nil, impl.ErrRange})
		expect(t, "CarefulImage", impl.CarefulImage, []any{p, set, word("a")}, []any{nil, impl.ErrRange})
	}
	for _, w := range lists(list(2), list(-1), list(0, 0, 2), list(math.MaxInt64), repeated(0, impl.MaxWord+1)) {
		expect(t, "CarefulImage", impl.CarefulImage, []any{p, list(1), w}, []any{nil, impl.ErrRange})
		expect(t, "CarefulImage", impl.CarefulImage, []any{p, nil, w}, []any{nil, impl.ErrRange})
	}
}

// TestPromise10EmptySets tells that every letter can be read where nothing is reached.
func TestPromise10EmptySets(t *testing.T) {
	for _, p := range append(validPartials(), partial(2, list(gap, gap))) {
		for _, set := range lists(nil, list()) {
			for _, w := range append(partialWords(p, 2), repeated(0, impl.MaxWord)) {
				expect(t, "CarefulImage", impl.CarefulImage, []any{p, set, w}, []any{nil, impl.OK})
			}
			expect(t, "CarefulImage", impl.CarefulImage, []any{p, set, repeated(0, impl.MaxWord+1)}, []any{nil, impl.ErrRange})
			expect(t, "CarefulImage", impl.CarefulImage, []any{p, set, list(int64(len(p.Next)))}, []any{nil, impl.ErrRange})
		}
	}
}

func TestPromise10CarefulWords(t *testing.T) {
	careful := func(p impl.Partial, w []int64, want bool) {
		t.Helper()
		expect(t, "IsCareful", impl.IsCareful, []any{p, w}, []any{want, impl.OK})
	}
	p := partial(3, list(1, 2, gap), list(0, 0, 2))
	careful(p, nil, false)
	careful(p, word("a"), false)
	careful(p, word("b"), false)
	careful(p, repeated(1, impl.MaxWord), false)
	q := partial(3, list(1, 1, gap), list(0, 1, 1))
	careful(q, word("b"), false)
	careful(q, word("ba"), true)
	careful(q, word("ab"), false)
	careful(q, word("bba"), true)
	careful(q, word("baaab"), true)
	careful(q, append(repeated(1, impl.MaxWord-1), 0), true)
	careful(q, append(repeated(0, impl.MaxWord-1), 0), false)
	// The word reaches one state, from which the letter cannot be read.
	r := partial(2, list(1, 1), list(0, gap))
	careful(r, word("a"), true)
	careful(r, word("ab"), false)
	careful(r, word("b"), false)
	for _, w := range lists(list(2), list(-1), list(1, 0, 2), list(math.MinInt64), list(math.MaxInt64, 0), repeated(1, impl.MaxWord+1)) {
		expect(t, "IsCareful", impl.IsCareful, []any{q, w}, []any{false, impl.ErrRange})
	}
}

// TestPromise10OneState tells that with one state every word is careful that can be read, the empty one too.
func TestPromise10OneState(t *testing.T) {
	for _, p := range allPartials(1, 3) {
		expect(t, "CarefulWord", impl.CarefulWord, []any{p}, []any{nil, impl.OK})
		expect(t, "FirstFilling", impl.FirstFilling, []any{p}, []any{auto(1, list(0), list(0), list(0)), impl.OK})
		expect(t, "SurestWord", impl.SurestWord, []any{p}, []any{nil, impl.OK})
		for _, w := range append(partialWords(p, 3), repeated(0, impl.MaxWord)) {
			canRead := !slices.ContainsFunc(w, func(letter int64) bool { return p.Next[letter][0] == gap })
			expect(t, "IsCareful", impl.IsCareful, []any{p, w}, []any{canRead, impl.OK})
		}
	}
}

func TestPromise10FirstCarefulWords(t *testing.T) {
	first := func(p impl.Partial, want string) {
		t.Helper()
		expect(t, "CarefulWord", impl.CarefulWord, []any{p}, []any{word(want), impl.OK})
	}
	// Of several words of one length, the first one.
	first(partial(2, list(0, 0), list(1, 1)), "a")
	first(partial(2, list(gap, 0), list(1, 1), list(0, 0)), "b")
	first(partial(3, list(1, 1, gap), list(0, 1, 1)), "ba")
	first(partial(3, list(0, 1, 1), list(1, 1, gap), list(0, 0, gap)), "ab")
	// A shorter word comes before one with lesser letters.
	first(partial(3, list(1, 2, 2), list(gap, 0, 0), list(0, 0, 0)), "c")
	first(partial(3, list(1, 2, 2), list(gap, 0, 0)), "aa")
	none := []impl.Partial{
		partial(2, list(1, gap)),
		partial(2, list(gap, gap), list(gap, gap)),
		partial(2, list(0, 1), list(gap, 0), list(1, gap)),
		partial(3, list(1, 0, 2), list(gap, 0, 0)),
		partial(3, list(1, 2, gap), list(0, 0, 2)),
		partial(10, append(upTo(10)[1:], gap), repeated(gap, 10)),
		partial(10, append(upTo(10)[1:], gap)),
		partial(10, repeated(gap, 10), repeated(gap, 10), repeated(gap, 10)),
	}
	for _, p := range none {
		expect(t, "CarefulWord", impl.CarefulWord, []any{p}, []any{nil, impl.ErrNotFound})
	}
	for i, p := range longWordPartials() {
		named("CarefulWord").compare(t, p)
		w, code := impl.CarefulWord(p)
		if len(w) != []int{94, 127}[i] || code != impl.OK {
			t.Errorf("CarefulWord(%v): %d letters, %d", p, len(w), code)
		}
	}
	for _, p := range slices.Concat(smallPartials(), randomPartials(300, 4, 8, 4), randomPartials(100, 9, 10, 3)) {
		named("CarefulWord").compare(t, p)
	}
}

// TestPromise10ShortWords goes through all short words: the first one that is careful is CarefulWord, and each of them resets every filling.
func TestPromise10ShortWords(t *testing.T) {
	t.Parallel()
	carefuls, others := 0, 0
	for _, p := range fewFillings() {
		all := allFillings(t, p)
		known := false
		for _, w := range partialWords(p, 4) {
			named("IsCareful").compare(t, p, w)
			named("CarefulImage").compare(t, p, upTo(p.States), w)
			if careful, _ := impl.IsCareful(p, w); !careful {
				continue
			}
			if !known {
				expect(t, "CarefulWord", impl.CarefulWord, []any{p}, []any{w, impl.OK})
				known = true
			}
			carefuls++
			for _, a := range all {
				if yes, code := impl.IsReset(a, w); !yes || code != impl.OK {
					t.Errorf("%v: the word %v is careful, but does not reset the filling %v", p, w, a)
				}
			}
		}
		if w, code := impl.CarefulWord(p); !known && code == impl.OK {
			others++
			if len(w) <= 4 {
				t.Errorf("CarefulWord(%v): got %v, which is not careful", p, w)
			}
		}
	}
	if carefuls < 1000 || others < 10 {
		t.Errorf("only %d short careful words, and %d long ones", carefuls, others)
	}
}

// TestPromise10NotOnlyCarefulWords tells that a word which resets every filling may not be careful.
func TestPromise10NotOnlyCarefulWords(t *testing.T) {
	p := gapExample()
	for _, a := range allFillings(t, p) {
		expect(t, "IsReset", impl.IsReset, []any{a, word("ab")}, []any{true, impl.OK})
	}
	expect(t, "IsCareful", impl.IsCareful, []any{p, word("ab")}, []any{false, impl.OK})
}

// TestPromise10WithoutGaps tells that the careful words of an automaton without gaps are its reset words.
func TestPromise10WithoutGaps(t *testing.T) {
	t.Parallel()
	for _, a := range variedAutomata() {
		p := impl.Partial(a)
		shortest, code := impl.ShortestReset(a)
		expect(t, "CarefulWord", impl.CarefulWord, []any{p}, []any{shortest, code})
		expect(t, "SurestWord", impl.SurestWord, []any{p}, []any{shortest, code})
		filling := impl.Automaton{}
		if code == impl.OK {
			filling = a
		}
		expect(t, "FirstFilling", impl.FirstFilling, []any{p}, []any{filling, code})
		for _, w := range append(allWords(a, 3), shortest) {
			resets, code := impl.IsReset(a, w)
			expect(t, "IsCareful", impl.IsCareful, []any{p, w}, []any{resets, code})
			image, code := impl.ImageOf(a, upTo(a.States), w)
			expect(t, "CarefulImage", impl.CarefulImage, []any{p, upTo(a.States), w}, []any{image, code})
		}
	}
}

// TestPromise10ImagesOfManyPartials compares careful images with their models, for all sets of small partial automata and for long words.
func TestPromise10ImagesOfManyPartials(t *testing.T) {
	t.Parallel()
	source := rand.New(rand.NewSource(10))
	for _, p := range append(smallPartials(), randomPartials(100, 4, 10, 6)...) {
		for range 6 {
			w := make([]int64, source.Intn(8))
			if source.Intn(4) == 0 {
				w = make([]int64, source.Intn(impl.MaxWord+1))
			}
			for i := range w {
				w[i] = source.Int63n(int64(len(p.Next)))
			}
			sets := subsets(p.States)
			for range 4 {
				named("CarefulImage").compare(t, p, sets[source.Intn(len(sets))], w)
			}
		}
	}
}

func TestPromise10Traps(t *testing.T) {
	trap := func(p impl.Partial, want impl.Automaton) {
		t.Helper()
		expect(t, "TrapCompletion", impl.TrapCompletion, []any{p}, []any{want, impl.OK})
	}
	trap(gapExample(), auto(3, list(1, 2, 2), list(0, 0, 2)))
	trap(partial(1, list(0)), auto(2, list(0, 1)))
	trap(partial(1, list(gap), list(0)), auto(2, list(1, 1), list(0, 1)))
	trap(partial(3, list(1, 2, 0)), auto(4, list(1, 2, 0, 3)))
	trap(partial(2, list(gap, gap), list(gap, gap), list(gap, gap)), auto(3, list(2, 2, 2), list(2, 2, 2), list(2, 2, 2)))
	trap(partial(9, repeated(gap, 9), upTo(9)), auto(10, repeated(9, 10), upTo(10)))
	for _, p := range []impl.Partial{
		partial(10, upTo(10)),
		partial(10, repeated(gap, 10)),
		partial(10, upTo(10), repeated(gap, 10), repeated(3, 10)),
	} {
		expect(t, "TrapCompletion", impl.TrapCompletion, []any{p}, []any{impl.Automaton{}, impl.ErrLimit})
	}
	for _, p := range slices.Concat(smallPartials(), randomPartials(100, 3, 10, 8)) {
		named("TrapCompletion").compare(t, p)
	}
}

// TestPromise10WordsIntoTraps tells that a word leads into the trap just if it cannot be read, and otherwise to the careful image.
func TestPromise10WordsIntoTraps(t *testing.T) {
	for _, p := range append(smallPartials(), randomPartials(100, 4, 9, 5)...) {
		a, code := impl.TrapCompletion(p)
		if code != impl.OK {
			t.Fatalf("TrapCompletion(%v): %d", p, code)
		}
		for _, w := range partialWords(p, 3) {
			image, code := impl.CarefulImage(p, upTo(p.States), w)
			led, _ := impl.ImageOf(a, upTo(p.States), w)
			if trapped := slices.Contains(led, p.States); trapped != (code == impl.ErrState) || !trapped && !slices.Equal(led, image) {
				t.Errorf("%v, %v: the careful image is %v %d, with a trap %v", p, w, image, code, led)
			}
		}
	}
}

func TestPromise10FirstFillings(t *testing.T) {
	first := func(p impl.Partial, want impl.Automaton) {
		t.Helper()
		expect(t, "FirstFilling", impl.FirstFilling, []any{p}, []any{want, impl.OK})
	}
	first(gapExample(), auto(2, list(1, 0), list(0, 0)))
	first(partial(2, list(1, gap)), auto(2, list(1, 1)))
	first(partial(2, list(gap, 1)), auto(2, list(1, 1)))
	first(partial(2, list(gap, gap)), auto(2, list(0, 0)))
	first(partial(3, list(gap, 0, gap)), auto(3, list(0, 0, 0)))
	first(partial(3, list(gap, 2, 1), list(0, 1, gap)), auto(3, list(0, 2, 1), list(0, 1, 0)))
	first(partial(3, list(gap, 2, gap)), auto(3, list(0, 2, 0)))
	first(partial(3, list(1, gap, 2)), auto(3, list(1, 2, 2)))
	// The first gap has to lead to another state than 0; the last one goes on from 0 again.
	first(partial(3, list(1, gap, gap)), auto(3, list(1, 1, 0)))
	none := []impl.Partial{
		partial(2, list(0, 1)),
		partial(3, list(0, 1, gap)),
		partial(4, list(1, 0, gap, gap), list(0, 1, 2, gap)),
		partial(10, append(list(0, 1, gap, gap, gap), upTo(10)[5:]...)),
	}
	for _, p := range none {
		expect(t, "FirstFilling", impl.FirstFilling, []any{p}, []any{impl.Automaton{}, impl.ErrNotFound})
		expect(t, "SurestWord", impl.SurestWord, []any{p}, []any{nil, impl.ErrNotFound})
	}
}

// TestPromise10FillingsInOrder looks at all fillings: FirstFilling is the first one that can be reset.
func TestPromise10FillingsInOrder(t *testing.T) {
	t.Parallel()
	later := 0
	for _, p := range append(fewFillings(), gapsWithLoops()...) {
		want, code := impl.Automaton{}, int64(impl.ErrNotFound)
		for i, a := range allFillings(t, p) {
			if can, _ := impl.CanReset(a); can {
				want, code = a, impl.OK
				if i > 0 {
					later++
				}
				break
			}
		}
		expect(t, "FirstFilling", impl.FirstFilling, []any{p}, []any{want, code})
	}
	if later < 100 {
		t.Errorf("only %d of these first fillings are not the first one of all", later)
	}
}

// gapsWithLoops are partial automata most of whose letters lead a state to itself, so that many fillings have no reset word.
func gapsWithLoops() []impl.Partial {
	var out []impl.Partial
	for i, p := range randomPartials(200, 3, 5, 4) {
		for letter, next := range p.Next {
			for s := range next {
				if next[s] != gap && (s*5+i+letter)%4 > 0 {
					next[s] = int64(s)
				}
			}
		}
		out = append(out, p)
	}
	return out
}

func TestPromise10SurestWords(t *testing.T) {
	t.Parallel()
	surest := func(p impl.Partial, want string) {
		t.Helper()
		expect(t, "SurestWord", impl.SurestWord, []any{p}, []any{word(want), impl.OK})
	}
	surest(gapExample(), "b")
	surest(partial(2, list(1, gap)), "a")
	// Two of the fillings are reset by "a", the others have no reset word.
	surest(partial(2, list(gap, gap)), "a")
	// One filling has the first word "a", which resets only this one, and the other one "b", which resets both.
	surest(partial(2, list(1, gap), list(1, 1)), "b")
	// Both "a" and "b" reset two fillings; the first filling has the first word "b".
	surest(partial(2, list(1, gap), list(gap, 0)), "a")
	// Both "bb" and "baab" reset six fillings, no other word more.
	surest(partial(3, list(gap, 0, 1), list(gap, 1, 1)), "bb")
	// The words "aa", "aba", "bab" and "bb" reset three fillings each.
	surest(partial(3, list(gap, 0, 1), list(0, 2, gap)), "aa")
	// Both "bab" and "baab" reset 21 of the 27 fillings, "a" only three.
	surest(partial(3, list(gap, gap, 0), list(2, 2, gap)), "bab")
	seen := map[bool]int{}
	for _, p := range append(fewFillings(), gapsWithLoops()...) {
		named("SurestWord").compare(t, p)
		surest, code := impl.SurestWord(p)
		first, codeOfFirst := impl.FirstFilling(p)
		if code != codeOfFirst {
			t.Errorf("%v: SurestWord returns %d, FirstFilling %d", p, code, codeOfFirst)
		}
		shortest, _ := impl.ShortestReset(first)
		seen[slices.Equal(surest, shortest)]++
	}
	if seen[false] < 50 {
		t.Errorf("only %d of these words are not those of the first filling", seen[false])
	}
}

// TestPromise10FillingLimit has 4096 fillings, and 6561 and more: no number of states has a power between.
func TestPromise10FillingLimit(t *testing.T) {
	t.Parallel()
	within := []impl.Partial{
		partial(4, list(gap, gap, gap, gap), list(gap, gap, 2, 3)),
		partial(8, append(repeated(gap, 4), 3, 4, 5, 6)),
		partial(3, list(0, 2, gap), list(gap, gap, gap), list(gap, gap, gap)),
		partial(10, append(upTo(10)[1:], gap), append(list(gap, gap), upTo(10)[2:]...)),
		partial(1, list(gap), list(gap), list(gap)),
		partial(2, list(gap, gap), list(gap, gap), list(gap, gap)),
		// No filling of this one has a reset word.
		partial(8, list(0, 1, gap, gap, gap, gap, 6, 7)),
	}
	for _, p := range within {
		named("FirstFilling").compare(t, p)
		named("SurestWord").compare(t, p)
	}
	beyond := []impl.Partial{
		partial(3, list(gap, gap, gap), list(gap, gap, gap), list(gap, gap, 0)),
		partial(9, append(repeated(gap, 4), repeated(0, 5)...)),
		partial(6, append(repeated(gap, 5), 0)),
		partial(10, repeated(gap, 10)),
		partial(4, repeated(gap, 4), repeated(gap, 4), repeated(gap, 4)),
		partial(10, repeated(gap, 10), repeated(gap, 10), repeated(gap, 10)),
		// The number of these fillings has 73 bits, of which the lowest 64 are 0.
		partial(8, repeated(gap, 8), repeated(gap, 8), repeated(gap, 8)),
		// No filling of these has a reset word, but this is not looked at.
		partial(9, append(list(0, 1), repeated(gap, 7)...)),
		partial(10, append(list(0, 1), repeated(gap, 8)...), append(list(0, 1), repeated(gap, 8)...)),
	}
	for _, p := range beyond {
		expect(t, "FirstFilling", impl.FirstFilling, []any{p}, []any{impl.Automaton{}, impl.ErrLimit})
		expect(t, "SurestWord", impl.SurestWord, []any{p}, []any{nil, impl.ErrLimit})
	}
}
