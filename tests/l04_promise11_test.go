package tests

import (
	"math"
	"math/rand"
	"slices"
	"testing"

	"loop.example/g01102/impl"
)

// kinds are the ways to direct.
func kinds() []int64 { return list(impl.DirSame, impl.DirEqual, impl.DirMeet) }

// choiceWords returns all words of at most so many letters for an automaton with choices, in order.
func choiceWords(c impl.Choice, longest int) [][]int64 {
	return allWords(impl.Automaton{Next: make([][]int64, len(c.Next))}, longest)
}

// manyChoices are automata with choices of many kinds.
func manyChoices() []impl.Choice {
	return slices.Concat(validChoices(), smallChoices(), randomChoices(300, 2, 5), randomChoices(60, 6, 10))
}

func TestPromise11ExampleOfChapter4(t *testing.T) {
	p, _ := impl.ReadPartial(gapText)
	c, code := impl.ChoiceOf(p)
	if code != impl.OK {
		t.Fatalf("ChoiceOf: %d", code)
	}
	for _, kind := range kinds() {
		expect(t, "Directs", impl.Directs, []any{c, word("a"), kind}, []any{false, impl.OK})
		expect(t, "Directs", impl.Directs, []any{c, word("b"), kind}, []any{true, impl.OK})
	}
}

func TestPromise11Total(t *testing.T) {
	total := func(c impl.Choice, want bool) {
		t.Helper()
		expect(t, "IsTotal", impl.IsTotal, []any{c}, []any{want, impl.OK})
	}
	total(choiceExample(), true)
	total(choice(1, only(0)), true)
	total(choice(1, only(gap)), false)
	total(choice(2, only(0, 1), only(gap, 0)), false)
	total(choice(2, only(0, gap), only(1, 0)), false)
	total(choice(3, only(0, 1, 2), only(0, 1, 2), only(0, 1, gap)), false)
	total(choice(2, lists(list(0, 1), list(0)), lists(list(1), list(0, 1))), true)
	for _, c := range manyChoices() {
		named("IsTotal").compare(t, c)
	}
}

func TestPromise11ReachedSets(t *testing.T) {
	c := choice(4, lists(list(1, 2), list(0), nil, list(0, 1, 2, 3)), lists(nil, list(3), list(2), nil))
	reach := func(set []int64, text string, want []int64) {
		t.Helper()
		expect(t, "ReachBy", impl.ReachBy, []any{c, set, word(text)}, []any{want, impl.OK})
	}
	reach(upTo(4), "-", upTo(4))
	reach(list(1, 3), "-", list(1, 3))
	reach(list(0), "a", list(1, 2))
	reach(list(0), "ab", list(2, 3))
	reach(list(0), "aa", list(0))
	reach(list(0), "aba", upTo(4))
	reach(list(1, 2), "a", list(0))
	reach(upTo(4), "a", upTo(4))
	reach(upTo(4), "b", list(2, 3))
	// Where a letter cannot be read, there is just nothing that is reached from there.
	reach(list(2), "a", nil)
	reach(list(2), "ab", nil)
	reach(list(0, 3), "b", nil)
	reach(list(0, 3), "baab", nil)
	reach(list(2, 3), "a", upTo(4))
	reach(nil, "-", nil)
	reach(nil, "ab", nil)
	reach(list(), "b", nil)
	expect(t, "ReachBy", impl.ReachBy, []any{c, list(3), repeated(0, impl.MaxWord)}, []any{upTo(4), impl.OK})
	expect(t, "ReachBy", impl.ReachBy, []any{c, list(2), repeated(1, impl.MaxWord)}, []any{list(2), impl.OK})
	for _, set := range lists(list(1, 0), list(1, 1), list(-1), list(4), list(0, 4), upTo(5), list(math.MinInt64), list(0, math.MaxInt64)) {
		expect(t, "ReachBy", impl.ReachBy, []any{c, set, nil}, []any{nil, impl.ErrRange})
		expect(t, "ReachBy", impl.ReachBy, []any{c, set, word("a")}, []any{nil, impl.ErrRange})
	}
	for _, w := range lists(list(2), list(-1), list(0, 0, 2), list(math.MaxInt64), repeated(1, impl.MaxWord+1)) {
		expect(t, "ReachBy", impl.ReachBy, []any{c, list(0), w}, []any{nil, impl.ErrRange})
		expect(t, "ReachBy", impl.ReachBy, []any{c, nil, w}, []any{nil, impl.ErrRange})
	}
}

// TestPromise11ReachOfManyChoices compares reached sets with their models, and with what the parts of sets and of words reach.
func TestPromise11ReachOfManyChoices(t *testing.T) {
	t.Parallel()
	source := rand.New(rand.NewSource(12))
	for _, c := range manyChoices() {
		sets := subsets(c.States)
		for range 5 {
			set := sets[source.Intn(len(sets))]
			w := make([]int64, source.Intn(9))
			if source.Intn(5) == 0 {
				w = make([]int64, source.Intn(impl.MaxWord+1))
			}
			for i := range w {
				w[i] = source.Int63n(int64(len(c.Next)))
			}
			named("ReachBy").compare(t, c, set, w)
			whole, _ := impl.ReachBy(c, set, w)
			var union []int64
			for _, s := range set {
				part, _ := impl.ReachBy(c, list(s), w)
				union = append(union, part...)
			}
			slices.Sort(union)
			cut := source.Intn(len(w) + 1)
			half, _ := impl.ReachBy(c, set, w[:cut])
			both, _ := impl.ReachBy(c, half, w[cut:])
			if !slices.Equal(whole, slices.Compact(union)) || !slices.Equal(whole, both) {
				t.Errorf("ReachBy(%v, %v, %v): got %v, by its states %v, by parts of the word %v", c, set, w, whole, union, both)
			}
		}
	}
}

func TestPromise11Directs(t *testing.T) {
	directs := func(c impl.Choice, w []int64, same, equal, meet bool) {
		t.Helper()
		expect(t, "Directs", impl.Directs, []any{c, w, impl.DirSame}, []any{same, impl.OK})
		expect(t, "Directs", impl.Directs, []any{c, w, impl.DirEqual}, []any{equal, impl.OK})
		expect(t, "Directs", impl.Directs, []any{c, w, impl.DirMeet}, []any{meet, impl.OK})
	}
	directs(choiceExample(), nil, false, false, false)
	directs(choiceExample(), word("a"), false, false, true)
	directs(choiceExample(), word("b"), false, true, true)
	directs(choice(2, only(1, 1)), word("a"), true, true, true)
	directs(choice(2, only(1, 0)), word("a"), false, false, false)
	// Nothing can be reached from any state: these sets are equal, but have no common state.
	directs(choice(2, only(gap, gap)), word("a"), false, true, false)
	directs(choice(3, lists(list(1), list(2), nil)), word("aaa"), false, true, false)
	directs(choice(10, make([][]int64, 10)), repeated(0, impl.MaxWord), false, true, false)
	directs(choice(1, only(gap)), word("a"), false, true, false)
	// Nothing can be reached from one state only, the first one, one between or the last one.
	directs(choice(3, only(gap, 1, 1)), word("a"), false, false, false)
	directs(choice(3, only(1, gap, 1)), word("a"), false, false, false)
	directs(choice(3, only(1, 1, gap)), word("a"), false, false, false)
	// One state can be reached from each state, but not alone.
	directs(choice(3, lists(list(0, 1), list(1, 2), list(1))), word("a"), false, false, true)
	directs(choice(3, lists(list(1), list(1), list(1, 2))), word("a"), false, false, true)
	// Each two states have a common one, but all three have none.
	directs(choice(3, lists(list(0, 1), list(1, 2), list(0, 2))), word("a"), false, false, false)
	directs(choice(3, lists(list(0, 2), list(0, 2), list(0, 2))), word("a"), false, true, true)
	// Only the last state can be reached by all.
	directs(choice(10, slices.Repeat(lists(list(9)), 10)), word("a"), true, true, true)
	directs(choice(10, slices.Repeat(lists(upTo(10)), 10)), repeated(0, impl.MaxWord), false, true, true)
	directs(choice(10, append(slices.Repeat(lists(list(0, 9)), 9), list(9))), word("a"), false, false, true)
	for letters := range impl.MaxLetters {
		one := choice(1, slices.Repeat([][][]int64{only(0)}, letters+1)...)
		directs(one, nil, true, true, true)
		directs(one, repeated(int64(letters), impl.MaxWord), true, true, true)
	}
}

func TestPromise11WrongKindsAndWords(t *testing.T) {
	c := choiceExample()
	for _, kind := range list(0, -1, 4, 5, 256+1, 1<<32+1, math.MinInt64, math.MaxInt64) {
		expect(t, "Directs", impl.Directs, []any{c, word("b"), kind}, []any{false, impl.ErrRange})
		expect(t, "DirectingWord", impl.DirectingWord, []any{c, kind}, []any{nil, impl.ErrRange})
		expect(t, "DirectingWord", impl.DirectingWord, []any{choice(1, only(0)), kind}, []any{nil, impl.ErrRange})
	}
	for _, kind := range kinds() {
		for _, w := range lists(list(2), list(-1), list(1, 0, 2), list(math.MaxInt64), repeated(1, impl.MaxWord+1)) {
			expect(t, "Directs", impl.Directs, []any{c, w, kind}, []any{false, impl.ErrRange})
		}
	}
}

func TestPromise11FirstDirectingWords(t *testing.T) {
	first := func(c impl.Choice, kind int64, want string) {
		t.Helper()
		expect(t, "DirectingWord", impl.DirectingWord, []any{c, kind}, []any{word(want), impl.OK})
	}
	none := func(c impl.Choice, kind int64) {
		t.Helper()
		expect(t, "DirectingWord", impl.DirectingWord, []any{c, kind}, []any{nil, impl.ErrNotFound})
	}
	none(choiceExample(), impl.DirSame)
	first(choiceExample(), impl.DirEqual, "b")
	first(choiceExample(), impl.DirMeet, "a")
	// The first list may direct.
	for _, kind := range kinds() {
		first(choice(1, only(0)), kind, "-")
		first(choice(1, only(gap), only(gap)), kind, "-")
	}
	// By "a", nothing can be reached from any state.
	nothing := choice(2, only(gap, gap), lists(list(1), list(0, 1)), only(0, 0))
	first(nothing, impl.DirSame, "c")
	first(nothing, impl.DirEqual, "a")
	first(nothing, impl.DirMeet, "b")
	none(choice(2, only(gap, gap)), impl.DirSame)
	first(choice(2, only(gap, gap)), impl.DirEqual, "a")
	none(choice(2, only(gap, gap)), impl.DirMeet)
	first(choice(3, lists(list(1), list(2), nil)), impl.DirEqual, "aaa")
	none(choice(3, lists(list(1), list(2), nil)), impl.DirMeet)
	none(choice(3, lists(list(1), list(2), nil)), impl.DirSame)
	// Of several words of one length, the first one; a shorter word comes before one with lesser letters.
	first(choice(2, only(0, 0), only(1, 1)), impl.DirSame, "a")
	first(choice(3, only(1, 2, 2), only(0, 0, 0)), impl.DirSame, "b")
	first(choice(3, only(1, 1, gap), only(0, 1, 1)), impl.DirSame, "ba")
	first(choice(3, only(0, 1, 1), only(0, 0, 2)), impl.DirSame, "ab")
	around := choice(10, only(append(upTo(10)[1:], 0)...))
	for _, kind := range kinds() {
		none(around, kind)
	}
	// A second next state spreads from state to state.
	spread := choice(4, lists(list(1), list(2), list(3), list(0, 1)))
	none(spread, impl.DirSame)
	for _, kind := range list(impl.DirEqual, impl.DirMeet) {
		named("DirectingWord").compare(t, spread, kind)
	}
}

// TestPromise11ShortWords goes through all short words of automata with choices: what Directs tells is what the reached sets tell, and the first word that directs is DirectingWord.
func TestPromise11ShortWords(t *testing.T) {
	t.Parallel()
	longer, short := 0, 0
	for _, c := range manyChoices() {
		words := choiceWords(c, 3)
		for _, kind := range kinds() {
			known := false
			for _, w := range words {
				named("Directs").compare(t, c, w, kind)
				if yes, _ := impl.Directs(c, w, kind); yes && !known {
					known = true
					short++
					expect(t, "DirectingWord", impl.DirectingWord, []any{c, kind}, []any{w, impl.OK})
				}
			}
			w, code := impl.DirectingWord(c, kind)
			if known || code != impl.OK {
				continue
			}
			longer++
			if yes, _ := impl.Directs(c, w, kind); !yes || len(w) <= 3 {
				t.Errorf("DirectingWord(%v, %d): got %v", c, kind, w)
			}
		}
	}
	if short < 500 || longer < 50 {
		t.Errorf("only %d short words direct first, and %d longer ones", short, longer)
	}
}

// TestPromise11DirectingWordsOfManyChoices compares first directing words with their models, the errors among them.
func TestPromise11DirectingWordsOfManyChoices(t *testing.T) {
	t.Parallel()
	seen := map[string]int{}
	for _, c := range append(manyChoices(), fullTuples(), overTuples()) {
		for _, kind := range kinds() {
			named("DirectingWord").compare(t, c, kind)
			_, code := impl.DirectingWord(c, kind)
			seen[impl.CodeName(code)]++
		}
	}
	if seen["ok"] < 100 || seen["notfound"] < 100 || seen["limit"] < 3 {
		t.Errorf("there are too few of some codes: %v", seen)
	}
}

// TestPromise11TupleLimit reaches MaxTuples lists, and passes it by one: with no list that directs, and with one that is found as the last one that may be, or behind it.
func TestPromise11TupleLimit(t *testing.T) {
	t.Parallel()
	for _, kind := range kinds() {
		expect(t, "DirectingWord", impl.DirectingWord, []any{fullTuples(), kind}, []any{nil, impl.ErrNotFound})
		expect(t, "DirectingWord", impl.DirectingWord, []any{overTuples(), kind}, []any{nil, impl.ErrLimit})
	}
	cases := []struct {
		kind   int64
		place  int
		text   string
		length int
	}{
		{impl.DirSame, 2000, "choice 5 3\nletter 0 4 0 3 1\nletter 3 0 4 2 1\nletter 1 2 0 4 3\n", 9},
		{impl.DirEqual, 2000, "choice 4 3\nletter 3 1,2 0 2\nletter 0 2 3 1\nletter 0 2 1 3\n", 9},
		{impl.DirMeet, 2000, "choice 5 3\nletter 2 3,4 0 4 3\nletter 1 2 3 4 0\nletter 0 3 4 1 .\n", 8},
		// Before these lists, no more than MaxTuples are found.
		{impl.DirSame, 2001, "choice 5 3\nletter 4 1 3 0 2\nletter 4 3 2 4 1\nletter 4 3 1 . 0\n", 8},
		{impl.DirEqual, 2001, "choice 5 2\nletter 4 1 2 0 3,4\nletter 3 2 0 1 4\n", 12},
		{impl.DirMeet, 2001, "choice 5 3\nletter 4 0 2 1 3\nletter 0 0 4 2 3\nletter . 4 2 4 0\n", 9},
		{impl.DirSame, 2002, "choice 5 3\nletter 2 4 0 1 4\nletter 2 3 0 4 1\nletter 2 0 4 1 .\n", 0},
		{impl.DirEqual, 2002, "choice 5 3\nletter 4 3 0 2 1,2\nletter 0 4 2 . 3\nletter 4 0 2,4 1 3\n", 0},
		{impl.DirMeet, 2002, "choice 5 3\nletter 2 4 0 1 4\nletter 2 3 0 4 1\nletter 2 0 4 1 .\n", 0},
	}
	for _, each := range cases {
		c := readChoice(each.text)
		named("DirectingWord").compare(t, c, each.kind)
		w, code := impl.DirectingWord(c, each.kind)
		if each.place > impl.MaxTuples+1 {
			if code != impl.ErrLimit {
				t.Errorf("DirectingWord(%q, %d): got %v %d behind the limit", each.text, each.kind, w, code)
			}
			continue
		}
		if code != impl.OK || len(w) != each.length || placeOf(c, w) != each.place {
			t.Errorf("DirectingWord(%q, %d): got %v %d, found at %d", each.text, each.kind, w, code, placeOf(c, w))
		}
	}
}

// placeOf tells as which list, from 1 on, that of a word is found.
func placeOf(c impl.Choice, last []int64) int {
	known := map[string]bool{}
	for words := lists(nil); len(words) > 0; {
		var longer [][]int64
		for _, w := range words {
			key := wanted(modelReaches(c, w))
			if known[key] {
				continue
			}
			known[key] = true
			if slices.Equal(w, last) {
				return len(known)
			}
			for letter := range c.Next {
				longer = append(longer, append(slices.Clone(w), int64(letter)))
			}
		}
		words = longer
	}
	return 0
}

// TestPromise11SameDirectsInAllWays tells that a word which directs in the way DirSame directs in the other two ways, and that in a total automaton one that directs in the way DirEqual also directs in the way DirMeet.
func TestPromise11SameDirectsInAllWays(t *testing.T) {
	t.Parallel()
	same := 0
	for _, c := range manyChoices() {
		total, _ := impl.IsTotal(c)
		for _, w := range choiceWords(c, 3) {
			var ways [4]bool
			for _, kind := range kinds() {
				ways[kind], _ = impl.Directs(c, w, kind)
			}
			if ways[impl.DirSame] {
				same++
				if !ways[impl.DirEqual] || !ways[impl.DirMeet] {
					t.Errorf("%v: the word %v directs like this: %v", c, w, ways)
				}
			}
			if total && ways[impl.DirEqual] && !ways[impl.DirMeet] {
				t.Errorf("%v: the word %v directs like this: %v", c, w, ways)
			}
		}
	}
	if same < 500 {
		t.Errorf("only %d words direct in the way DirSame", same)
	}
}

// TestPromise11CarefulWordsDirect tells that the careful words of a partial automaton are those that direct in the way DirSame for its ChoiceOf.
func TestPromise11CarefulWordsDirect(t *testing.T) {
	t.Parallel()
	careful := 0
	for _, p := range slices.Concat(validPartials(), smallPartials(), randomPartials(200, 4, 7, 6)) {
		c, _ := impl.ChoiceOf(p)
		for _, w := range partialWords(p, 4) {
			yes, code := impl.IsCareful(p, w)
			expect(t, "Directs", impl.Directs, []any{c, w, impl.DirSame}, []any{yes, code})
			if yes {
				careful++
			}
		}
		first, code := impl.DirectingWord(c, impl.DirSame)
		if code != impl.ErrLimit {
			expect(t, "CarefulWord", impl.CarefulWord, []any{p}, []any{first, code})
		}
	}
	if careful < 1000 {
		t.Errorf("only %d words are careful", careful)
	}
}

func TestPromise11Refinements(t *testing.T) {
	refines := func(c, d impl.Choice, want bool) {
		t.Helper()
		expect(t, "RefineChoice", impl.RefineChoice, []any{c, d}, []any{want, impl.OK})
	}
	for _, c := range validChoices() {
		refines(c, c, true)
	}
	c := choiceExample()
	part := choice(2, lists(list(1), list(1)), lists(list(0, 1), list(0)))
	empty := choice(2, only(gap, gap), only(gap, gap))
	refines(part, c, true)
	refines(c, part, false)
	refines(empty, c, true)
	refines(empty, empty, true)
	refines(c, empty, false)
	refines(part, empty, false)
	// One set is no part: that of the first or the last letter and state, or one that is no part either way.
	refines(choice(2, lists(list(0, 1), list(1)), lists(nil, nil)), choice(2, lists(list(1), list(0, 1)), lists(list(0, 1), list(0, 1))), false)
	refines(c, choice(2, lists(list(0, 1), list(0, 1)), lists(list(0, 1), list(1))), false)
	refines(c, choice(2, lists(list(0, 1), list(0)), lists(list(0, 1), list(0, 1))), false)
	refines(choice(2, lists(list(0, 1), list(0)), lists(list(0, 1), list(0, 1))), c, false)
	refines(choice(2, only(0, 1)), choice(2, only(1, 0)), false)
	full := choice(10, slices.Repeat(lists(upTo(10)), 10))
	refines(choice(10, only(9, 8, 7, 6, 5, 4, 3, 2, 1, 0)), full, true)
	refines(full, choice(10, append(slices.Repeat(lists(upTo(10)), 9), upTo(9))), false)
	for _, other := range []impl.Choice{
		choice(2, c.Next[0]),
		choice(2, c.Next[0], c.Next[1], c.Next[0]),
		choice(1, only(0), only(0)),
		choice(3, append(slices.Clone(c.Next[0]), nil), append(slices.Clone(c.Next[1]), nil)),
	} {
		expect(t, "RefineChoice", impl.RefineChoice, []any{c, other}, []any{false, impl.ErrRange})
		expect(t, "RefineChoice", impl.RefineChoice, []any{other, c}, []any{false, impl.ErrRange})
	}
	for _, c := range append(allChoices(2, 1), allChoices(1, 2)...) {
		for _, d := range append(allChoices(2, 1), allChoices(1, 2)...) {
			named("RefineChoice").compare(t, c, d)
		}
	}
}

// TestPromise11FewerChoicesReachFewerStates leaves out some next states: what is reached then is a part of what was reached before.
func TestPromise11FewerChoicesReachFewerStates(t *testing.T) {
	t.Parallel()
	source := rand.New(rand.NewSource(13))
	less := 0
	for _, d := range append(randomChoices(200, 2, 6), validChoices()...) {
		c := choice(d.States)
		for _, next := range d.Next {
			var fewer [][]int64
			for _, set := range next {
				fewer = append(fewer, slices.DeleteFunc(slices.Clone(set), func(int64) bool { return source.Intn(4) == 0 }))
			}
			c.Next = append(c.Next, fewer)
		}
		expect(t, "RefineChoice", impl.RefineChoice, []any{c, d}, []any{true, impl.OK})
		expect(t, "RefineChoice", impl.RefineChoice, []any{d, c}, []any{impl.SameChoice(c, d), impl.OK})
		for _, w := range choiceWords(c, 3) {
			for s := range c.States {
				few, _ := impl.ReachBy(c, list(s), w)
				many, _ := impl.ReachBy(d, list(s), w)
				for _, r := range few {
					if !slices.Contains(many, r) {
						t.Errorf("by %v from %d, %v reaches %v, but %v reaches %v", w, s, c, few, d, many)
					}
				}
				if len(few) < len(many) {
					less++
				}
			}
		}
	}
	if less < 1000 {
		t.Errorf("only %d words reach fewer states", less)
	}
}
