package tests

import (
	"math"
	"math/rand"
	"strings"
	"testing"

	"loop.example/g01102/impl"
)

// allLists returns all lists of so many numbers from least to most, in lexicographic order.
func allLists(length int, least, most int64) [][]int64 {
	out := lists(nil)
	for range length {
		var longer [][]int64
		for _, begun := range out {
			for n := least; n <= most; n++ {
				longer = append(longer, append(append([]int64{}, begun...), n))
			}
		}
		out = longer
	}
	return out
}

// allAutomata returns all automata with so many states and letters.
func allAutomata(states int64, letters int) []impl.Automaton {
	out := []impl.Automaton{{States: states}}
	for range letters {
		var more []impl.Automaton
		for _, a := range out {
			for _, next := range allLists(int(states), 0, states-1) {
				more = append(more, auto(states, append(append([][]int64{}, a.Next...), next)...))
			}
		}
		out = more
	}
	return out
}

// smallAutomata returns all automata with up to three states and two letters.
func smallAutomata() []impl.Automaton {
	var out []impl.Automaton
	for states := range int64(3) {
		for letters := range 2 {
			out = append(out, allAutomata(states+1, letters+1)...)
		}
	}
	return out
}

// randomAutomata returns automata with many and few states, always the same ones.
func randomAutomata(count int, least, most int64) []impl.Automaton {
	source := rand.New(rand.NewSource(2026))
	var out []impl.Automaton
	for range count {
		states := least + source.Int63n(most-least+1)
		a := auto(states)
		for range 1 + source.Intn(3) {
			next := make([]int64, states)
			for s := range next {
				next[s] = source.Int63n(states)
			}
			a.Next = append(a.Next, next)
		}
		out = append(out, a)
	}
	return out
}

func TestPromise2CodeNames(t *testing.T) {
	names := []string{"ok", "invalid", "range", "limit", "state", "syntax", "notfound", "budget", "proof"}
	codes := list(impl.OK, impl.ErrInvalid, impl.ErrRange, impl.ErrLimit, impl.ErrState, impl.ErrSyntax, impl.ErrNotFound, impl.ErrBudget, impl.ErrProof)
	for code, name := range names {
		expect(t, "CodeName", impl.CodeName, []any{code}, []any{name})
		if codes[code] != int64(code) {
			t.Errorf("the code of %s is %d", name, codes[code])
		}
	}
	for _, code := range list(-1, 9, 10, 256, 1<<32, math.MinInt64, math.MaxInt64) {
		expect(t, "CodeName", impl.CodeName, []any{code}, []any{""})
	}
}

func TestPromise2Limits(t *testing.T) {
	got := list(impl.MaxStates, impl.MaxLetters, impl.MaxWord, impl.MaxMonoid, impl.MaxText)
	if wanted(got) != wanted(list(10, 3, 400, 400, 2000)) {
		t.Errorf("limits: %v", got)
	}
}

func TestPromise2ValidAutomata(t *testing.T) {
	for _, a := range append(validAutomata(), smallAutomata()...) {
		expect(t, "ValidAutomaton", impl.ValidAutomaton, []any{a}, []any{true})
	}
	atLimits := auto(10, repeated(9, 10), repeated(0, 10), upTo(10))
	expect(t, "ValidAutomaton", impl.ValidAutomaton, []any{atLimits}, []any{true})
	beyond := []impl.Automaton{
		auto(11, repeated(9, 11), repeated(0, 11), upTo(11)),
		auto(10, repeated(10, 10), repeated(0, 10), upTo(10)),
		auto(10, repeated(9, 10), repeated(0, 10), upTo(10), upTo(10)),
		auto(10, repeated(9, 9), repeated(0, 10), upTo(10)),
		auto(10, repeated(9, 10), repeated(0, 10), repeated(0, 11)),
	}
	for _, a := range append(beyond, invalidAutomata()...) {
		expect(t, "ValidAutomaton", impl.ValidAutomaton, []any{a}, []any{false})
	}
}

func TestPromise2SameAutomata(t *testing.T) {
	same := func(a, b impl.Automaton, want bool) {
		t.Helper()
		expect(t, "SameAutomaton", impl.SameAutomaton, []any{a, b}, []any{want})
		expect(t, "SameAutomaton", impl.SameAutomaton, []any{b, a}, []any{want})
	}
	same(example(), example(), true)
	same(impl.Automaton{States: 4}, impl.Automaton{States: 4, Next: [][]int64{}}, true)
	same(auto(-7, nil, list(9)), auto(-7, list(), list(9)), true)
	same(auto(0), auto(0, nil), false)
	same(auto(0, nil), auto(0, nil, nil), false)
	same(auto(0, nil), auto(0, list(0)), false)
	same(example(), auto(4, example().Next...), false)
	same(example(), auto(3, list(1, 2, 0)), false)
	same(example(), auto(3, list(1, 2, 0), list(0, 1)), false)
	same(example(), auto(3, list(1, 2, 0), list(0, 1, 1)), false)
	same(example(), auto(3, list(0, 1, 0), list(1, 2, 0)), false)
}

func TestPromise2AutomatonTexts(t *testing.T) {
	wide := auto(10, list(9, 8, 7, 6, 5, 4, 3, 2, 1, 0), upTo(10), repeated(0, 10))
	texts := map[string]impl.Automaton{
		exampleText:                                     example(),
		"automaton 1 1\nletter 0\n":                     auto(1, list(0)),
		"automaton 2 1\nletter 1 0\n":                   cycle(2),
		"automaton 1 3\nletter 0\nletter 0\nletter 0\n": auto(1, list(0), list(0), list(0)),
		"automaton 10 3\nletter 9 8 7 6 5 4 3 2 1 0\nletter 0 1 2 3 4 5 6 7 8 9\nletter 0 0 0 0 0 0 0 0 0 0\n": wide,
	}
	for text, a := range texts {
		expect(t, "AutomatonText", impl.AutomatonText, []any{a}, []any{text})
		expect(t, "ReadAutomaton", impl.ReadAutomaton, []any{text}, []any{a, impl.OK})
	}
	for _, a := range append(append(validAutomata(), smallAutomata()...), randomAutomata(200, 1, 10)...) {
		expect(t, "ReadAutomaton", impl.ReadAutomaton, []any{impl.AutomatonText(a)}, []any{a, impl.OK})
	}
}

func TestPromise2TextsOfNoAutomaton(t *testing.T) {
	texts := []string{
		"", "\n", "automaton", "automaton \n", "automaton 1\n", "automaton 1 1\n", "automaton 1 1\nletter\n", "automaton 1 1\nletter \n",
		"automaton 0 1\nletter\n", "automaton 0 1\nletter \n", "automaton 1 0\n", "automaton 3 0\n", "automaton -1 1\nletter\n",
		"automaton 1 4\nletter 0\nletter 0\nletter 0\nletter 0\n",
		"automaton 11 1\nletter 0 1 2 3 4 5 6 7 8 9 10\n", "automaton 11 1\nletter 0 0 0 0 0 0 0 0 0 0 0\n",
		"automaton 10 1\nletter 0 1 2 3 4 5 6 7 8 10\n",
		"automaton 1 1\nletter 1\n", "automaton 1 1\nletter -1\n", "automaton 2 1\nletter 0 2\n", "automaton 2 1\nletter 2 0\n",
		"automaton 2 1\nletter 0\n", "automaton 2 1\nletter 0 1 0\n", "automaton 2 1\nletter 0 1 \n", "automaton 2 1\nletter 0 1\nletter 0 1\n",
		"automaton 2 2\nletter 0 1\n", "automaton 2 2\nletter 0 1\n\n", "automaton 2 2\nletter 0 1\nletter 0\n",
		"automaton 1 1\nletter 00\n", "automaton 1 1\nletter +0\n", "automaton 1 1\nletter -0\n", "automaton 1 1\nletter 0x0\n", "automaton 1 1\nletter 0.\n",
		"automaton 01 1\nletter 0\n", "automaton 1 01\nletter 0\n", "automaton +1 1\nletter 0\n", "automaton 1e0 1\nletter 0\n", "automaton 1_0 1\nletter 0 0 0 0 0 0 0 0 0 0\n",
		"automaton \uff11 1\nletter 0\n", "automaton 1 1\nletter \u0660\n",
		"automaton 18446744073709551617 1\nletter 0\n", "automaton 1 4294967297\nletter 0\n", "automaton 1 1\nletter 9223372036854775808\n",
		"automaton 1 1\nletter 0", "automaton 1 1\nletter 0\n\n", "automaton 1 1\nletter 0\n ", "automaton 1 1\nletter 0\nx", "automaton 1 1\nletter 0\n\x00",
		" automaton 1 1\nletter 0\n", "\nautomaton 1 1\nletter 0\n", "automaton  1 1\nletter 0\n", "automaton 1  1\nletter 0\n", "automaton 1 1 \nletter 0\n",
		"automaton 1 1\nletter  0\n", "automaton 1 1\n letter 0\n", "automaton 1 1\n\nletter 0\n", "automaton\t1 1\nletter 0\n", "automaton 1 1\r\nletter 0\r\n",
		"Automaton 1 1\nletter 0\n", "automaton 1 1\nLetter 0\n", "automaton 1 1\nletters 0\n", "automaton 1 1 letter 0\n", "automata 1 1\nletter 0\n",
		"machine 1 1\nletter 0\n", "\ufeffautomaton 1 1\nletter 0\n", exampleText + exampleText,
	}
	for _, text := range texts {
		expect(t, "ReadAutomaton", impl.ReadAutomaton, []any{text}, []any{impl.Automaton{}, impl.ErrSyntax})
	}
}

// compareChangedTexts leaves out, adds and changes each byte of texts that a function reads.
func compareChangedTexts(t *testing.T, name string, texts ...string) {
	t.Helper()
	const bytes = "0129 .,-+/\naeilrtbcpx\r\t\x00\xff"
	for _, text := range texts {
		for i := range len(text) + 1 {
			named(name).compare(t, text[:i])
			for _, b := range []byte(bytes) {
				named(name).compare(t, text[:i]+string([]byte{b})+text[i:])
			}
			if i == len(text) {
				break
			}
			named(name).compare(t, text[:i]+text[i+1:])
			for _, b := range []byte(bytes) {
				named(name).compare(t, text[:i]+string([]byte{b})+text[i+1:])
			}
		}
	}
}

func TestPromise2ChangedTexts(t *testing.T) {
	compareChangedTexts(t, "ReadAutomaton", exampleText, "automaton 1 1\nletter 0\n", "automaton 10 1\nletter 9 0 1 2 3 4 5 6 7 8\n")
}

func TestPromise2LongTexts(t *testing.T) {
	for _, begin := range []string{"", exampleText, "automaton 1 1\nletter ", "automaton "} {
		for _, b := range []string{" ", "0", "1", "\n", "x", "\xff"} {
			long := begin + strings.Repeat(b, impl.MaxText-len(begin))
			expect(t, "ReadAutomaton", impl.ReadAutomaton, []any{long}, []any{impl.Automaton{}, impl.ErrSyntax})
			expect(t, "ReadAutomaton", impl.ReadAutomaton, []any{long + b}, []any{impl.Automaton{}, impl.ErrRange})
			expect(t, "ReadAutomaton", impl.ReadAutomaton, []any{strings.Repeat(long, 3)}, []any{impl.Automaton{}, impl.ErrRange})
		}
	}
}

func TestPromise2Words(t *testing.T) {
	two, three := example(), auto(1, list(0), list(0), list(0))
	valid := func(a impl.Automaton, w []int64, want bool) {
		t.Helper()
		expect(t, "ValidWord", impl.ValidWord, []any{a, w}, []any{want})
	}
	valid(two, nil, true)
	valid(two, list(), true)
	valid(two, list(0, 1, 1, 0), true)
	valid(two, list(2), false)
	valid(two, list(0, 1, 2), false)
	valid(two, list(-1), false)
	valid(two, list(0, math.MaxInt64), false)
	valid(two, list(math.MinInt64, 0), false)
	valid(three, list(2, 1, 0), true)
	valid(three, list(3), false)
	valid(cycle(3), list(0), true)
	valid(cycle(3), list(1), false)
	valid(two, repeated(1, impl.MaxWord), true)
	valid(two, repeated(1, impl.MaxWord+1), false)
	valid(auto(2, list(0, 2)), nil, false)
}

func TestPromise2WordTexts(t *testing.T) {
	texts := map[string][]int64{
		"-": nil, "a": list(0), "b": list(1), "c": list(2), "ba": list(1, 0), "abc": list(0, 1, 2), "ccab": list(2, 2, 0, 1),
		strings.Repeat("c", impl.MaxWord): repeated(2, impl.MaxWord),
	}
	for text, w := range texts {
		expect(t, "WordText", impl.WordText, []any{w}, []any{text})
		expect(t, "ReadWord", impl.ReadWord, []any{text}, []any{w, impl.OK})
	}
	for length := range 5 {
		for _, w := range allLists(length, 0, 2) {
			expect(t, "ReadWord", impl.ReadWord, []any{impl.WordText(w)}, []any{w, impl.OK})
		}
	}
	for _, w := range lists(list(3), list(-1), list(0, 3), list(3, 0), list(1, 2, -1), list(256), list(math.MinInt64), list(math.MaxInt64), repeated(0, impl.MaxWord+1)) {
		expect(t, "WordText", impl.WordText, []any{w}, []any{""})
	}
	for _, text := range []string{"", "d", "abd", "dab", "A", "aB", "`", "--", "-a", "a-", " ", "a b", " a", "a ", "a\n", "0", "\x00", "\xe1", "é", strings.Repeat("a", impl.MaxWord+1), strings.Repeat("-", impl.MaxWord)} {
		expect(t, "ReadWord", impl.ReadWord, []any{text}, []any{nil, impl.ErrSyntax})
	}
	for b := range 256 {
		named("ReadWord").compare(t, string([]byte{byte(b)}))
		named("ReadWord").compare(t, "ab"+string([]byte{byte(b)}))
	}
}

func TestPromise2ExampleOfChapter1(t *testing.T) {
	a, code := impl.ReadAutomaton(exampleText)
	w, codeOfWord := impl.ReadWord("ba")
	if code != impl.OK || codeOfWord != impl.OK {
		t.Fatalf("codes: %d and %d", code, codeOfWord)
	}
	expect(t, "ActionOf", impl.ActionOf, []any{a, w}, []any{list(1, 2, 1), impl.OK})
}

func TestPromise2Actions(t *testing.T) {
	a := example()
	act := func(w, want []int64) {
		t.Helper()
		expect(t, "ActionOf", impl.ActionOf, []any{a, w}, []any{want, impl.OK})
	}
	act(nil, list(0, 1, 2))
	act(list(0), list(1, 2, 0))
	act(list(1), list(0, 1, 0))
	act(list(0, 1), list(1, 0, 0))
	act(list(1, 0), list(1, 2, 1))
	act(list(1, 0, 0, 1), list(0, 0, 0))
	act(repeated(0, impl.MaxWord), list(1, 2, 0))
	expect(t, "ActionOf", impl.ActionOf, []any{a, repeated(0, impl.MaxWord+1)}, []any{nil, impl.ErrRange})
	expect(t, "ActionOf", impl.ActionOf, []any{a, list(2)}, []any{nil, impl.ErrRange})
	expect(t, "ActionOf", impl.ActionOf, []any{a, list(0, -1)}, []any{nil, impl.ErrRange})
	expect(t, "ActionOf", impl.ActionOf, []any{auto(1, list(0)), list(0, 0)}, []any{list(0), impl.OK})
	expect(t, "ActionOf", impl.ActionOf, []any{cycle(10), list(0, 0, 0)}, []any{list(3, 4, 5, 6, 7, 8, 9, 0, 1, 2), impl.OK})
}

func TestPromise2ImagesAndPreimages(t *testing.T) {
	a, ba := example(), list(1, 0)
	both := func(set, w, image, preimage []int64) {
		t.Helper()
		expect(t, "ImageOf", impl.ImageOf, []any{a, set, w}, []any{image, impl.OK})
		expect(t, "PreimageOf", impl.PreimageOf, []any{a, set, w}, []any{preimage, impl.OK})
	}
	both(list(0, 1, 2), ba, list(1, 2), list(0, 1, 2))
	both(list(1), ba, list(2), list(0, 2))
	both(list(0, 2), ba, list(1), list(1))
	both(list(0), ba, list(1), nil)
	both(list(0, 2), nil, list(0, 2), list(0, 2))
	both(nil, ba, nil, nil)
	both(nil, nil, nil, nil)
	both(list(0, 1), repeated(0, impl.MaxWord), list(1, 2), list(0, 2))
	for _, set := range lists(list(1, 0), list(1, 1), list(0, 0), list(-1), list(3), list(0, 1, 3), list(0, 1, 2, 2), list(2, 1), list(math.MinInt64, 0)) {
		expect(t, "ImageOf", impl.ImageOf, []any{a, set, ba}, []any{nil, impl.ErrRange})
		expect(t, "PreimageOf", impl.PreimageOf, []any{a, set, ba}, []any{nil, impl.ErrRange})
	}
	for _, w := range lists(list(2), list(-1), list(0, 0, 2), repeated(0, impl.MaxWord+1)) {
		expect(t, "ImageOf", impl.ImageOf, []any{a, list(0), w}, []any{nil, impl.ErrRange})
		expect(t, "PreimageOf", impl.PreimageOf, []any{a, list(0), w}, []any{nil, impl.ErrRange})
	}
}

// TestPromise2ActionsOfManyAutomata compares actions, images and preimages with their models, for short words and all sets, and for long words.
func TestPromise2ActionsOfManyAutomata(t *testing.T) {
	source := rand.New(rand.NewSource(1))
	for _, a := range append(allAutomata(2, 2), randomAutomata(40, 3, 10)...) {
		words := lists(nil)
		for length := range 3 {
			words = append(words, allLists(length+1, 0, int64(len(a.Next))-1)...)
		}
		for range 3 {
			w := make([]int64, source.Intn(impl.MaxWord+1))
			for i := range w {
				w[i] = source.Int63n(int64(len(a.Next)))
			}
			words = append(words, w)
		}
		for _, w := range words {
			named("ActionOf").compare(t, a, w)
			for range 4 {
				bits := source.Int63n(1 << a.States)
				set := modelSetOf(a, func(s int64) bool { return bits>>s&1 == 1 })
				named("ImageOf").compare(t, a, set, w)
				named("PreimageOf").compare(t, a, set, w)
			}
		}
	}
}

func TestPromise2Monoids(t *testing.T) {
	monoid := func(a impl.Automaton, want [][]int64) {
		t.Helper()
		expect(t, "MonoidOf", impl.MonoidOf, []any{a}, []any{want, impl.OK})
	}
	monoid(auto(1, list(0)), lists(list(0)))
	monoid(auto(1, list(0), list(0), list(0)), lists(list(0)))
	monoid(auto(2, list(0, 1)), lists(list(0, 1)))
	monoid(auto(2, list(1, 0), list(0, 0)), lists(list(0, 1), list(1, 0), list(0, 0), list(1, 1)))
	monoid(auto(2, list(0, 0), list(1, 0)), lists(list(0, 1), list(0, 0), list(1, 0), list(1, 1)))
	monoid(auto(2, list(1, 1), list(0, 0), list(1, 0)), lists(list(0, 1), list(1, 1), list(0, 0), list(1, 0)))
	monoid(cycle(3), lists(list(0, 1, 2), list(1, 2, 0), list(2, 0, 1)))
	monoid(auto(3, list(1, 2, 2)), lists(list(0, 1, 2), list(1, 2, 2), list(2, 2, 2)))
	// The lists here are ordered by their words, b before aa and ab before ba, and not by themselves.
	monoid(auto(3, list(1, 0, 2), list(0, 2, 1)), lists(list(0, 1, 2), list(1, 0, 2), list(0, 2, 1), list(2, 0, 1), list(1, 2, 0), list(2, 1, 0)))
	expect(t, "MonoidOf", impl.MonoidOf, []any{auto(10, upTo(10), list(1, 0, 2, 3, 4, 5, 6, 7, 8, 9), list(1, 2, 3, 4, 5, 6, 7, 8, 9, 0))}, []any{nil, impl.ErrLimit})
}

func TestPromise2MonoidLimit(t *testing.T) {
	full := []impl.Automaton{fullMonoid(), auto(6, list(1, 1, 1, 3, 2, 5), list(2, 3, 4, 1, 4, 1), list(3, 5, 4, 4, 5, 2))}
	for _, a := range full {
		actions, code := impl.MonoidOf(a)
		if len(actions) != impl.MaxMonoid || code != impl.OK {
			t.Errorf("MonoidOf: %d actions, %d", len(actions), code)
		}
		named("MonoidOf").compare(t, a)
		for i := 0; i < len(actions); i += 57 {
			named("WordFor").compare(t, a, actions[i])
		}
		named("WordFor").compare(t, a, actions[len(actions)-1])
		named("WordFor").compare(t, a, append(repeated(0, int(a.States)-1), 1))
	}
	over := []impl.Automaton{overfullMonoid(), auto(7, list(3, 1, 2, 4, 6, 0, 2), list(6, 5, 5, 1, 2, 3, 2))}
	for _, a := range over {
		expect(t, "MonoidOf", impl.MonoidOf, []any{a}, []any{nil, impl.ErrLimit})
		expect(t, "WordFor", impl.WordFor, []any{a, a.Next[0]}, []any{nil, impl.ErrLimit})
		expect(t, "WordFor", impl.WordFor, []any{a, upTo(a.States)}, []any{nil, impl.ErrLimit})
		expect(t, "WordFor", impl.WordFor, []any{a, a.Next[0][1:]}, []any{nil, impl.ErrRange})
	}
}

func TestPromise2WordsForActions(t *testing.T) {
	b := auto(2, list(1, 0), list(0, 0))
	word := func(a impl.Automaton, action, want []int64) {
		t.Helper()
		expect(t, "WordFor", impl.WordFor, []any{a, action}, []any{want, impl.OK})
	}
	word(b, list(0, 1), nil)
	word(b, list(1, 0), list(0))
	word(b, list(0, 0), list(1))
	word(b, list(1, 1), list(1, 0))
	word(auto(1, list(0), list(0)), list(0), nil)
	word(auto(2, list(1, 1), list(1, 1)), list(1, 1), list(0))
	word(cycle(10), list(9, 0, 1, 2, 3, 4, 5, 6, 7, 8), repeated(0, 9))
	word(example(), list(0, 0, 0), list(1, 0, 0, 1))
	// Both "ac" and "bb" have this action, and no shorter word.
	word(auto(3, list(1, 0, 2), list(1, 2, 0), list(0, 2, 1)), list(2, 0, 1), list(0, 2))
	// Both "aa" and "b" have this action, and the shorter word comes first.
	word(auto(3, list(1, 2, 0), list(2, 0, 1)), list(2, 0, 1), list(1))
	for _, action := range lists(nil, list(0), list(0, 1, 0), list(0, 2), list(-1, 0), list(0, math.MaxInt64)) {
		expect(t, "WordFor", impl.WordFor, []any{b, action}, []any{nil, impl.ErrRange})
	}
	expect(t, "WordFor", impl.WordFor, []any{cycle(2), list(1, 1)}, []any{nil, impl.ErrNotFound})
	expect(t, "WordFor", impl.WordFor, []any{auto(3, list(1, 2, 2)), list(1, 1, 1)}, []any{nil, impl.ErrNotFound})
}

// TestPromise2OrderOfWords goes through all words by their length, and those of one length lexicographically, until a length has no new action.
func TestPromise2OrderOfWords(t *testing.T) {
	automata := append(smallAutomata(), allAutomata(2, 3)...)
	for _, a := range automata {
		var actions, words [][]int64
		known := map[string]bool{}
		for length, more := 0, true; more; length++ {
			more = false
			for _, w := range allLists(length, 0, int64(len(a.Next))-1) {
				action := modelAction(a, w)
				if !known[wanted(action)] {
					known[wanted(action)], more = true, true
					actions, words = append(actions, action), append(words, w)
				}
			}
		}
		expect(t, "MonoidOf", impl.MonoidOf, []any{a}, []any{actions, impl.OK})
		for i, action := range actions {
			if got, code := impl.WordFor(a, action); code != impl.OK || wanted(got) != wanted(words[i]) {
				t.Errorf("WordFor(%v, %v): got %v %d want %v", a, action, got, code, words[i])
			}
		}
		for _, action := range allLists(int(a.States), 0, a.States-1) {
			if got, code := impl.WordFor(a, action); !known[wanted(action)] && (len(got) > 0 || code != impl.ErrNotFound) {
				t.Errorf("WordFor(%v, %v): got %v %d, but no word has it", a, action, got, code)
			}
		}
	}
}

// TestPromise2MonoidsOfManyAutomata compares larger monoids with their models.
func TestPromise2MonoidsOfManyAutomata(t *testing.T) {
	for _, a := range randomAutomata(150, 4, 10) {
		named("MonoidOf").compare(t, a)
		action := a.Next[len(a.Next)-1]
		named("WordFor").compare(t, a, action)
		named("WordFor").compare(t, a, action[1:])
		named("WordFor").compare(t, a, repeated(0, int(a.States)))
	}
}
