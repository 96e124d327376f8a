package tests

import (
	"math"
	"math/rand"
	"slices"
	"strings"
	"testing"

	"loop.example/g01102/impl"
)

// accepts tells that CheckCertificate takes a certificate, or does not take it, and that WordOfCertificate agrees.
func accepts(t *testing.T, a impl.Automaton, c impl.Certificate, want bool) {
	t.Helper()
	expect(t, "CheckCertificate", impl.CheckCertificate, []any{a, c}, []any{want, impl.OK})
	if !want {
		expect(t, "WordOfCertificate", impl.WordOfCertificate, []any{a, c}, []any{nil, impl.ErrProof})
	}
}

func TestPromise6Kinds(t *testing.T) {
	if impl.CtMerges != 1 || impl.CtApart != 2 {
		t.Errorf("kinds: %d %d", impl.CtMerges, impl.CtApart)
	}
}

func TestPromise6FoundCertificates(t *testing.T) {
	found := func(a impl.Automaton, want impl.Certificate) {
		t.Helper()
		expect(t, "FindCertificate", impl.FindCertificate, []any{a}, []any{want, impl.OK})
		accepts(t, a, want, true)
	}
	found(auto(1, list(0)), merging())
	found(auto(2, list(1, 0), list(0, 0)), merging(words("b")...))
	found(slow(3), merging(words("aab", "b", "ab")...))
	found(auto(3, list(1, 2, 2), list(0, 0, 0)), merging(words("b", "b", "a")...))
	found(auto(4, list(1, 2, 3, 3)), merging(words("aaa", "aaa", "aaa", "aa", "aa", "a")...))
	found(cycle(2), apart(list(0, 1)))
	found(auto(3, list(1, 0, 0)), apart(list(0, 1), list(0, 2)))
	found(auto(4, list(1, 1, 3, 3)), apart(list(0, 2), list(0, 3), list(1, 2), list(1, 3)))
	// The pair that never meets is not the first one.
	found(auto(4, list(1, 1, 2, 3)), apart(list(0, 2), list(0, 3), list(1, 2), list(1, 3), list(2, 3)))
	found(mixed(), apart(list(0, 1)))
	found(cycle(10), apart(modelPairs(upTo(10))...))
	for _, a := range variedAutomata() {
		named("FindCertificate").compare(t, a)
	}
}

// TestPromise6FoundAreRight tells that what is found is accepted, and either yields a reset word or refutes all words.
func TestPromise6FoundAreRight(t *testing.T) {
	for _, a := range slices.Concat(variedAutomata(), tiedAutomata()) {
		c, code := impl.FindCertificate(a)
		right, codeOfCheck := impl.CheckCertificate(a, c)
		if code != impl.OK || codeOfCheck != impl.OK || !right {
			t.Errorf("FindCertificate(%v): got %v %d, which is not right", a, c, code)
		}
		w, code := impl.WordOfCertificate(a, c)
		can, _ := impl.CanReset(a)
		resets, _ := impl.IsReset(a, w)
		yields := c.Kind == impl.CtMerges && can && code == impl.OK && resets
		refutes := c.Kind == impl.CtApart && !can && code == impl.ErrState && len(w) == 0
		if !yields && !refutes {
			t.Errorf("%v: the certificate %v yields %v %d, CanReset is %v", a, c, w, code, can)
		}
		named("WordOfCertificate").compare(t, a, c)
	}
}

// TestPromise6NoOtherMerges changes a right certificate of the kind CtMerges.
func TestPromise6NoOtherMerges(t *testing.T) {
	a := slow(3)
	right := func(texts ...string) {
		t.Helper()
		accepts(t, a, merging(words(texts...)...), true)
	}
	wrong := func(all ...[]int64) {
		t.Helper()
		accepts(t, a, merging(all...), false)
	}
	right("aab", "b", "ab")
	// Any words that merge will do, longer ones too.
	right("baab", "baab", "baab")
	right("aaba", "bb", "abab")
	wrong()
	wrong(nil, nil, nil)
	wrong(words("aab", "b")...)
	wrong(words("b", "ab")...)
	wrong(words("aab", "b", "ab", "b")...)
	wrong(word("aab"), word("b"), word("ab"), nil)
	wrong(words("b", "aab", "ab")...)
	wrong(words("aab", "ab", "b")...)
	wrong(words("ab", "b", "ab")...)
	wrong(words("aab", "-", "ab")...)
	wrong(words("aab", "b", "-")...)
	wrong(words("aac", "b", "ab")...)
	wrong(word("aab"), list(1, 2), word("ab"))
	wrong(word("aab"), word("b"), list(-1, 0, 1))
	wrong(word("aab"), word("b"), list(0, math.MaxInt64))
	wrong(word("aab"), list(math.MinInt64), word("ab"))
	right("aab", strings.Repeat("b", impl.MaxWord), "ab")
	// These words lead to one state too, but they are too long.
	wrong(word("aab"), repeated(1, impl.MaxWord+1), word("ab"))
	wrong(append(word("aab"), repeated(0, impl.MaxWord-2)...), word("b"), word("ab"))
	for _, kind := range list(0, 2, 3, -1, math.MinInt64, math.MaxInt64) {
		accepts(t, a, impl.Certificate{Kind: kind, Words: words("aab", "b", "ab")}, false)
	}
	for _, pairs := range [][][]int64{lists(nil), lists(list(0, 1)), lists(list(0, 1), list(0, 2), list(1, 2))} {
		accepts(t, a, impl.Certificate{Kind: impl.CtMerges, Pairs: pairs, Words: words("aab", "b", "ab")}, false)
	}
}

// TestPromise6NoOtherApart changes a right certificate of the kind CtApart.
func TestPromise6NoOtherApart(t *testing.T) {
	a := auto(4, list(1, 0, 3, 2), list(0, 1, 3, 2))
	right := func(pairs ...[]int64) {
		t.Helper()
		accepts(t, a, apart(pairs...), true)
		expect(t, "WordOfCertificate", impl.WordOfCertificate, []any{a, apart(pairs...)}, []any{nil, impl.ErrState})
	}
	wrong := func(pairs ...[]int64) {
		t.Helper()
		accepts(t, a, apart(pairs...), false)
	}
	// All pairs are apart, and each closed list of some of them tells enough.
	right(modelPairs(upTo(4))...)
	right(list(0, 1))
	right(list(2, 3))
	right(list(0, 1), list(2, 3))
	right(list(0, 2), list(0, 3), list(1, 2), list(1, 3))
	right(list(0, 2), list(0, 3), list(1, 2), list(1, 3), list(2, 3))
	wrong()
	wrong(list(0, 2))
	wrong(list(0, 2), list(0, 3), list(1, 2))
	wrong(list(0, 2), list(0, 3), list(1, 3))
	wrong(list(0, 3), list(1, 2), list(1, 3))
	wrong(list(2, 3), list(0, 1))
	wrong(list(0, 1), list(0, 1))
	wrong(list(0, 1), list(2, 3), list(2, 3))
	wrong(list(0, 2), list(0, 3), list(1, 3), list(1, 2))
	for _, kind := range list(0, 1, 3, -2, math.MinInt64, math.MaxInt64) {
		accepts(t, a, impl.Certificate{Kind: kind, Pairs: lists(list(0, 1))}, false)
	}
	for _, all := range [][][]int64{lists(nil), words("a"), words("a", "a", "a", "a", "a", "a")} {
		accepts(t, a, impl.Certificate{Kind: impl.CtApart, Pairs: lists(list(0, 1)), Words: all}, false)
	}
	// A letter may merge a pair, or lead it to one that is not in the list.
	accepts(t, slow(3), apart(modelPairs(upTo(3))...), false)
	accepts(t, mixed(), apart(list(0, 1)), true)
	accepts(t, mixed(), apart(list(0, 1), list(0, 2)), false)
	accepts(t, auto(3, list(1, 0, 0)), apart(list(0, 1)), true)
	accepts(t, auto(3, list(1, 0, 0)), apart(list(0, 2)), false)
	accepts(t, auto(3, list(1, 0, 0)), apart(list(0, 1), list(0, 2), list(1, 2)), false)
	// Only the second letter leads out of the list here, and only the third one merges.
	accepts(t, auto(3, list(0, 1, 2), list(0, 2, 1)), apart(list(0, 1)), false)
	accepts(t, auto(2, list(0, 1), list(1, 0), list(1, 1)), apart(list(0, 1)), false)
	accepts(t, auto(2, list(0, 1), list(1, 0), list(1, 0)), apart(list(0, 1)), true)
}

// TestPromise6ListsThatAreNoPairs takes lists that no letter leads out of, as each letter leads from each state to itself, but of which one is not a pair.
func TestPromise6ListsThatAreNoPairs(t *testing.T) {
	a := auto(4, upTo(4), upTo(4))
	wrong := func(pairs ...[]int64) {
		t.Helper()
		accepts(t, a, apart(pairs...), false)
	}
	for _, pair := range modelPairs(upTo(4)) {
		accepts(t, a, apart(pair), true)
		wrong(list(pair[1], pair[0]))
		wrong(pair, pair)
	}
	accepts(t, a, apart(list(0, 1), list(1, 3)), true)
	wrong()
	wrong(list(1, 3), list(0, 1))
	wrong(list(0, 1), list(1, 3), list(0, 2))
	wrong(list(0, 1), list(1, 3), list(1, 3))
	wrong(list(0, 1), list(3, 2))
	wrong(list(0, 1), list(1, 0))
	wrong(nil)
	wrong(list(0))
	wrong(list(0, 0))
	wrong(list(0, 1, 2))
	wrong(upTo(4))
	wrong(nil, list(0, 1))
	wrong(list(0, 1), nil)
	wrong(list(0), list(0, 1))
	wrong(list(0, 0), list(0, 1))
	wrong(list(0, 1), list(0, 1, 2))
	wrong(list(0, 1), list(1), list(1, 2))
	wrong(list(0, 1), list(1, 1), list(1, 2))
	wrong(list(-1, 0), list(0, 1))
	wrong(list(0, 1), list(0, 4))
	wrong(list(0, 1), list(4, 5))
	wrong(list(0, math.MaxInt64))
	wrong(list(math.MinInt64, 0))
	wrong(list(math.MinInt64, math.MaxInt64))
}

// TestPromise6OneState tells that the only certificate for one state is one of the kind CtMerges without words.
func TestPromise6OneState(t *testing.T) {
	a := auto(1, list(0), list(0))
	accepts(t, a, merging(), true)
	expect(t, "WordOfCertificate", impl.WordOfCertificate, []any{a, merging()}, []any{nil, impl.OK})
	accepts(t, a, merging(nil), false)
	accepts(t, a, merging(word("a")), false)
	accepts(t, a, apart(), false)
	accepts(t, a, apart(list(0, 0)), false)
	accepts(t, a, apart(list(0, 1)), false)
	accepts(t, a, impl.Certificate{}, false)
}

// TestPromise6EmptyLists tells that nil and empty lists are taken as equal.
func TestPromise6EmptyLists(t *testing.T) {
	a, b := slow(3), cycle(2)
	all := words("aab", "b", "ab")
	for _, empty := range [][][]int64{nil, {}} {
		accepts(t, auto(1, list(0)), impl.Certificate{Kind: impl.CtMerges, Pairs: empty, Words: empty}, true)
		accepts(t, a, impl.Certificate{Kind: impl.CtMerges, Pairs: empty, Words: all}, true)
		accepts(t, b, impl.Certificate{Kind: impl.CtApart, Pairs: lists(list(0, 1)), Words: empty}, true)
		accepts(t, a, impl.Certificate{Kind: impl.CtMerges, Pairs: empty, Words: empty}, false)
		accepts(t, b, impl.Certificate{Kind: impl.CtApart, Pairs: empty, Words: empty}, false)
		expect(t, "WordOfCertificate", impl.WordOfCertificate, []any{a, impl.Certificate{Kind: impl.CtMerges, Pairs: empty, Words: all}}, []any{word("aabaab"), impl.OK})
	}
	for _, empty := range [][]int64{nil, {}} {
		accepts(t, a, merging(empty, word("b"), word("ab")), false)
		accepts(t, b, apart(empty), false)
		expect(t, "ShortestFor", impl.ShortestFor, []any{a, empty}, []any{nil, impl.OK})
		expect(t, "IsReset", impl.IsReset, []any{a, empty}, []any{false, impl.OK})
		expect(t, "IsReset", impl.IsReset, []any{auto(1, list(0)), empty}, []any{true, impl.OK})
	}
}

// TestPromise6AllLists gives all short lists of pairs, and all lists of short words for three pairs.
func TestPromise6AllLists(t *testing.T) {
	check := func(a impl.Automaton, c impl.Certificate) {
		t.Helper()
		want, _ := modelCheckCertificate(a, c)
		if got, code := impl.CheckCertificate(a, c); got != want || code != impl.OK {
			t.Errorf("CheckCertificate(%v, %v): got %v %d", a, c, got, code)
		}
	}
	pairs := allLists(2, 0, 3)
	for i, a := range smallAutomata() {
		check(a, apart())
		for _, p := range pairs {
			check(a, apart(p))
			for _, q := range pairs {
				check(a, apart(p, q))
				check(a, apart(p, q, list(1, 2)))
			}
		}
		texts := allWords(auto(3, nil, nil, nil), 1)
		if i%10 == 0 {
			texts = allWords(auto(3, nil, nil, nil), 2)
		}
		for _, v := range texts {
			check(a, merging(v))
			for _, w := range texts {
				check(a, merging(v, w))
				for _, u := range texts {
					check(a, merging(v, w, u))
				}
			}
		}
	}
}

// copied returns a certificate with the same lists in other memory.
func copied(c impl.Certificate) impl.Certificate {
	out := impl.Certificate{Kind: c.Kind}
	for _, p := range c.Pairs {
		out.Pairs = append(out.Pairs, slices.Clone(p))
	}
	for _, w := range c.Words {
		out.Words = append(out.Words, slices.Clone(w))
	}
	return out
}

// changed returns a certificate that differs from another one in some place.
func changed(source *rand.Rand, c impl.Certificate) impl.Certificate {
	out := copied(c)
	all := &out.Words
	if c.Kind == impl.CtApart {
		all = &out.Pairs
	}
	if len(*all) == 0 {
		out.Kind = source.Int63n(4)
		return out
	}
	i, k := source.Intn(len(*all)), source.Intn(len(*all))
	switch source.Intn(4) {
	case 0:
		*all = slices.Delete(*all, i, i+1)
	case 1:
		*all = append(*all, slices.Clone((*all)[i]))
	case 2:
		(*all)[i], (*all)[k] = (*all)[k], (*all)[i]
	default:
		(*all)[i] = changedList(source, (*all)[i])
	}
	return out
}

func changedList(source *rand.Rand, numbers []int64) []int64 {
	if len(numbers) == 0 {
		return list(source.Int63n(3))
	}
	switch source.Intn(4) {
	case 0:
		return numbers[:len(numbers)-1]
	case 1:
		return append(numbers, source.Int63n(3))
	case 2:
		slices.Reverse(numbers)
	default:
		numbers[source.Intn(len(numbers))] = source.Int63n(10)
	}
	return numbers
}

// TestPromise6ChangedCertificates compares with the model what is told of right certificates that have been changed in one or two places.
func TestPromise6ChangedCertificates(t *testing.T) {
	source := rand.New(rand.NewSource(6))
	seen := map[bool]int{}
	for _, a := range slices.Concat(validAutomata(), resetAutomata(), stuckAutomata(), randomAutomata(40, 3, 6), dividedAutomata(60, 7)) {
		c, _ := modelFindCertificate(a)
		for range 12 {
			other := changed(source, c)
			if source.Intn(3) == 0 {
				other = changed(source, other)
			}
			named("CheckCertificate").compare(t, a, other)
			named("WordOfCertificate").compare(t, a, other)
			right, _ := modelCheckCertificate(a, other)
			seen[right]++
		}
	}
	if seen[true] < 100 || seen[false] < 500 {
		t.Errorf("certificates that are right, and others: %v", seen)
	}
}

func TestPromise6WordsOfCertificates(t *testing.T) {
	yields := func(a impl.Automaton, c impl.Certificate, want string) {
		t.Helper()
		expect(t, "WordOfCertificate", impl.WordOfCertificate, []any{a, c}, []any{word(want), impl.OK})
	}
	a := slow(3)
	yields(a, merging(words("aab", "b", "ab")...), "aabaab")
	// The word of the two least states is taken first, although others are shorter.
	yields(a, merging(words("baab", "b", "ab")...), "baab")
	yields(a, merging(words("aab", "bb", "abb")...), "aabaab")
	yields(auto(2, list(1, 0), list(0, 0)), merging(words("ab")...), "ab")
	// The first word leaves the states 1, 2 and 3 here, and the second one the states 1 and 3.
	b := auto(4, list(1, 1, 2, 3), list(0, 1, 2, 2), list(0, 1, 1, 3))
	yields(b, merging(words("a", "ac", "abc", "c", "bc", "b")...), "acbc")
	yields(b, merging(words("aa", "ac", "abc", "ccc", "cbbc", "b")...), "aaccccbbc")
	for _, wrong := range []impl.Certificate{{}, merging(), merging(words("b", "b", "b")...), apart(list(0, 1)), {Kind: 3}} {
		expect(t, "WordOfCertificate", impl.WordOfCertificate, []any{a, wrong}, []any{nil, impl.ErrProof})
	}
	expect(t, "WordOfCertificate", impl.WordOfCertificate, []any{cycle(2), apart(list(0, 1))}, []any{nil, impl.ErrState})
	expect(t, "WordOfCertificate", impl.WordOfCertificate, []any{mixed(), apart(list(0, 1))}, []any{nil, impl.ErrState})
}

// TestPromise6LongWords puts words together that are as long as a word may be, and longer.
func TestPromise6LongWords(t *testing.T) {
	// The letter a leads nowhere, b merges 0 and 1, and c merges 0 and 2.
	a := auto(3, list(0, 1, 2), list(0, 0, 2), list(0, 1, 0))
	behind := func(count int, text string) []int64 { return append(repeated(0, count), word(text)...) }
	of := func(first, second int) impl.Certificate {
		return merging(behind(first, "b"), behind(second, "c"), word("bc"))
	}
	for _, counts := range [][2]int{{0, 0}, {199, 199}, {398, 0}, {0, 398}, {398 - 57, 57}} {
		want := append(behind(counts[0], "b"), behind(counts[1], "c")...)
		expect(t, "WordOfCertificate", impl.WordOfCertificate, []any{a, of(counts[0], counts[1])}, []any{want, impl.OK})
	}
	for _, counts := range [][2]int{{199, 200}, {200, 199}, {399, 0}, {0, 399}, {399, 399}} {
		accepts(t, a, of(counts[0], counts[1]), true)
		expect(t, "WordOfCertificate", impl.WordOfCertificate, []any{a, of(counts[0], counts[1])}, []any{nil, impl.ErrLimit})
	}
	for _, counts := range [][2]int{{400, 0}, {0, 400}, {400, 400}} {
		accepts(t, a, of(counts[0], counts[1]), false)
	}
	// A word for a pair that is not needed may be long.
	unused := merging(word("b"), word("c"), behind(398, "bc"))
	expect(t, "WordOfCertificate", impl.WordOfCertificate, []any{a, unused}, []any{word("bc"), impl.OK})
	two := auto(2, list(1, 0), list(0, 0))
	expect(t, "WordOfCertificate", impl.WordOfCertificate, []any{two, merging(behind(399, "b"))}, []any{behind(399, "b"), impl.OK})
	accepts(t, two, merging(behind(400, "b")), false)
	ten := auto(10, upTo(10), list(0, 0, 1, 2, 3, 4, 5, 6, 7, 8))
	longest := slices.Repeat(lists(append(repeated(0, 391), repeated(1, 9)...)), 45)
	expect(t, "WordOfCertificate", impl.WordOfCertificate, []any{ten, merging(longest...)}, []any{longest[0], impl.OK})
	var stepwise [][]int64
	for _, pair := range modelPairs(upTo(10)) {
		stepwise = append(stepwise, append(repeated(0, 50), repeated(1, int(pair[1]))...))
	}
	accepts(t, ten, merging(stepwise...), true)
	expect(t, "WordOfCertificate", impl.WordOfCertificate, []any{ten, merging(stepwise...)}, []any{nil, impl.ErrLimit})
}

// TestPromise6ApartRefutesAllWords tells that no word merges the pairs of a certificate of the kind CtApart that is accepted.
func TestPromise6ApartRefutesAllWords(t *testing.T) {
	for _, a := range slices.Concat(smallAutomata(), allAutomata(2, 3), stuckAutomata()) {
		c, _ := impl.FindCertificate(a)
		if c.Kind != impl.CtApart {
			continue
		}
		for _, w := range allWords(a, 5) {
			for _, pair := range c.Pairs {
				if modelLead(a, pair[0], w) == modelLead(a, pair[1], w) {
					t.Errorf("%v: %v merges %v", a, w, pair)
				}
			}
			if resets, _ := impl.IsReset(a, w); resets {
				t.Errorf("%v: %v resets it", a, w)
			}
		}
	}
}
