package tests

import (
	"math"
	"math/rand"
	"slices"
	"strings"
	"testing"

	"loop.example/g01102/impl"
)

func TestPromise17Limits(t *testing.T) {
	got := list(impl.MaxSuite, impl.MaxSuiteText, impl.MaxExtra, impl.MaxTried, impl.MaxBest)
	if wanted(got) != wanted(list(400, 20000, 2, 50000, 6)) {
		t.Errorf("limits: %v", got)
	}
}

func TestPromise17ExampleOfChapter7(t *testing.T) {
	m, code := impl.ReadMachine(toggleText)
	if code != impl.OK || !modelSameMachine(m, toggle()) {
		t.Fatalf("ReadMachine: %v %d", m, code)
	}
	expect(t, "StateCover", impl.StateCover, []any{m}, []any{words("-", "a"), impl.OK})
	expect(t, "SuiteText", impl.SuiteText, []any{words("-", "a")}, []any{"-\na\n"})
}

func TestPromise17ValidSuites(t *testing.T) {
	valid := func(m impl.Machine, suite [][]int64, want bool) {
		t.Helper()
		expect(t, "ValidSuite", impl.ValidSuite, []any{m, suite}, []any{want})
	}
	for _, m := range validMachines() {
		for _, suite := range append(shortSuites(len(m.Next)), fullSuites()...) {
			valid(m, suite, true)
		}
		for _, suite := range wrongSuites() {
			valid(m, suite, false)
		}
	}
	for _, m := range invalidMachines() {
		for _, suite := range shortSuites(1) {
			valid(m, suite, false)
		}
	}
	one, two, three := toggle(), machineExample(), silent(auto(1, list(0), list(0), list(0)))
	valid(one, words("a", "b"), false)
	valid(two, words("a", "b"), true)
	valid(two, words("ab", "abc"), false)
	valid(two, words("c", "ab"), false)
	valid(three, words("abc", "c"), true)
	valid(three, lists(list(0, 1, 2), list(3)), false)
	// A word twice counts twice, and so does the empty word.
	valid(one, slices.Repeat(words("-"), impl.MaxSuite), true)
	valid(one, slices.Repeat(words("-"), impl.MaxSuite+1), false)
	valid(one, slices.Repeat(words("-", "a"), impl.MaxSuite/2), true)
	valid(one, append(slices.Repeat(words("-", "a"), impl.MaxSuite/2), nil), false)
	full := slices.Repeat(lists(repeated(2, impl.MaxWord)), impl.MaxSuite)
	valid(three, full, true)
	valid(two, full, false)
	valid(three, append(full[:impl.MaxSuite-1:impl.MaxSuite-1], repeated(2, impl.MaxWord+1)), false)
	valid(three, append(full[:impl.MaxSuite-1:impl.MaxSuite-1], list(0, 3)), false)
}

func TestPromise17SuiteTexts(t *testing.T) {
	texts := map[string][][]int64{
		"":                                   nil,
		"-\n":                                words("-"),
		"-\n-\n":                             words("-", "-"),
		"a\n":                                words("a"),
		"-\na\n":                             words("-", "a"),
		"a\n-\n":                             words("a", "-"),
		"-\nab\n":                            words("-", "ab"),
		"abc\ncba\nb\n":                      words("abc", "cba", "b"),
		"b\nb\nba\nb\n":                      words("b", "b", "ba", "b"),
		"c\n-\nccc\na\n":                     words("c", "-", "ccc", "a"),
		strings.Repeat("-\n", impl.MaxSuite): make([][]int64, impl.MaxSuite),
		strings.Repeat("a\nbc\n", impl.MaxSuite/2): slices.Repeat(words("a", "bc"), impl.MaxSuite/2),
		strings.Repeat("c", impl.MaxWord) + "\n":   lists(repeated(2, impl.MaxWord)),
		// Just MaxSuiteText bytes.
		strings.Repeat(strings.Repeat("b", 399)+"\n", 50):                                              slices.Repeat(lists(repeated(1, 399)), 50),
		strings.Repeat(strings.Repeat("b", 400)+"\n", 49) + strings.Repeat("a", 349) + "\n":            append(slices.Repeat(lists(repeated(1, 400)), 49), repeated(0, 349)),
		strings.Repeat(strings.Repeat("a", 49)+"\n", impl.MaxSuite):                                    slices.Repeat(lists(repeated(0, 49)), impl.MaxSuite),
		strings.Repeat(strings.Repeat("a", 49)+"\n", impl.MaxSuite-1) + strings.Repeat("c", 49) + "\n": append(slices.Repeat(lists(repeated(0, 49)), impl.MaxSuite-1), repeated(2, 49)),
	}
	for text, suite := range texts {
		expect(t, "SuiteText", impl.SuiteText, []any{suite}, []any{text})
		expect(t, "ReadSuite", impl.ReadSuite, []any{text}, []any{suite, impl.OK})
	}
	expect(t, "SuiteText", impl.SuiteText, []any{lists(nil, list())}, []any{"-\n-\n"})
	expect(t, "SuiteText", impl.SuiteText, []any{[][]int64{}}, []any{""})
}

// TestPromise17ValidSuitesAreReadBack tells that each valid suite is read back from its text, unless the text is too long.
func TestPromise17ValidSuitesAreReadBack(t *testing.T) {
	source := rand.New(rand.NewSource(17))
	long := 0
	for _, m := range slices.Concat(validMachines(), randomMachines(60, 1, 10)) {
		for _, size := range [][2]int{{3, 4}, {12, 10}, {impl.MaxSuite, 60}, {5, impl.MaxWord}, {impl.MaxSuite, impl.MaxWord}} {
			suite := randomSuite(source, m, size[0], size[1])
			text := impl.SuiteText(suite)
			if text != modelSuiteText(suite) || !impl.ValidSuite(m, suite) {
				t.Fatalf("SuiteText of %d words: got %d bytes", len(suite), len(text))
			}
			if len(text) > impl.MaxSuiteText {
				long++
				expect(t, "ReadSuite", impl.ReadSuite, []any{text}, []any{nil, impl.ErrRange})
				continue
			}
			expect(t, "ReadSuite", impl.ReadSuite, []any{text}, []any{suite, impl.OK})
		}
	}
	if long < 20 {
		t.Errorf("only %d texts are too long", long)
	}
}

func TestPromise17TextsOfNoSuite(t *testing.T) {
	texts := []string{
		// A byte too few or too many.
		"a", "-", "a\nb", "-\n-", "\n", "a\n\n", "\na\n", "a\n\nb\n", "-\n\n", " a\n", "a \n", "a\n ", "a b\n", "a,b\n", "a\r\n", "a\n\r", "a\n\x00", "\x00a\n", "a\t\n",
		// A sign that is none.
		"d\n", "abd\n", "dab\n", "A\n", "aB\n", "`\n", "0\n", "1\n", ".\n", "\xff\n", "\xe1\n", "é\n", "\u0430\n", "a\u0301\n", "a\u2028", "a\x0b", "a\x0c\n", "\ufeffa\n", "a\u0085",
		// A blank word, and signs beside it.
		"--\n", "-a\n", "a-\n", "-\na-\n", "- \n", " -\n", "-b\na\n", "\u2212\n", "_\n",
		// A line or a letter too many.
		strings.Repeat("-\n", impl.MaxSuite+1), strings.Repeat("a\n", impl.MaxSuite+1), strings.Repeat("-\n", impl.MaxSuite) + "a\n", strings.Repeat("-\n", impl.MaxSuite) + "\n", strings.Repeat("-\n", impl.MaxSuite) + "a",
		strings.Repeat("a", impl.MaxWord+1) + "\n", "a\n" + strings.Repeat("a", impl.MaxWord+1) + "\n", strings.Repeat("a", impl.MaxWord+1) + "\n-\n", strings.Repeat("-\n", 10000),
		strings.Repeat("a", impl.MaxWord), "suite\na\n", toggleText, "[[] [0]]", "0\n1\n",
	}
	for _, text := range texts {
		expect(t, "ReadSuite", impl.ReadSuite, []any{text}, []any{nil, impl.ErrSyntax})
	}
}

func TestPromise17ChangedTexts(t *testing.T) {
	t.Parallel()
	compareChangedTexts(t, "ReadSuite", "", "-\n", "a\n", "-\nab\n", "abc\n-\nca\nb\n", "aa\na\n-\n-\n")
	for b := range 256 {
		named("ReadSuite").compare(t, string([]byte{byte(b)}))
		named("ReadSuite").compare(t, string([]byte{byte(b), '\n'}))
		named("ReadSuite").compare(t, "ab"+string([]byte{byte(b), '\n'})+"-\n")
	}
}

// TestPromise17LongTexts tells that a text with more than MaxSuiteText bytes is refused ahead of all that may be wrong in it.
func TestPromise17LongTexts(t *testing.T) {
	for _, begin := range []string{"", "-\nab\n", "a\n", "d\n", "\n"} {
		for _, b := range []string{"-", "a", "\n", "x", "\xff"} {
			long := begin + strings.Repeat(b, impl.MaxSuiteText-len(begin))
			expect(t, "ReadSuite", impl.ReadSuite, []any{long}, []any{nil, impl.ErrSyntax})
			expect(t, "ReadSuite", impl.ReadSuite, []any{long + b}, []any{nil, impl.ErrRange})
			expect(t, "ReadSuite", impl.ReadSuite, []any{strings.Repeat(long, 3)}, []any{nil, impl.ErrRange})
		}
	}
	// Only its length is wrong.
	full := strings.Repeat(strings.Repeat("b", 399)+"\n", 50)
	expect(t, "ReadSuite", impl.ReadSuite, []any{"b" + full}, []any{nil, impl.ErrRange})
	expect(t, "ReadSuite", impl.ReadSuite, []any{"a\n" + full}, []any{nil, impl.ErrRange})
	expect(t, "ReadSuite", impl.ReadSuite, []any{"b" + full[:impl.MaxSuiteText-1]}, []any{nil, impl.ErrSyntax})
}

func TestPromise17ListsWithoutText(t *testing.T) {
	for _, suite := range append(wrongSuites(), lists(nil, nil, list(0, 1, 2), list(-1)), lists(list(256)), lists(list(1), list(97))) {
		expect(t, "SuiteText", impl.SuiteText, []any{suite}, []any{""})
		expect(t, "SuiteCost", impl.SuiteCost, []any{suite}, []any{0, impl.ErrRange})
	}
}

func TestPromise17Costs(t *testing.T) {
	cost := func(suite [][]int64, want int) {
		t.Helper()
		expect(t, "SuiteCost", impl.SuiteCost, []any{suite}, []any{want, impl.OK})
	}
	// The empty suite has no text either, but it has a cost.
	cost(nil, 0)
	cost([][]int64{}, 0)
	cost(words("-"), 1)
	cost(words("-", "-"), 2)
	cost(words("a"), 2)
	cost(words("-", "ab"), 4)
	cost(words("abc", "cc", "c", "-"), 10)
	cost(words("aa", "aa", "aa"), 9)
	cost(make([][]int64, impl.MaxSuite), impl.MaxSuite)
	cost(lists(repeated(2, impl.MaxWord)), impl.MaxWord+1)
	cost(slices.Repeat(lists(repeated(1, impl.MaxWord)), impl.MaxSuite), impl.MaxSuite*(impl.MaxWord+1))
	source := rand.New(rand.NewSource(171))
	for range 100 {
		suite := randomSuite(source, silent(auto(1, list(0), list(0), list(0))), 20, 20)
		named("SuiteCost").compare(t, suite)
		// Each letter is a byte of the text, and so is each newline; the empty word has a byte more.
		empty := len(slices.DeleteFunc(slices.Clone(suite), func(w []int64) bool { return len(w) > 0 }))
		cost(suite, len(impl.SuiteText(suite))-empty)
	}
}

func TestPromise17FirstFailing(t *testing.T) {
	m, mutant := toggle(), readMachine("machine 2 2 1\nletter 1/0 1/1\n")
	fails := func(m, n impl.Machine, suite [][]int64, at, letter int) {
		t.Helper()
		expect(t, "FirstFailing", impl.FirstFailing, []any{m, n, suite}, []any{at, letter, impl.OK})
		expect(t, "Passes", impl.Passes, []any{m, n, suite}, []any{false, impl.OK})
		expect(t, "FirstFailing", impl.FirstFailing, []any{n, m, suite}, []any{at, letter, impl.OK})
	}
	passes := func(m, n impl.Machine, suite [][]int64) {
		t.Helper()
		expect(t, "FirstFailing", impl.FirstFailing, []any{m, n, suite}, []any{0, 0, impl.ErrNotFound})
		expect(t, "Passes", impl.Passes, []any{m, n, suite}, []any{true, impl.OK})
		expect(t, "Passes", impl.Passes, []any{n, m, suite}, []any{true, impl.OK})
	}
	// Only the third letter is different, in the first word that has one.
	fails(m, mutant, words("a", "aaa"), 1, 2)
	fails(m, mutant, words("aaa", "a"), 0, 2)
	fails(m, mutant, words("-", "a", "aa", "aaaa", "aaa"), 3, 2)
	fails(m, mutant, words("aaa", "aaa"), 0, 2)
	fails(m, mutant, words("aaaaaa"), 0, 2)
	passes(m, mutant, nil)
	passes(m, mutant, words("-"))
	passes(m, mutant, words("aa", "a", "-", "aa"))
	// The first word counts, even if an earlier letter of a later word fails.
	late := readMachine("machine 3 2 2\nletter 1/0 2/0 2/1\nletter 0/0 0/0 0/0\n")
	quiet := readMachine("machine 1 2 2\nletter 0/0\nletter 0/1\n")
	fails(late, quiet, words("aaa", "b"), 0, 2)
	fails(late, quiet, words("aa", "ab", "b", "aaa"), 1, 1)
	fails(late, quiet, words("aa", "b", "ab"), 1, 0)
	passes(late, quiet, words("a", "aa", "-"))
	// At the end of a word of MaxWord letters, or behind it.
	two := readMachine("machine 2 2 2\nletter 0/0 0/0\nletter 1/0 1/1\n")
	silence := readMachine("machine 1 2 2\nletter 0/0\nletter 0/0\n")
	last := append(repeated(0, impl.MaxWord-2), 1, 1)
	fails(two, silence, lists(last), 0, impl.MaxWord-1)
	passes(two, silence, lists(last[:impl.MaxWord-1]))
	fails(two, silence, append(make([][]int64, impl.MaxSuite-1), word("bb")), impl.MaxSuite-1, 1)
	// Machines with other numbers of states may be equivalent.
	passes(m, readMachine("machine 4 2 1\nletter 1/0 2/1 3/0 0/1\n"), words("aaaaaaaaa"))
	passes(silence, readMachine("machine 2 2 2\nletter 1/0 0/0\nletter 0/0 0/0\n"), words("abab", "bb"))
	for _, m := range validMachines() {
		for _, suite := range append(shortSuites(len(m.Next)), fullSuites()...) {
			passes(m, m, suite)
		}
	}
}

func TestPromise17FailingErrors(t *testing.T) {
	m := toggle()
	refuse := func(m, n impl.Machine, suite [][]int64, code int) {
		t.Helper()
		expect(t, "FirstFailing", impl.FirstFailing, []any{m, n, suite}, []any{0, 0, code})
		expect(t, "Passes", impl.Passes, []any{m, n, suite}, []any{false, code})
	}
	for _, bad := range invalidMachines() {
		refuse(bad, m, words("a"), impl.ErrInvalid)
		refuse(m, bad, words("a"), impl.ErrInvalid)
		refuse(bad, bad, wrongSuites()[0], impl.ErrInvalid)
		refuse(m, bad, wrongSuites()[8], impl.ErrInvalid)
	}
	for _, other := range []string{"machine 2 1 1\nletter 1/0 0/0\n", "machine 2 3 1\nletter 1/0 0/1\n", "machine 2 2 2\nletter 1/0 0/1\nletter 1/0 0/1\n", "machine 2 2 3\nletter 1/0 0/1\nletter 1/0 0/1\nletter 1/0 0/1\n"} {
		// But for their Outputs or letters, the machines do the same.
		for _, suite := range [][][]int64{nil, words("-"), words("a"), words("aaa", "a")} {
			refuse(m, readMachine(other), suite, impl.ErrRange)
			refuse(readMachine(other), m, suite, impl.ErrRange)
		}
	}
	for _, wrong := range append(wrongSuites(), words("b"), words("a", "ab")) {
		refuse(m, m, wrong, impl.ErrRange)
		// A word before the wrong one fails.
		refuse(m, readMachine("machine 1 2 1\nletter 0/1\n"), append(words("a"), wrong...), impl.ErrRange)
	}
}

// TestPromise17FailingMachines tells of the word and the letter that are returned that the outputs are the same before, and different there; and that a machine fails just if it is told so.
func TestPromise17FailingMachines(t *testing.T) {
	t.Parallel()
	source := rand.New(rand.NewSource(172))
	failed, passed := 0, 0
	for _, group := range alikeMachines() {
		for range 12 {
			m, n := group[source.Intn(len(group))], group[source.Intn(len(group))]
			for _, suite := range append(shortSuites(len(m.Next)), randomSuite(source, m, 8, 8), randomSuite(source, m, 30, 12)) {
				named("FirstFailing").compare(t, m, n, suite)
				named("Passes").compare(t, m, n, suite)
				at, letter, code := impl.FirstFailing(m, n, suite)
				if code == impl.ErrNotFound {
					passed++
					at = int64(len(suite))
				} else {
					failed++
					one, two := read(m, 0, suite[at]), read(n, 0, suite[at])
					if !slices.Equal(one[:letter], two[:letter]) || one[letter] == two[letter] {
						t.Errorf("%v and %v: not the first letter of %v, %d", m, n, suite[at], letter)
					}
				}
				for _, w := range suite[:at] {
					if !slices.Equal(read(m, 0, w), read(n, 0, w)) {
						t.Errorf("%v and %v: %v comes before the word %d of %v", m, n, w, at, suite)
					}
				}
			}
		}
	}
	if failed < 1000 || passed < 1000 {
		t.Errorf("only %d machines have failed, and %d passed", failed, passed)
	}
}

func TestPromise17StateCovers(t *testing.T) {
	cover := func(m impl.Machine, want ...string) {
		t.Helper()
		expect(t, "StateCover", impl.StateCover, []any{m}, []any{words(want...), impl.OK})
	}
	cover(silent(auto(1, list(0))), "-")
	cover(silent(auto(1, list(0), list(0), list(0))), "-")
	cover(toggle(), "-", "a")
	cover(machineExample(), "-", "a")
	cover(bell(4), "-", "a", "aa", "aaa")
	// The words are told in the order of the states, not in their own.
	cover(readMachine("machine 3 2 1\nletter 2/0 1/0 1/0\n"), "-", "aa", "a")
	cover(silent(auto(3, list(2, 0, 0), list(1, 0, 0))), "-", "b", "a")
	// The shortest one, and of several ones the first.
	cover(silent(auto(3, list(1, 2, 0), list(2, 2, 0))), "-", "a", "b")
	cover(silent(auto(3, list(0, 0, 0), list(1, 0, 0), list(1, 2, 0))), "-", "b", "bc")
	cover(silent(auto(4, list(1, 3, 1, 0), list(2, 0, 3, 0))), "-", "a", "b", "aa")
	cover(silent(auto(4, list(2, 0, 1, 0), list(1, 3, 3, 0))), "-", "b", "a", "ab")
	cover(silent(auto(10, list(9, 0, 1, 2, 3, 4, 5, 6, 7, 8))), "-", "aaaaaaaaa", "aaaaaaaa", "aaaaaaa", "aaaaaa", "aaaaa", "aaaa", "aaa", "aa", "a")
	for _, lost := range []string{"machine 2 2 1\nletter 0/0 0/1\n", "machine 2 2 1\nletter 0/0 1/1\n", "machine 3 2 2\nletter 2/0 0/0 0/1\nletter 0/1 1/1 2/0\n", "machine 3 1 1\nletter 1/0 0/0 0/0\n", "machine 10 1 1\nletter 1/0 2/0 3/0 4/0 5/0 6/0 7/0 8/0 0/0 0/0\n"} {
		expect(t, "StateCover", impl.StateCover, []any{readMachine(lost)}, []any{nil, impl.ErrState})
		expect(t, "TransitionCover", impl.TransitionCover, []any{readMachine(lost)}, []any{nil, impl.ErrState})
	}
}

func TestPromise17TransitionCovers(t *testing.T) {
	cover := func(m impl.Machine, want ...string) {
		t.Helper()
		expect(t, "TransitionCover", impl.TransitionCover, []any{m}, []any{words(want...), impl.OK})
	}
	cover(silent(auto(1, list(0))), "-", "a")
	cover(silent(auto(1, list(0), list(0), list(0))), "-", "a", "b", "c")
	cover(toggle(), "-", "a", "aa")
	cover(machineExample(), "-", "a", "b", "aa", "ab")
	cover(bell(4), "-", "a", "aa", "aaa", "aaaa")
	cover(silent(auto(3, list(2, 0, 0), list(1, 0, 0))), "-", "a", "b", "aa", "ab", "ba", "bb")
	cover(silent(auto(3, list(0, 0, 0), list(1, 0, 0), list(1, 2, 0))), "-", "a", "b", "c", "ba", "bb", "bc", "bca", "bcb", "bcc")
	cover(silent(auto(4, list(2, 0, 1, 0), list(1, 3, 3, 0))), "-", "a", "b", "aa", "ab", "ba", "bb", "aba", "abb")
}

// TestPromise17CoversOfMachines goes through all short words in their order: the first one that leads to a state is that of the state cover; those that are words of it, and go on with a letter at most, are the transition cover. It has a word for each transition, and the empty word.
func TestPromise17CoversOfMachines(t *testing.T) {
	t.Parallel()
	lost, reached := 0, 0
	for _, m := range slices.Concat(manyMachines(), renumberedCover(100)) {
		named("StateCover").compare(t, m)
		named("TransitionCover").compare(t, m)
		cover, code := impl.StateCover(m)
		all, other := impl.TransitionCover(m)
		if code != other {
			t.Errorf("%v: %d and %d", m, code, other)
		}
		if code != impl.OK {
			lost++
			continue
		}
		reached++
		if int64(len(all)) != 1+m.States*int64(len(m.Next)) {
			t.Errorf("TransitionCover(%v): got %v", m, all)
		}
		if m.States > 5 {
			continue
		}
		short := machineWords(m, int(m.States))
		for s := range m.States {
			first, _ := firstWordFor(short, func(w []int64) bool { return modelEnd(m, 0, w) == s })
			if !slices.Equal(cover[s], first) {
				t.Errorf("StateCover(%v): got %v, but the first word to %d is %v", m, cover, s, first)
			}
		}
		want := slices.DeleteFunc(short, func(w []int64) bool {
			isOf := func(v []int64) bool { return slices.Equal(v, w) || len(w) > 0 && slices.Equal(v, w[:len(w)-1]) }
			return !slices.ContainsFunc(cover, isOf)
		})
		expect(t, "TransitionCover", impl.TransitionCover, []any{m}, []any{want, impl.OK})
	}
	if lost < 200 || reached < 300 {
		t.Errorf("in %d machines states are lost, in %d all are reached", lost, reached)
	}
}

// TestPromise17TransitionsAreUsed tells that each transition is the last one of some word of the transition cover.
func TestPromise17TransitionsAreUsed(t *testing.T) {
	for _, m := range coveredMachines() {
		all, _ := impl.TransitionCover(m)
		used := map[[2]int64]bool{}
		for _, w := range all {
			if len(w) > 0 {
				last := len(w) - 1
				used[[2]int64{w[last], modelEnd(m, 0, w[:last])}] = true
			}
		}
		if len(used) != int(m.States)*len(m.Next) {
			t.Errorf("TransitionCover(%v): only %d transitions are used", m, len(used))
		}
	}
}

func TestPromise17MaximalWords(t *testing.T) {
	m := silent(auto(1, list(0), list(0), list(0)))
	maximal := func(suite, want [][]int64) {
		t.Helper()
		expect(t, "MaximalWords", impl.MaximalWords, []any{m, suite}, []any{want, impl.OK})
	}
	maximal(nil, nil)
	maximal([][]int64{}, nil)
	// The empty word is the beginning of all others, but it stays if it is alone.
	maximal(words("-"), words("-"))
	maximal(words("-", "-", "-"), words("-"))
	maximal(lists(list(), nil), words("-"))
	maximal(words("-", "a"), words("a"))
	maximal(words("b", "-"), words("b"))
	maximal(words("a", "a"), words("a"))
	maximal(words("aa", "a", "-", "aa"), words("aa"))
	maximal(words("a", "aa", "aaa", "aaaa"), words("aaaa"))
	maximal(words("aaaa", "aaa", "aa", "a"), words("aaaa"))
	// Between the word and the one that it begins there may be others, in any order.
	maximal(words("a", "b", "ab"), words("b", "ab"))
	maximal(words("ab", "b", "a"), words("b", "ab"))
	maximal(words("a", "ab", "aab", "aa", "aba"), words("aab", "aba"))
	maximal(words("b", "ba", "bc", "bab", "c"), words("c", "bc", "bab"))
	maximal(words("a", "abc", "ab", "ac", "acc", "bcc"), words("abc", "acc", "bcc"))
	// The order is that of words: first by their lengths, then by their letters.
	maximal(words("aaaa", "c", "ab", "ba", "bbb"), words("c", "ab", "ba", "bbb", "aaaa"))
	maximal(words("cc", "cb", "ca", "bc"), words("bc", "ca", "cb", "cc"))
	// A part of a word that is not its beginning does not count.
	maximal(words("ab", "b", "bab", "aab"), words("ab", "aab", "bab"))
	maximal(words("aba", "ba", "a"), words("ba", "aba"))
	long := repeated(1, impl.MaxWord)
	maximal(lists(long[:impl.MaxWord-1], long), lists(long))
	maximal(lists(long, append(repeated(1, impl.MaxWord-1), 2), long[:impl.MaxWord-1]), lists(long, append(repeated(1, impl.MaxWord-1), 2)))
	maximal(make([][]int64, impl.MaxSuite), words("-"))
	var chain [][]int64
	for length := range impl.MaxSuite {
		chain = append(chain, repeated(0, length+1))
	}
	maximal(chain, chain[impl.MaxSuite-1:])
	for _, wrong := range append(wrongSuites(), append(chain, list(0))) {
		expect(t, "MaximalWords", impl.MaximalWords, []any{m, wrong}, []any{nil, impl.ErrRange})
	}
	expect(t, "MaximalWords", impl.MaximalWords, []any{toggle(), words("a", "b")}, []any{nil, impl.ErrRange})
}

// TestPromise17MaximalWordsOfSuites tells that no maximal word begins with another one, that each word of the suite begins one of them, and that machines pass the suite just if they pass these.
func TestPromise17MaximalWordsOfSuites(t *testing.T) {
	t.Parallel()
	source := rand.New(rand.NewSource(173))
	machines := manyMachines()
	for range 600 {
		m := machines[source.Intn(len(machines))]
		for _, size := range [][2]int{{6, 3}, {20, 6}, {math.MaxInt8, 5}, {40, 60}} {
			suite := randomSuite(source, m, size[0], size[1])
			named("MaximalWords").compare(t, m, suite)
			maximal, _ := impl.MaximalWords(m, suite)
			for i, v := range maximal {
				for k, w := range maximal {
					if i != k && (slices.Equal(v, w) || modelBegins(v, w)) {
						t.Errorf("MaximalWords of %v: %v begins %v", suite, v, w)
					}
				}
			}
			for _, v := range suite {
				if !slices.ContainsFunc(maximal, func(w []int64) bool { return slices.Equal(v, w) || modelBegins(v, w) }) {
					t.Errorf("MaximalWords of %v: %v is lost", suite, v)
				}
			}
			for range 5 {
				n := machines[source.Intn(len(machines))]
				yes, code := impl.Passes(m, n, suite)
				if same, other := impl.Passes(m, n, maximal); same != yes || other != code {
					t.Errorf("%v passes %v: %v, but the maximal words %v", n, suite, yes, same)
				}
			}
		}
	}
}

// TestPromise17MaximalOfAllWords goes through all short words in their order: those that are in the suite, and begin no other one of it, are the maximal words.
func TestPromise17MaximalOfAllWords(t *testing.T) {
	source := rand.New(rand.NewSource(174))
	for _, m := range []impl.Machine{toggle(), machineExample(), silent(auto(1, list(0), list(0), list(0)))} {
		const longest = 5
		short := machineWords(m, longest)
		hasLonger := func(suite [][]int64) bool {
			return slices.ContainsFunc(suite, func(w []int64) bool { return len(w) > longest })
		}
		suites := slices.DeleteFunc(shortSuites(len(m.Next)), hasLonger)
		for range 100 {
			suites = append(suites, randomSuite(source, m, 12, longest))
		}
		for _, suite := range suites {
			want := slices.DeleteFunc(slices.Clone(short), func(w []int64) bool {
				isIn := func(v []int64) bool { return slices.Equal(v, w) }
				begins := func(v []int64) bool { return modelBegins(w, v) }
				return !slices.ContainsFunc(suite, isIn) || slices.ContainsFunc(suite, begins)
			})
			expect(t, "MaximalWords", impl.MaximalWords, []any{m, suite}, []any{want, impl.OK})
		}
	}
}
