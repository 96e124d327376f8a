package impl

import (
	"errors"
	"iter"
	"maps"
	"slices"
	"strconv"
	"strings"
)

// Codes of errors.
const (
	OK          = 0
	ErrInvalid  = 1
	ErrRange    = 2
	ErrLimit    = 3
	ErrState    = 4
	ErrSyntax   = 5
	ErrNotFound = 6
	ErrBudget   = 7
	ErrProof    = 8
)

// Limits of automata and words.
const (
	MaxStates  = 10
	MaxLetters = 3
	MaxWord    = 400
	MaxMonoid  = 400
	MaxText    = 2000
)

// Automaton leads from state to state by letters.
type Automaton struct {
	States int64
	Next   [][]int64
}

// CodeName returns the name of an error code.
func CodeName(code int64) string {
	names := [...]string{
		OK:          "ok",
		ErrInvalid:  "invalid",
		ErrRange:    "range",
		ErrLimit:    "limit",
		ErrState:    "state",
		ErrSyntax:   "syntax",
		ErrNotFound: "notfound",
		ErrBudget:   "budget",
		ErrProof:    "proof",
	}
	if !isBelow(code, int64(len(names))) {
		return ""
	}
	return names[code]
}

// ValidAutomaton reports whether an automaton is valid.
func ValidAutomaton(a Automaton) bool {
	return isFilled(a.States, a.Next, func(t int64) bool { return isBelow(t, a.States) })
}

// isFilled reports whether there may be so many states and letters, and next has a list for each letter with an element for each state, all of which are right.
func isFilled[T any](states int64, next [][]T, isRight func(T) bool) bool {
	letters := len(next)
	if states < 1 || states > MaxStates || letters < 1 || letters > MaxLetters {
		return false
	}
	isWrong := func(element T) bool { return !isRight(element) }
	for _, line := range next {
		if int64(len(line)) != states || slices.ContainsFunc(line, isWrong) {
			return false
		}
	}
	return true
}

// SameAutomaton reports whether two automata are deeply equal.
func SameAutomaton(a, b Automaton) bool {
	return a.States == b.States && slices.EqualFunc(a.Next, b.Next, slices.Equal)
}

// isBelow reports whether a number is one of the first ones, from 0 on.
func isBelow(number, count int64) bool {
	return number >= 0 && number < count
}

func areBelow(list []int64, count int64) bool {
	for _, number := range list {
		if !isBelow(number, count) {
			return false
		}
	}
	return true
}

// isStateList reports whether a list tells a state for each of so many states.
func isStateList(states int64, list []int64) bool {
	return int64(len(list)) == states && areBelow(list, states)
}

// isSet reports whether a list is a set of so many states.
func isSet(states int64, list []int64) bool {
	for i, s := range list {
		if !isBelow(s, states) || i > 0 && list[i-1] >= s {
			return false
		}
	}
	return true
}

// isLetterList reports whether a list is a word of so many letters.
func isLetterList(letters int, w []int64) bool {
	return len(w) <= MaxWord && areBelow(w, int64(letters))
}

// AutomatonText returns the text of an automaton.
func AutomatonText(a Automaton) string {
	if !ValidAutomaton(a) {
		return ""
	}
	return lettersText("automaton", []int64{a.States}, a.Next, numberText)
}

// lettersText returns the text of an automaton of a kind; counts stand in front of the number of letters, and wordOf returns the word for an element of next.
func lettersText[T any](kind string, counts []int64, next [][]T, wordOf func(T) string) string {
	var text strings.Builder
	text.WriteString(kind)
	writeWords(&text, append(counts, int64(len(next))), numberText)
	for _, line := range next {
		text.WriteString("letter")
		writeWords(&text, line, wordOf)
	}
	return text.String()
}

// writeWords ends a line with a word for each element of a list.
func writeWords[T any](text *strings.Builder, list []T, wordOf func(T) string) {
	for _, element := range list {
		text.WriteByte(' ')
		text.WriteString(wordOf(element))
	}
	text.WriteByte('\n')
}

func numberText(number int64) string {
	return strconv.FormatInt(number, 10)
}

// ReadAutomaton returns the automaton with the given text.
func ReadAutomaton(text string) (Automaton, int64) {
	states, next, err := parseLetters(text, "automaton", (*textReader).state)
	if err != nil {
		return Automaton{}, codeOf(err)
	}
	return Automaton{states, next}, OK
}

// textFault is the error of a parser: the code that its caller returns, and the byte behind which the text is wrong.
type textFault struct {
	code   int64
	offset int
}

func (f textFault) Error() string {
	return CodeName(f.code) + " at byte " + strconv.Itoa(f.offset)
}

// codeOf returns the code of an error of a parser.
func codeOf(err error) int64 {
	var fault textFault
	if errors.As(err, &fault) {
		return fault.code
	}
	return OK
}

// textReader takes parts from a text. Behind its first fault it takes nothing, so that a parser need not ask after each part.
type textReader struct {
	text   string
	offset int
	fault  error
}

func (r *textReader) fail() {
	if r.fault == nil {
		r.fault = textFault{ErrSyntax, r.offset}
	}
}

// takes reports whether the text goes on with a part, which it takes then.
func (r *textReader) takes(part string) bool {
	if r.fault != nil || !strings.HasPrefix(r.text[r.offset:], part) {
		return false
	}
	r.offset += len(part)
	return true
}

func (r *textReader) expect(part string) {
	if !r.takes(part) {
		r.fail()
	}
}

// number takes a number between two that are not negative; it is 0 behind a fault.
func (r *textReader) number(least, most int64) int64 {
	end := r.offset
	for end < len(r.text) && r.text[end] >= '0' && r.text[end] <= '9' {
		end++
	}
	digits := r.text[r.offset:end]
	value, err := strconv.ParseInt(digits, 10, 64)
	// Only plain decimal is written back as it was read.
	if r.fault != nil || err != nil || numberText(value) != digits || value < least || value > most {
		r.fail()
		return 0
	}
	r.offset = end
	return value
}

// state takes one of so many states.
func (r *textReader) state(states int64) int64 {
	return r.number(0, states-1)
}

func (r *textReader) expectEnd() {
	if r.offset != len(r.text) {
		r.fail()
	}
}

// parseLetters returns the number of states and the list of each letter, of an automaton of a kind with the given text; take takes the element for a state.
func parseLetters[T any](text, kind string, take func(r *textReader, states int64) T) (int64, [][]T, error) {
	if len(text) > MaxText {
		return 0, nil, textFault{ErrRange, MaxText}
	}
	r := &textReader{text: text}
	r.expect(kind + " ")
	states := r.number(1, MaxStates)
	r.expect(" ")
	letters := r.number(1, MaxLetters)
	r.expect("\n")
	next := make([][]T, letters)
	for letter := range next {
		next[letter] = parseLine(r, states, take)
	}
	r.expectEnd()
	return states, next, r.fault
}

func parseLine[T any](r *textReader, states int64, take func(r *textReader, states int64) T) []T {
	line := make([]T, states)
	r.expect("letter")
	for s := range line {
		r.expect(" ")
		line[s] = take(r, states)
	}
	r.expect("\n")
	return line
}

// ValidWord reports whether a list is a word of an automaton.
func ValidWord(a Automaton, w []int64) bool {
	return ValidAutomaton(a) && isLetterList(len(a.Next), w)
}

// WordText returns the text of a list of letters.
func WordText(w []int64) string {
	if len(w) > MaxWord || !areBelow(w, MaxLetters) {
		return ""
	}
	if len(w) == 0 {
		return "-"
	}
	text := make([]byte, len(w))
	for i, letter := range w {
		text[i] = 'a' + byte(letter)
	}
	return string(text)
}

// ReadWord returns the list of letters with the given text.
func ReadWord(text string) ([]int64, int64) {
	if text == "-" {
		return nil, OK
	}
	if text == "" || len(text) > MaxWord {
		return nil, ErrSyntax
	}
	w := make([]int64, len(text))
	for i := range w {
		w[i] = int64(text[i]) - 'a'
	}
	if !areBelow(w, MaxLetters) {
		return nil, ErrSyntax
	}
	return w, OK
}

// actionKey tells for each state to which one a word leads. The places behind the last state stay as they are in identity, so that equal actions are equal keys.
type actionKey [MaxStates]int64

func identity() actionKey {
	var act actionKey
	for s := range act {
		act[s] = int64(s)
	}
	return act
}

// then returns the action of a word that goes on with one more letter.
func (act actionKey) then(next []int64) actionKey {
	for s := range next {
		act[s] = next[act[s]]
	}
	// With fewer than MaxStates states, the rest still leads from each place to itself.
	return act
}

func (act actionKey) list(states int64) []int64 {
	return slices.Clone(act[:states])
}

func wordAction(a Automaton, w []int64) actionKey {
	act := identity()
	for _, letter := range w {
		act = act.then(a.Next[letter])
	}
	return act
}

// marks has a mark for each state that belongs to a set.
type marks [MaxStates]bool

func markSet(set []int64) marks {
	var marked marks
	for _, s := range set {
		marked[s] = true
	}
	return marked
}

// set returns the marked states, in ascending order.
func (m marks) set() []int64 {
	var set []int64
	for s, marked := range m {
		if marked {
			set = append(set, int64(s))
		}
	}
	return set
}

// ActionOf returns the action of a word.
func ActionOf(a Automaton, w []int64) ([]int64, int64) {
	if !ValidAutomaton(a) {
		return nil, ErrInvalid
	}
	if !isLetterList(len(a.Next), w) {
		return nil, ErrRange
	}
	return wordAction(a, w).list(a.States), OK
}

// checkSetAndWord returns the first error of a function of a set and a word.
func checkSetAndWord(a Automaton, set, w []int64) int64 {
	if !ValidAutomaton(a) {
		return ErrInvalid
	}
	if !isSet(a.States, set) || !isLetterList(len(a.Next), w) {
		return ErrRange
	}
	return OK
}

// ImageOf returns the states to which a word leads.
func ImageOf(a Automaton, set, w []int64) ([]int64, int64) {
	if code := checkSetAndWord(a, set, w); code != OK {
		return nil, code
	}
	act := wordAction(a, w)
	var image marks
	for _, s := range set {
		image[act[s]] = true
	}
	return image.set(), OK
}

// PreimageOf returns the states from which a word leads to a set.
func PreimageOf(a Automaton, set, w []int64) ([]int64, int64) {
	if code := checkSetAndWord(a, set, w); code != OK {
		return nil, code
	}
	act := wordAction(a, w)
	marked := markSet(set)
	var preimage marks
	for s := range a.States {
		preimage[s] = marked[act[s]]
	}
	return preimage.set(), OK
}

// wordWithAction is a word, and what it does.
type wordWithAction struct {
	word []int64
	act  actionKey
}

// extended yields each of the words with each letter behind it; if the words are in order, so are those that it yields.
func extended(a Automaton, words []wordWithAction) iter.Seq[wordWithAction] {
	return func(yield func(wordWithAction) bool) {
		for _, w := range words {
			for letter, next := range a.Next {
				longer := append(slices.Clone(w.word), int64(letter))
				if !yield(wordWithAction{longer, w.act.then(next)}) {
					return
				}
			}
		}
	}
}

// firstWords returns the first word of each action, in order, or ErrLimit if there are too many.
// The beginning of a first word is one too (a word that does the same and comes before it could take its place), so only first words are extended.
func firstWords(a Automaton) ([]wordWithAction, int64) {
	all := []wordWithAction{{nil, identity()}}
	known := map[actionKey]bool{identity(): true}
	latest := all
	code := int64(OK)
search:
	for len(latest) > 0 {
		var longer []wordWithAction
		for w := range extended(a, latest) {
			if known[w.act] {
				continue
			}
			if len(known) == MaxMonoid {
				all, code = nil, ErrLimit
				break search
			}
			known[w.act] = true
			longer = append(longer, w)
		}
		all = append(all, longer...)
		latest = longer
	}
	return all, code
}

// MonoidOf returns the actions of all words.
func MonoidOf(a Automaton) ([][]int64, int64) {
	if !ValidAutomaton(a) {
		return nil, ErrInvalid
	}
	words, code := firstWords(a)
	var actions [][]int64
	for _, w := range words {
		actions = append(actions, w.act.list(a.States))
	}
	return actions, code
}

// WordFor returns the first word with an action.
func WordFor(a Automaton, action []int64) ([]int64, int64) {
	if !ValidAutomaton(a) {
		return nil, ErrInvalid
	}
	if !isStateList(a.States, action) {
		return nil, ErrRange
	}
	words, code := firstWords(a)
	if code != OK {
		return nil, code
	}
	for _, w := range words {
		if slices.Equal(w.act[:a.States], action) {
			return w.word, OK
		}
	}
	return nil, ErrNotFound
}

// distancesFrom tells how many letters lead from s to each state at least, or -1 for one to which no word leads.
func distancesFrom(a Automaton, s int64) [MaxStates]int64 {
	var distance [MaxStates]int64
	for t := range distance {
		distance[t] = -1
	}
	distance[s] = 0
	queue := []int64{s}
	for len(queue) > 0 {
		t := queue[0]
		queue = queue[1:]
		for _, next := range a.Next {
			if distance[next[t]] < 0 {
				distance[next[t]] = distance[t] + 1
				queue = append(queue, next[t])
			}
		}
	}
	return distance
}

func reachedMarks(a Automaton, s int64) marks {
	var reached marks
	for t, distance := range distancesFrom(a, s) {
		reached[t] = distance >= 0
	}
	return reached
}

// ReachedFrom returns the states to which words lead.
func ReachedFrom(a Automaton, s int64) ([]int64, int64) {
	if !ValidAutomaton(a) {
		return nil, ErrInvalid
	}
	if !isBelow(s, a.States) {
		return nil, ErrRange
	}
	return reachedMarks(a, s).set(), OK
}

// reachedFromAll marks the states to which words lead from each state.
func reachedFromAll(a Automaton) marks {
	common := reachedMarks(a, 0)
	for s := range a.States {
		reached := reachedMarks(a, s)
		for t := range common {
			common[t] = common[t] && reached[t]
		}
	}
	return common
}

func isConnected(a Automaton) bool {
	return int64(len(reachedFromAll(a).set())) == a.States
}

// IsConnected reports whether words lead from each state to each one.
func IsConnected(a Automaton) (bool, int64) {
	if !ValidAutomaton(a) {
		return false, ErrInvalid
	}
	return isConnected(a), OK
}

// SinkOf returns the closed set that is a part of all.
func SinkOf(a Automaton) ([]int64, int64) {
	if !ValidAutomaton(a) {
		return nil, ErrInvalid
	}
	// The states that are reached from s are the least closed set with s, so what these have in common is a part of all.
	sink := reachedFromAll(a).set()
	if len(sink) == 0 {
		return nil, ErrNotFound
	}
	return sink, OK
}

// PeriodOf returns the greatest common divisor of the lengths of all ways around.
func PeriodOf(a Automaton) (int64, int64) {
	if !ValidAutomaton(a) {
		return 0, ErrInvalid
	}
	if !isConnected(a) {
		return 0, ErrState
	}
	// Around a way, the steps by which its letters miss the distances add up to its length.
	distance := distancesFrom(a, 0)
	period := int64(0)
	for _, next := range a.Next {
		for s, t := range next {
			period = commonDivisor(period, distance[s]+1-distance[t])
		}
	}
	return period, OK
}

// commonDivisor returns the greatest common divisor of two numbers that are not negative.
func commonDivisor(m, n int64) int64 {
	for n != 0 {
		m, n = n, m%n
	}
	return m
}

// isDivision reports whether a list is a division of so many states.
func isDivision(states int64, class []int64) bool {
	if int64(len(class)) != states {
		return false
	}
	used := int64(0)
	for _, c := range class {
		if !isBelow(c, used+1) {
			return false
		}
		used = max(used, c+1)
	}
	return true
}

// divisionOf returns the division whose classes have the same labels.
func divisionOf(label []int64) []int64 {
	class := make([]int64, len(label))
	used := int64(0)
	for s := range label {
		if first := slices.Index(label, label[s]); first < s {
			class[s] = class[first]
		} else {
			class[s] = used
			used++
		}
	}
	return class
}

// leastStates returns the least state of each class of a division.
func leastStates(class []int64) []int64 {
	var least []int64
	for s, c := range class {
		if c == int64(len(least)) {
			least = append(least, int64(s))
		}
	}
	return least
}

// keepsClasses reports whether a division is a congruence.
func keepsClasses(a Automaton, class []int64) bool {
	least := leastStates(class)
	for _, next := range a.Next {
		for s, t := range next {
			if class[t] != class[next[least[class[s]]]] {
				return false
			}
		}
	}
	return true
}

// IsCongruence reports whether a division is a congruence.
func IsCongruence(a Automaton, class []int64) (bool, int64) {
	if !ValidAutomaton(a) {
		return false, ErrInvalid
	}
	if !isDivision(a.States, class) {
		return false, ErrRange
	}
	return keepsClasses(a, class), OK
}

// LeastCongruence returns the congruence with the most classes that puts two states together.
func LeastCongruence(a Automaton, s, t int64) ([]int64, int64) {
	if !ValidAutomaton(a) {
		return nil, ErrInvalid
	}
	if !isBelow(s, a.States) || !isBelow(t, a.States) {
		return nil, ErrRange
	}
	label := identity().list(a.States)
	joinStates(a, label, s, t)
	return divisionOf(label), OK
}

// joinStates gives two states one label, and those to which each letter leads from them.
func joinStates(a Automaton, label []int64, s, t int64) {
	kept, lost := label[s], label[t]
	if kept == lost {
		return
	}
	for u := range label {
		if label[u] == lost {
			label[u] = kept
		}
	}
	for _, next := range a.Next {
		joinStates(a, label, next[s], next[t])
	}
}

// QuotientOf returns the automaton of the classes of a congruence.
func QuotientOf(a Automaton, class []int64) (Automaton, int64) {
	if !ValidAutomaton(a) {
		return Automaton{}, ErrInvalid
	}
	if !isDivision(a.States, class) {
		return Automaton{}, ErrRange
	}
	if !keepsClasses(a, class) {
		return Automaton{}, ErrState
	}
	least := leastStates(class)
	return buildAutomaton(int64(len(least)), len(a.Next), func(letter int, c int64) int64 {
		return class[a.Next[letter][least[c]]]
	}), OK
}

// buildAutomaton returns the automaton for which lead tells where each letter leads from each state.
func buildAutomaton(states int64, letters int, lead func(letter int, s int64) int64) Automaton {
	built := Automaton{States: states}
	for letter := range letters {
		next := make([]int64, states)
		for s := range states {
			next[s] = lead(letter, s)
		}
		built.Next = append(built.Next, next)
	}
	return built
}

// ProductOf returns the automaton of pairs of states.
func ProductOf(a, b Automaton) (Automaton, int64) {
	if !ValidAutomaton(a) || !ValidAutomaton(b) {
		return Automaton{}, ErrInvalid
	}
	if len(a.Next) != len(b.Next) {
		return Automaton{}, ErrRange
	}
	n := b.States
	if a.States*n > MaxStates {
		return Automaton{}, ErrLimit
	}
	return buildAutomaton(a.States*n, len(a.Next), func(letter int, s int64) int64 {
		return a.Next[letter][s/n]*n + b.Next[letter][s%n]
	}), OK
}

// RestrictTo returns the automaton of a closed set.
func RestrictTo(a Automaton, set []int64) (Automaton, int64) {
	if !ValidAutomaton(a) {
		return Automaton{}, ErrInvalid
	}
	if !isSet(a.States, set) {
		return Automaton{}, ErrRange
	}
	if len(set) == 0 || !isClosed(a, set) {
		return Automaton{}, ErrState
	}
	return selectStates(a, set), OK
}

func isClosed(a Automaton, set []int64) bool {
	marked := markSet(set)
	for _, next := range a.Next {
		for _, s := range set {
			if !marked[next[s]] {
				return false
			}
		}
	}
	return true
}

// selectStates returns the automaton whose states are those of a list, in its order; they have to be closed.
func selectStates(a Automaton, list []int64) Automaton {
	return buildAutomaton(int64(len(list)), len(a.Next), func(letter int, s int64) int64 {
		return int64(slices.Index(list, a.Next[letter][list[s]]))
	})
}

// RenumberStates returns the automaton with its states in another order.
func RenumberStates(a Automaton, order []int64) (Automaton, int64) {
	if !ValidAutomaton(a) {
		return Automaton{}, ErrInvalid
	}
	if !isStateList(a.States, order) || len(markSet(order).set()) != len(order) {
		return Automaton{}, ErrRange
	}
	return selectStates(a, order), OK
}

// RenumberingOf returns the first order that leads from an automaton to another one.
func RenumberingOf(a, b Automaton) ([]int64, int64) {
	if !ValidAutomaton(a) || !ValidAutomaton(b) {
		return nil, ErrInvalid
	}
	if a.States != b.States || len(a.Next) != len(b.Next) {
		return nil, ErrNotFound
	}
	views := [2][]view{viewsOf(a), viewsOf(b)}
	if !maps.Equal(countViews(views[0]), countViews(views[1])) {
		return nil, ErrNotFound
	}
	order, ok := renumbering{a, b, views}.complete(openNumbering())
	if !ok {
		return nil, ErrNotFound
	}
	return order, OK
}

// view is what can be seen of an automaton from one state: for each state that is reached, in the order in which they are found, the number of the one to which each letter leads, and how many states it leads to this one.
// Views serve to leave out orders that cannot fit, as there may be millions of them.
type view [MaxStates][MaxLetters]struct{ to, arrivals int64 }

func viewsOf(a Automaton) []view {
	var arrivals [MaxStates][MaxLetters]int64
	for letter, next := range a.Next {
		for _, t := range next {
			arrivals[t][letter]++
		}
	}
	views := make([]view, a.States)
	for s := range views {
		found := []int64{int64(s)}
		for i := 0; i < len(found); i++ {
			for letter, next := range a.Next {
				t := next[found[i]]
				if !slices.Contains(found, t) {
					found = append(found, t)
				}
				views[s][i][letter].to = int64(slices.Index(found, t))
				views[s][i][letter].arrivals = arrivals[found[i]][letter]
			}
		}
	}
	return views
}

func countViews(views []view) map[view]int64 {
	count := map[view]int64{}
	for _, seen := range views {
		count[seen]++
	}
	return count
}

// numbering is a part of an order: the state for each place, and the reverse, or -1 where they are still open.
type numbering struct {
	order, place [MaxStates]int64
}

func openNumbering() numbering {
	var n numbering
	for s := range MaxStates {
		n.order[s], n.place[s] = -1, -1
	}
	return n
}

// renumbering is the search for an order that leads from a to b.
type renumbering struct {
	a, b  Automaton
	views [2][]view
}

// complete returns the first order of which a numbering is a part.
func (r renumbering) complete(n numbering) ([]int64, bool) {
	open := slices.Index(n.order[:r.b.States], -1)
	if open < 0 {
		return slices.Clone(n.order[:r.b.States]), true
	}
	for s := range r.a.States {
		if r.views[0][s] != r.views[1][open] {
			continue
		}
		longer := n
		if !r.match(&longer, int64(open), s) {
			continue
		}
		if order, ok := r.complete(longer); ok {
			return order, true
		}
	}
	return nil, false
}

// match puts a state at a place, and with it all states to which words lead from there; it reports whether they fit.
func (r renumbering) match(n *numbering, place, s int64) bool {
	if n.order[place] >= 0 || n.place[s] >= 0 {
		return n.order[place] == s
	}
	n.order[place], n.place[s] = s, place
	for letter := range r.a.Next {
		if !r.match(n, r.b.Next[letter][place], r.a.Next[letter][s]) {
			return false
		}
	}
	return true
}
