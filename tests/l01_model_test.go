package tests

import (
	"fmt"
	"slices"
	"sort"
	"strconv"
	"strings"

	"loop.example/g01102/impl"
)

// The functions of this file tell what those of chapter 1 should return, as directly as the document does: by trying all words, sets, divisions and orders where it speaks of all.

func modelCodeName(code int64) string {
	if code < 0 || code > 8 {
		return ""
	}
	return strings.Fields("ok invalid range limit state syntax notfound budget proof")[code]
}

func modelValid(a impl.Automaton) bool {
	valid := 1 <= a.States && a.States <= 10 && 1 <= len(a.Next) && len(a.Next) <= 3
	for _, next := range a.Next {
		valid = valid && modelIsAction(a, next)
	}
	return valid
}

func modelIsAction(a impl.Automaton, list []int64) bool {
	return int64(len(list)) == a.States && modelAllBelow(list, a.States)
}

func modelAllBelow(list []int64, limit int64) bool {
	return !slices.ContainsFunc(list, func(n int64) bool { return n < 0 || n >= limit })
}

func modelIsSet(a impl.Automaton, set []int64) bool {
	sorted := slices.IsSorted(set) && len(slices.Compact(slices.Clone(set))) == len(set)
	return sorted && modelAllBelow(set, a.States)
}

func modelIsState(a impl.Automaton, s int64) bool { return 0 <= s && s < a.States }

func modelSame(a, b impl.Automaton) bool {
	// Nil and empty slices print alike.
	return fmt.Sprint(a) == fmt.Sprint(b)
}

func modelText(a impl.Automaton) string {
	if !modelValid(a) {
		return ""
	}
	text := fmt.Sprintf("automaton %d %d\n", a.States, len(a.Next))
	for _, next := range a.Next {
		text += "letter " + strings.Trim(fmt.Sprint(next), "[]") + "\n"
	}
	return text
}

// modelRead guesses the automaton of a text, and looks whether it has this text.
func modelRead(text string) (impl.Automaton, int64) {
	if len(text) > 2000 {
		return impl.Automaton{}, impl.ErrRange
	}
	var a impl.Automaton
	for i, line := range strings.Split(text, "\n") {
		fields := strings.Split(line, " ")
		var numbers []int64
		for _, field := range fields[1:] {
			n, _ := strconv.ParseInt(field, 10, 64)
			numbers = append(numbers, n)
		}
		if i == 0 && len(numbers) > 0 {
			a.States = numbers[0]
		} else if fields[0] == "letter" {
			a.Next = append(a.Next, numbers)
		}
	}
	if !modelValid(a) || modelText(a) != text {
		return impl.Automaton{}, impl.ErrSyntax
	}
	return a, impl.OK
}

func modelValidWord(a impl.Automaton, w []int64) bool {
	return modelValid(a) && len(w) <= 400 && modelAllBelow(w, int64(len(a.Next)))
}

func modelWordText(w []int64) string {
	if len(w) > 400 || !modelAllBelow(w, 3) {
		return ""
	}
	text := ""
	for _, letter := range w {
		text += string("abc"[letter])
	}
	if text == "" {
		return "-"
	}
	return text
}

func modelReadWord(text string) ([]int64, int64) {
	if text == "-" {
		return nil, impl.OK
	}
	var w []int64
	for i := range len(text) {
		w = append(w, int64(strings.IndexByte("abc", text[i])))
	}
	if len(w) == 0 || modelWordText(w) != text {
		return nil, impl.ErrSyntax
	}
	return w, impl.OK
}

// modelLead tells to which state a word leads from s.
func modelLead(a impl.Automaton, s int64, w []int64) int64 {
	for _, letter := range w {
		s = a.Next[letter][s]
	}
	return s
}

func modelAction(a impl.Automaton, w []int64) []int64 {
	var action []int64
	for s := range a.States {
		action = append(action, modelLead(a, s, w))
	}
	return action
}

func modelActionOf(a impl.Automaton, w []int64) ([]int64, int64) {
	if !modelValid(a) {
		return nil, impl.ErrInvalid
	}
	if !modelValidWord(a, w) {
		return nil, impl.ErrRange
	}
	return modelAction(a, w), impl.OK
}

// modelSetOf returns the states of an automaton for which belongs is true.
func modelSetOf(a impl.Automaton, belongs func(s int64) bool) []int64 {
	var set []int64
	for s := range a.States {
		if belongs(s) {
			set = append(set, s)
		}
	}
	return set
}

func modelImageOf(a impl.Automaton, set, w []int64) ([]int64, int64) {
	if !modelValid(a) {
		return nil, impl.ErrInvalid
	}
	if !modelIsSet(a, set) || !modelValidWord(a, w) {
		return nil, impl.ErrRange
	}
	return modelSetOf(a, func(t int64) bool {
		return slices.ContainsFunc(set, func(s int64) bool { return modelLead(a, s, w) == t })
	}), impl.OK
}

func modelPreimageOf(a impl.Automaton, set, w []int64) ([]int64, int64) {
	if !modelValid(a) {
		return nil, impl.ErrInvalid
	}
	if !modelIsSet(a, set) || !modelValidWord(a, w) {
		return nil, impl.ErrRange
	}
	return modelSetOf(a, func(s int64) bool { return slices.Contains(set, modelLead(a, s, w)) }), impl.OK
}

// modelFirstWords returns the first words of all actions, in order, or nil if there are more than 400. The texts of words are sorted by themselves.
func modelFirstWords(a impl.Automaton) [][]int64 {
	first := map[string]string{}
	var order []string
	level := []string{""}
	for len(level) > 0 {
		var longer []string
		for _, text := range level {
			w, _ := modelReadWord(text)
			action := fmt.Sprint(modelAction(a, w))
			if _, known := first[action]; known {
				continue
			}
			first[action] = text
			order = append(order, text)
			for letter := range a.Next {
				longer = append(longer, text+string("abc"[letter]))
			}
		}
		if len(order) > 400 {
			return nil
		}
		sort.Strings(longer)
		level = longer
	}
	var words [][]int64
	for _, text := range order {
		w, _ := modelReadWord(text)
		words = append(words, w)
	}
	return words
}

func modelMonoidOf(a impl.Automaton) ([][]int64, int64) {
	if !modelValid(a) {
		return nil, impl.ErrInvalid
	}
	var all [][]int64
	for _, w := range modelFirstWords(a) {
		all = append(all, modelAction(a, w))
	}
	if all == nil {
		return nil, impl.ErrLimit
	}
	return all, impl.OK
}

func modelWordFor(a impl.Automaton, action []int64) ([]int64, int64) {
	if !modelValid(a) {
		return nil, impl.ErrInvalid
	}
	if !modelIsAction(a, action) {
		return nil, impl.ErrRange
	}
	words := modelFirstWords(a)
	if words == nil {
		return nil, impl.ErrLimit
	}
	for _, w := range words {
		if slices.Equal(modelAction(a, w), action) {
			return w, impl.OK
		}
	}
	return nil, impl.ErrNotFound
}

// modelLeads tells whether a word leads from s to t; it takes one step more as long as there is something new.
func modelLeads(a impl.Automaton, s, t int64) bool {
	reached := map[int64]bool{s: true}
	for range a.States {
		for u := range a.States {
			for _, next := range a.Next {
				if reached[u] {
					reached[next[u]] = true
				}
			}
		}
	}
	return reached[t]
}

func modelReachedFrom(a impl.Automaton, s int64) ([]int64, int64) {
	if !modelValid(a) {
		return nil, impl.ErrInvalid
	}
	if !modelIsState(a, s) {
		return nil, impl.ErrRange
	}
	return modelSetOf(a, func(t int64) bool { return modelLeads(a, s, t) }), impl.OK
}

func modelIsConnected(a impl.Automaton) (bool, int64) {
	if !modelValid(a) {
		return false, impl.ErrInvalid
	}
	for s := range a.States {
		for t := range a.States {
			if !modelLeads(a, s, t) {
				return false, impl.OK
			}
		}
	}
	return true, impl.OK
}

func modelIsClosed(a impl.Automaton, set []int64) bool {
	for _, next := range a.Next {
		for _, s := range set {
			if !slices.Contains(set, next[s]) {
				return false
			}
		}
	}
	return true
}

// modelClosedSets returns all closed sets that are not empty.
func modelClosedSets(a impl.Automaton) [][]int64 {
	var out [][]int64
	for bits := 1; bits < 1<<a.States; bits++ {
		set := modelSetOf(a, func(s int64) bool { return bits>>s&1 == 1 })
		if modelIsClosed(a, set) {
			out = append(out, set)
		}
	}
	return out
}

func modelSinkOf(a impl.Automaton) ([]int64, int64) {
	if !modelValid(a) {
		return nil, impl.ErrInvalid
	}
	all := modelClosedSets(a)
	for _, sink := range all {
		inAll := !slices.ContainsFunc(all, func(set []int64) bool {
			return slices.ContainsFunc(sink, func(s int64) bool { return !slices.Contains(set, s) })
		})
		if inAll {
			return sink, impl.OK
		}
	}
	return nil, impl.ErrNotFound
}

// modelPeriodOf looks at the words with so many letters that each way around is put together from those.
func modelPeriodOf(a impl.Automaton) (int64, int64) {
	if connected, code := modelIsConnected(a); code != impl.OK {
		return 0, code
	} else if !connected {
		return 0, impl.ErrState
	}
	returns := map[int64]bool{}
	for s := range a.States {
		at := map[int64]bool{s: true}
		for length := range 2 * a.States {
			then := map[int64]bool{}
			for t := range at {
				for _, next := range a.Next {
					then[next[t]] = true
				}
			}
			at = then
			returns[length+1] = returns[length+1] || at[s]
		}
	}
	for period := 2 * a.States; ; period-- {
		dividesAll := true
		for length, yes := range returns {
			dividesAll = dividesAll && (!yes || length%period == 0)
		}
		if dividesAll {
			return period, impl.OK
		}
	}
}

func modelIsDivision(a impl.Automaton, class []int64) bool {
	if int64(len(class)) != a.States || class[0] != 0 {
		return false
	}
	for s := range class {
		if s > 0 && !slices.Contains(class[:s], class[s]) && class[s] != slices.Max(class[:s])+1 {
			return false
		}
	}
	return true
}

func modelKeeps(a impl.Automaton, class []int64) bool {
	for _, next := range a.Next {
		for s := range class {
			for t := range class {
				if class[s] == class[t] && class[next[s]] != class[next[t]] {
					return false
				}
			}
		}
	}
	return true
}

func modelIsCongruence(a impl.Automaton, class []int64) (bool, int64) {
	if !modelValid(a) {
		return false, impl.ErrInvalid
	}
	if !modelIsDivision(a, class) {
		return false, impl.ErrRange
	}
	return modelKeeps(a, class), impl.OK
}

// modelDivisions calls visit with all divisions of so many states.
func modelDivisions(states int64, visit func(class []int64)) {
	var class []int64
	var grow func(classes int64)
	grow = func(classes int64) {
		if int64(len(class)) == states {
			visit(slices.Clone(class))
			return
		}
		for c := range classes + 1 {
			class = append(class, c)
			grow(max(classes, c+1))
			class = class[:len(class)-1]
		}
	}
	grow(0)
}

func modelLeastCongruence(a impl.Automaton, s, t int64) ([]int64, int64) {
	if !modelValid(a) {
		return nil, impl.ErrInvalid
	}
	if !modelIsState(a, s) || !modelIsState(a, t) {
		return nil, impl.ErrRange
	}
	var best []int64
	modelDivisions(a.States, func(class []int64) {
		more := best == nil || slices.Max(class) > slices.Max(best)
		if class[s] == class[t] && more && modelKeeps(a, class) {
			best = class
		}
	})
	return best, impl.OK
}

func modelQuotientOf(a impl.Automaton, class []int64) (impl.Automaton, int64) {
	if congruent, code := modelIsCongruence(a, class); code != impl.OK {
		return impl.Automaton{}, code
	} else if !congruent {
		return impl.Automaton{}, impl.ErrState
	}
	q := impl.Automaton{States: slices.Max(class) + 1}
	for _, next := range a.Next {
		list := make([]int64, q.States)
		for s := range next {
			list[class[s]] = class[next[s]]
		}
		q.Next = append(q.Next, list)
	}
	return q, impl.OK
}

func modelProductOf(a, b impl.Automaton) (impl.Automaton, int64) {
	if !modelValid(a) || !modelValid(b) {
		return impl.Automaton{}, impl.ErrInvalid
	}
	if len(a.Next) != len(b.Next) {
		return impl.Automaton{}, impl.ErrRange
	}
	p := impl.Automaton{States: a.States * b.States}
	if p.States > 10 {
		return impl.Automaton{}, impl.ErrLimit
	}
	for letter := range a.Next {
		var list []int64
		for i := range a.States {
			for k := range b.States {
				list = append(list, a.Next[letter][i]*b.States+b.Next[letter][k])
			}
		}
		p.Next = append(p.Next, list)
	}
	return p, impl.OK
}

// modelSelect returns the automaton whose state i is the state list[i] of a.
func modelSelect(a impl.Automaton, list []int64) impl.Automaton {
	number := map[int64]int64{}
	for i, s := range list {
		number[s] = int64(i)
	}
	out := impl.Automaton{States: int64(len(list))}
	for _, next := range a.Next {
		var numbers []int64
		for _, s := range list {
			numbers = append(numbers, number[next[s]])
		}
		out.Next = append(out.Next, numbers)
	}
	return out
}

func modelRestrictTo(a impl.Automaton, set []int64) (impl.Automaton, int64) {
	if !modelValid(a) {
		return impl.Automaton{}, impl.ErrInvalid
	}
	if !modelIsSet(a, set) {
		return impl.Automaton{}, impl.ErrRange
	}
	if len(set) == 0 || !modelIsClosed(a, set) {
		return impl.Automaton{}, impl.ErrState
	}
	return modelSelect(a, set), impl.OK
}

func modelIsOrder(a impl.Automaton, order []int64) bool {
	sorted := slices.Sorted(slices.Values(order))
	return int64(len(order)) == a.States && modelIsSet(a, sorted)
}

func modelRenumberStates(a impl.Automaton, order []int64) (impl.Automaton, int64) {
	if !modelValid(a) {
		return impl.Automaton{}, impl.ErrInvalid
	}
	if !modelIsOrder(a, order) {
		return impl.Automaton{}, impl.ErrRange
	}
	return modelSelect(a, order), impl.OK
}

// modelOrders returns all orders of so many states, the lexicographically first ones first.
func modelOrders(states int64) [][]int64 {
	out := [][]int64{nil}
	for range states {
		var longer [][]int64
		for _, order := range out {
			for s := range states {
				if !slices.Contains(order, s) {
					longer = append(longer, append(slices.Clone(order), s))
				}
			}
		}
		out = longer
	}
	return out
}

// modelRenumberingOf tries all orders, so it is for few states.
func modelRenumberingOf(a, b impl.Automaton) ([]int64, int64) {
	if !modelValid(a) || !modelValid(b) {
		return nil, impl.ErrInvalid
	}
	if a.States == b.States && len(a.Next) == len(b.Next) {
		for _, order := range modelOrders(a.States) {
			if modelSame(modelSelect(a, order), b) {
				return order, impl.OK
			}
		}
	}
	return nil, impl.ErrNotFound
}
