package tests

import (
	"math"
	"reflect"
	"slices"
	"strings"
	"testing"

	"loop.example/g01102/impl"
)

func chapter1Pools() pools {
	automata := append(invalidAutomata(), validAutomata()...)
	numbers := list(-1, 0, 1, 2, 4, 9, 10, math.MinInt64, math.MaxInt64)
	return pools{
		reflect.TypeFor[impl.Automaton](): anyOf(automata),
		reflect.TypeFor[[]int64]():        anyOf(someLists()),
		reflect.TypeFor[int64]():          anyOf(numbers),
		reflect.TypeFor[string]():         anyOf(someTexts()),
	}
}

// TestPromise1Chapter1 calls each function with all choices of arguments, right and wrong ones, and compares what it returns with its model, where the conventions of each call are checked as well.
func TestPromise1Chapter1(t *testing.T) {
	all := chapter1Pools()
	few := chapter1Pools()
	automaton := reflect.TypeFor[impl.Automaton]()
	// The models of these functions try too much for ten states.
	few[automaton] = slices.DeleteFunc(few[automaton], func(v any) bool { return v.(impl.Automaton).States == 10 })
	for _, f := range chapter1() {
		t.Run(f.name, func(t *testing.T) {
			t.Parallel()
			if f.name == "RenumberingOf" || f.name == "LeastCongruence" {
				f.compareAll(t, few)
			} else {
				f.compareAll(t, all)
			}
		})
	}
}

// TestPromise1TogetherChapter1 calls the functions from several goroutines with the same arguments: what they return depends on nothing else.
func TestPromise1TogetherChapter1(t *testing.T) {
	a, b := fullMonoid(), example()
	answers := func() []any {
		var out []any
		add := func(results ...any) { out = append(out, results...) }
		actions, code := impl.MonoidOf(a)
		add(actions, code)
		word, code := impl.WordFor(a, actions[len(actions)-1])
		add(word, code)
		order, code := impl.RenumberingOf(b, b)
		add(order, code)
		read, code := impl.ReadAutomaton(exampleText)
		add(read, code, impl.AutomatonText(b))
		sink, code := impl.SinkOf(b)
		add(sink, code)
		class, code := impl.LeastCongruence(b, 0, 1)
		add(class, code)
		return out
	}
	agreeTogether(t, answers)
}

// TestPromise1LargeArguments gives arguments far beyond all limits.
func TestPromise1LargeArguments(t *testing.T) {
	const size = 1 << 20
	long := make([]int64, size)
	text := strings.Repeat("a", size)
	wide := impl.Automaton{States: 1, Next: make([][]int64, size)}
	many := impl.Automaton{States: size, Next: lists(long)}
	a := example()
	codes := map[string]int64{}
	_, codes["ReadAutomaton"] = impl.ReadAutomaton("automaton 1 1\n" + text)
	_, codes["ReadWord"] = impl.ReadWord(text)
	_, codes["ActionOf"] = impl.ActionOf(a, long)
	_, codes["ImageOf"] = impl.ImageOf(a, long, nil)
	_, codes["PreimageOf"] = impl.PreimageOf(a, nil, long)
	_, codes["WordFor"] = impl.WordFor(a, long)
	_, codes["IsCongruence"] = impl.IsCongruence(a, long)
	_, codes["QuotientOf"] = impl.QuotientOf(a, long)
	_, codes["RestrictTo"] = impl.RestrictTo(a, long)
	_, codes["RenumberStates"] = impl.RenumberStates(a, long)
	_, codes["MonoidOf"] = impl.MonoidOf(wide)
	_, codes["RenumberingOf"] = impl.RenumberingOf(many, many)
	want := map[string]int64{
		"ReadAutomaton": impl.ErrRange, "ReadWord": impl.ErrSyntax, "MonoidOf": impl.ErrInvalid, "RenumberingOf": impl.ErrInvalid,
	}
	for name, code := range codes {
		if expected, listed := want[name]; listed && code != expected || !listed && code != impl.ErrRange {
			t.Errorf("%s of large arguments: %d", name, code)
		}
	}
	if impl.ValidAutomaton(many) || impl.ValidAutomaton(wide) || impl.ValidWord(a, long) || impl.WordText(long) != "" || impl.AutomatonText(wide) != "" {
		t.Error("large arguments are valid")
	}
	if !impl.SameAutomaton(many, many) || impl.SameAutomaton(many, wide) {
		t.Error("large automata are the same just if they are equal")
	}
}

// TestPromise1FirstErrors gives functions several wrong arguments at once: the error that the document lists first is returned.
func TestPromise1FirstErrors(t *testing.T) {
	bad, a, big := auto(2, list(0, 2)), example(), overfullMonoid()
	one := auto(1, list(0))
	returnErrors(t, []wrongCall{
		{"ReadAutomaton", impl.ReadAutomaton, []any{string(make([]byte, 2001))}, impl.ErrRange, []any{impl.Automaton{}}},
		{"ActionOf", impl.ActionOf, []any{bad, list(7)}, impl.ErrInvalid, []any{nil}},
		{"ImageOf", impl.ImageOf, []any{bad, list(5), list(7)}, impl.ErrInvalid, []any{nil}},
		{"PreimageOf", impl.PreimageOf, []any{bad, list(5), list(7)}, impl.ErrInvalid, []any{nil}},
		{"MonoidOf", impl.MonoidOf, []any{bad}, impl.ErrInvalid, []any{nil}},
		{"WordFor", impl.WordFor, []any{bad, list(7)}, impl.ErrInvalid, []any{nil}},
		{"WordFor", impl.WordFor, []any{big, list(0, 1, 2, 3)}, impl.ErrRange, []any{nil}},
		{"WordFor", impl.WordFor, []any{big, list(0, 1, 2, 3, 5)}, impl.ErrRange, []any{nil}},
		{"WordFor", impl.WordFor, []any{big, list(0, 1, 2, 3, 4)}, impl.ErrLimit, []any{nil}},
		{"WordFor", impl.WordFor, []any{big, list(1, 1, 0, 4, 4)}, impl.ErrLimit, []any{nil}},
		{"ReachedFrom", impl.ReachedFrom, []any{bad, 9}, impl.ErrInvalid, []any{nil}},
		{"IsConnected", impl.IsConnected, []any{bad}, impl.ErrInvalid, []any{false}},
		{"SinkOf", impl.SinkOf, []any{bad}, impl.ErrInvalid, []any{nil}},
		{"PeriodOf", impl.PeriodOf, []any{bad}, impl.ErrInvalid, []any{0}},
		{"IsCongruence", impl.IsCongruence, []any{bad, list(7)}, impl.ErrInvalid, []any{false}},
		{"LeastCongruence", impl.LeastCongruence, []any{bad, 7, -1}, impl.ErrInvalid, []any{nil}},
		{"QuotientOf", impl.QuotientOf, []any{bad, list(7)}, impl.ErrInvalid, []any{impl.Automaton{}}},
		{"QuotientOf", impl.QuotientOf, []any{a, list(0, 2, 1)}, impl.ErrRange, []any{impl.Automaton{}}},
		{"ProductOf", impl.ProductOf, []any{bad, a}, impl.ErrInvalid, []any{impl.Automaton{}}},
		{"ProductOf", impl.ProductOf, []any{one, bad}, impl.ErrInvalid, []any{impl.Automaton{}}},
		{"ProductOf", impl.ProductOf, []any{cycle(4), auto(4, upTo(4), upTo(4))}, impl.ErrRange, []any{impl.Automaton{}}},
		{"RestrictTo", impl.RestrictTo, []any{bad, list(1, 0)}, impl.ErrInvalid, []any{impl.Automaton{}}},
		{"RestrictTo", impl.RestrictTo, []any{a, list(0, 3)}, impl.ErrRange, []any{impl.Automaton{}}},
		{"RenumberStates", impl.RenumberStates, []any{bad, list(7)}, impl.ErrInvalid, []any{impl.Automaton{}}},
		{"RenumberingOf", impl.RenumberingOf, []any{bad, a}, impl.ErrInvalid, []any{nil}},
		{"RenumberingOf", impl.RenumberingOf, []any{a, bad}, impl.ErrInvalid, []any{nil}},
	})
}

// TestPromise1InvalidAutomata tells that no function takes an automaton that is not valid.
func TestPromise1InvalidAutomata(t *testing.T) {
	for _, bad := range invalidAutomata() {
		expect(t, "ValidAutomaton", impl.ValidAutomaton, []any{bad}, []any{false})
		expect(t, "AutomatonText", impl.AutomatonText, []any{bad}, []any{""})
		expect(t, "ValidWord", impl.ValidWord, []any{bad, nil}, []any{false})
		expect(t, "ActionOf", impl.ActionOf, []any{bad, nil}, []any{nil, impl.ErrInvalid})
		expect(t, "ImageOf", impl.ImageOf, []any{bad, nil, nil}, []any{nil, impl.ErrInvalid})
		expect(t, "PreimageOf", impl.PreimageOf, []any{bad, nil, nil}, []any{nil, impl.ErrInvalid})
		expect(t, "MonoidOf", impl.MonoidOf, []any{bad}, []any{nil, impl.ErrInvalid})
		expect(t, "WordFor", impl.WordFor, []any{bad, list(0)}, []any{nil, impl.ErrInvalid})
		expect(t, "ReachedFrom", impl.ReachedFrom, []any{bad, 0}, []any{nil, impl.ErrInvalid})
		expect(t, "IsConnected", impl.IsConnected, []any{bad}, []any{false, impl.ErrInvalid})
		expect(t, "SinkOf", impl.SinkOf, []any{bad}, []any{nil, impl.ErrInvalid})
		expect(t, "PeriodOf", impl.PeriodOf, []any{bad}, []any{0, impl.ErrInvalid})
		expect(t, "IsCongruence", impl.IsCongruence, []any{bad, list(0)}, []any{false, impl.ErrInvalid})
		expect(t, "LeastCongruence", impl.LeastCongruence, []any{bad, 0, 0}, []any{nil, impl.ErrInvalid})
		expect(t, "QuotientOf", impl.QuotientOf, []any{bad, list(0)}, []any{impl.Automaton{}, impl.ErrInvalid})
		expect(t, "ProductOf", impl.ProductOf, []any{bad, bad}, []any{impl.Automaton{}, impl.ErrInvalid})
		expect(t, "RestrictTo", impl.RestrictTo, []any{bad, list(0)}, []any{impl.Automaton{}, impl.ErrInvalid})
		expect(t, "RenumberStates", impl.RenumberStates, []any{bad, list(0)}, []any{impl.Automaton{}, impl.ErrInvalid})
		expect(t, "RenumberingOf", impl.RenumberingOf, []any{bad, bad}, []any{nil, impl.ErrInvalid})
	}
}
