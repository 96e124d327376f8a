package tests

import (
	"fmt"
	"math"
	"math/rand"
	"slices"
	"strings"
	"testing"

	"loop.example/g01102/impl"
)

func TestPromise21ExampleOfChapter8(t *testing.T) {
	l := lineExample()
	known := "report, deliver 0"
	tells(t, l, 1, known, list(1), true)
	known += ", " + bringing(0, 0)
	n, _, _ := impl.LineAfter(l, 1, deeds(known))
	if n.State != 0 {
		t.Errorf("the state is %d", n.State)
	}
	tells(t, l, 1, known, list(0, 1), true)
	tells(t, l, 1, known+", report", list(0, 1), true)
	tells(t, l, 1, known+", report, deliver 0", list(0), true)
}

// tells asks what is told behind deeds, and whether the life is known.
func tells(t *testing.T, l impl.Lit, state int64, text string, want []int64, isKnown bool) {
	t.Helper()
	expect(t, "ToldAfter", impl.ToldAfter, []any{l, state, deeds(text)}, []any{want, isKnown, impl.OK})
}

func TestPromise21KindsOfDeeds(t *testing.T) {
	kinds := list(impl.DdOrder, impl.DdPost, impl.DdReport, impl.DdDeliver, impl.DdCopy, impl.DdDrop, impl.DdJolt, impl.DdSave, impl.DdCrash)
	texts := []string{"order 7", "post 7", "report", "deliver 7", "copy 7", "drop 7", "jolt 7", "save", "crash"}
	for i, kind := range kinds {
		if kind != int64(i+1) {
			t.Errorf("the kind of %q is %d", texts[i], kind)
		}
		d := impl.Deed{Kind: kind}
		if strings.Contains(texts[i], " ") {
			d.Arg = 7
		}
		expect(t, "ReadDeed", impl.ReadDeed, []any{texts[i]}, []any{d, impl.OK})
	}
}

func TestPromise21ValidDeeds(t *testing.T) {
	valid := func(kind, arg int64, want string) {
		t.Helper()
		d := impl.Deed{Kind: kind, Arg: arg}
		expect(t, "ValidDeed", impl.ValidDeed, []any{d}, []any{want != ""})
		expect(t, "DeedText", impl.DeedText, []any{d}, []any{want})
	}
	for kind, word := range map[int64]string{impl.DdOrder: "order", impl.DdPost: "post", impl.DdDeliver: "deliver", impl.DdCopy: "copy", impl.DdDrop: "drop", impl.DdJolt: "jolt"} {
		for _, arg := range list(0, 1, 9, 10, 60, 400, 999) {
			valid(kind, arg, fmt.Sprint(word, " ", arg))
		}
		for _, arg := range list(-1, 1000, 1001, math.MinInt64, math.MaxInt64) {
			valid(kind, arg, "")
		}
	}
	for kind, word := range map[int64]string{impl.DdReport: "report", impl.DdSave: "save", impl.DdCrash: "crash"} {
		valid(kind, 0, word)
		for _, arg := range list(-1, 1, 7, 999, 1000, math.MinInt64, math.MaxInt64) {
			valid(kind, arg, "")
		}
	}
	for _, kind := range list(0, 10, 11, -1, math.MinInt64, math.MaxInt64) {
		for _, arg := range list(-1, 0, 1, 999, 1000) {
			valid(kind, arg, "")
		}
	}
}

// TestPromise21TextsAreReadBack reads the text of each valid deed.
func TestPromise21TextsAreReadBack(t *testing.T) {
	seen := map[string]bool{}
	for kind := int64(-1); kind <= 11; kind++ {
		for arg := int64(-1); arg <= 1001; arg++ {
			d := impl.Deed{Kind: kind, Arg: arg}
			text := impl.DeedText(d)
			if impl.ValidDeed(d) != (text != "") {
				t.Fatalf("text of %v: %q", d, text)
			}
			if text == "" {
				continue
			}
			if back, code := impl.ReadDeed(text); back != d || code != impl.OK || seen[text] {
				t.Fatalf("ReadDeed(%q): %v %d", text, back, code)
			}
			seen[text] = true
		}
	}
	if len(seen) != 6*1000+3 {
		t.Errorf("there are %d deeds", len(seen))
	}
}

func TestPromise21TextsOfNoDeed(t *testing.T) {
	texts := []string{
		"", " ", "\n", "0", "order", "order ", "order  0", "order 0 ", " order 0", "order 0\n", "order\t0", "order 00", "order 01", "order 0999", "order +0", "order +1", "order -0", "order -1", "order 1000", "order 9999999999999999999999", "order 1e1", "order 0x1", "order 1.", "order a", "order 1 1",
		"post", "post 1000", "deliver", "deliver -1", "copy", "copy 03", "drop", "drop  1", "jolt", "jolt 1000", "report 0", "report ", " report", "report\n", "report 1", "save 0", "save ", "crash 0", "crash 1",
		"Order 0", "ORDER 0", "orders 0", "orde 0", "order0", "told", "orders", "wire", "what", "ok", "order 0, save", "ｏrder 0", "order \u0660", "order 0\x00", "\xff",
	}
	for _, text := range texts {
		expect(t, "ReadDeed", impl.ReadDeed, []any{text}, []any{impl.Deed{}, impl.ErrSyntax})
	}
	compareChangedTexts(t, "ReadDeed", "order 10", "post 0", "report", "deliver 9", "copy 99", "drop 1", "jolt 100", "save", "crash", "")
}

// TestPromise21ToldStates tells which orders may have been taken: any number of those from Sure on.
func TestPromise21ToldStates(t *testing.T) {
	// The letter 0 leads on to the state 5, the letter 1 back to the state 0, and the letter 2 to the state 3; the lamps are different but for the last states.
	l := lit(auto(6, list(1, 2, 3, 4, 5, 5), list(0, 0, 0, 0, 0, 0), list(3, 3, 3, 3, 3, 3)), 0, 1, 2, 3, 3, 3)
	tells(t, l, 2, "", upTo(6), true)
	tells(t, l, 2, "order 1", upTo(6), true)
	tells(t, l, 2, "report", upTo(6), true)
	tells(t, l, 2, "report, deliver 0", list(2), true)
	tells(t, l, 4, "report, deliver 0", list(3, 4, 5), true)
	at := "report, deliver 0"
	// Orders count even if they have not been saved, posted or taken.
	tells(t, l, 1, at+", order 0", list(1, 2), true)
	tells(t, l, 1, at+", order 0, order 0", list(1, 2, 3), true)
	tells(t, l, 1, at+", order 0, order 0, order 1", list(0, 1, 2, 3), true)
	tells(t, l, 1, at+", order 2, order 1, order 0", list(0, 1, 3), true)
	tells(t, l, 1, at+", order 0, order 0, order 2", list(1, 2, 3), true)
	tells(t, l, 1, at+", order 0, order 0, save, post 0, post 1, deliver 0, deliver 0", list(1, 2, 3), true)
	// A report tells which of them have been taken.
	two := at + ", order 0, order 0, order 1, save, post 0, post 1, post 2"
	tells(t, l, 1, two+", report, deliver 3", list(0, 1, 2, 3), true)
	tells(t, l, 1, two+", deliver 0, report, deliver 2", list(0, 2, 3), true)
	tells(t, l, 1, two+", deliver 0, deliver 0, report, deliver 1", list(0, 3), true)
	tells(t, l, 1, two+", deliver 0, deliver 0, deliver 0, report, deliver 0", list(0), true)
	// A crash brings back what is saved.
	tells(t, l, 1, at+", crash", upTo(6), true)
	tells(t, l, 1, at+", save, order 0, crash", list(1), true)
	tells(t, l, 1, at+", save, order 0, crash, order 1", list(0, 1), true)
}

// TestPromise21UnknownLife tells that nothing is told of a life that the desk does not know.
func TestPromise21UnknownLife(t *testing.T) {
	l := lit(cycle(3), 0, 1, 2)
	tells(t, l, 1, "jolt 2", nil, false)
	tells(t, l, 1, "report, deliver 0, jolt 2", nil, false)
	tells(t, l, 1, "jolt 2, report", nil, false)
	tells(t, l, 1, "jolt 2, report, drop 0", nil, false)
	tells(t, l, 1, "jolt 2, report, deliver 0", list(2), true)
	tells(t, l, 1, "report, jolt 2, deliver 0", nil, false)
	tells(t, l, 1, "jolt 2, report, jolt 0, deliver 0", nil, false)
	tells(t, l, 1, "jolt 2, report, jolt 0, report, deliver 1", list(0), true)
	tells(t, l, 1, "jolt 2, report, jolt 0, report, deliver 1, deliver 0", list(0), true)
	// A desk that forgets the life by a crash learns of it again.
	tells(t, l, 1, "jolt 2, report, copy 0, crash", nil, false)
	tells(t, l, 1, "jolt 2, report, copy 0, crash, deliver 0", list(2), true)
	tells(t, l, 1, "jolt 2, report, copy 0, save, crash", list(2), true)
	// A jolt to the same state is a new life as well, and one that is refused is none.
	tells(t, l, 1, "report, deliver 0, jolt 1", nil, false)
	tells(t, l, 1, "report, deliver 0, jolt 3", list(1), true)
}

// isTold tells whether the guarantee holds behind deeds: the state is told, as long as the desk knows of the life.
func isTold(t *testing.T, j journey) {
	t.Helper()
	n, _, code := impl.LineAfter(j.lit, j.state, j.deeds)
	told, isKnown, other := impl.ToldAfter(j.lit, j.state, j.deeds)
	if code != impl.OK || other != impl.OK || isKnown != (n.Desk.Life == n.Life) {
		t.Fatalf("%v: codes %d and %d, known %v at %v", j, code, other, isKnown, n)
	}
	if isKnown != slices.Contains(told, n.State) {
		t.Fatalf("%v: told %v, known %v, but the state is %d", j, told, isKnown, n.State)
	}
}

// shortDeeds are what can be done at a small line.
func shortDeeds(l impl.Lit) []impl.Deed {
	all := deeds("post 0, post 1, report, deliver 0, deliver 1, copy 0, copy 1, drop 0, save, crash")
	for x := range int64(len(l.Auto.Next)) {
		all = append(all, impl.Deed{Kind: impl.DdOrder, Arg: x})
	}
	for s := range l.Auto.States {
		all = append(all, impl.Deed{Kind: impl.DdJolt, Arg: s})
	}
	return all
}

// reachedLines visits all lines that can be reached from a state with at most so many deeds, each once with the first deeds that lead there.
func reachedLines(l impl.Lit, state int64, most int, visit func(j journey)) {
	known := map[string]bool{}
	latest := [][]impl.Deed{nil}
	for range most + 1 {
		var longer [][]impl.Deed
		for _, done := range latest {
			n, _, _ := impl.LineAfter(l, state, done)
			text := fmt.Sprint(n)
			if known[text] {
				continue
			}
			known[text] = true
			visit(journey{l, state, done})
			for _, d := range shortDeeds(l) {
				longer = append(longer, append(slices.Clone(done), d))
			}
		}
		latest = longer
	}
}

// TestPromise21AllShortDeeds holds the guarantee behind all lists of few deeds, those that are left out among them.
func TestPromise21AllShortDeeds(t *testing.T) {
	t.Parallel()
	l := lineExample()
	all := shortDeeds(l)
	for count := range 5 {
		for _, choice := range allLists(count, 0, int64(len(all)-1)) {
			j := journey{lit: l, state: 1}
			for _, i := range choice {
				j.deeds = append(j.deeds, all[i])
			}
			isTold(t, j)
		}
	}
}

// TestPromise21AllShortLines holds the guarantee against all lines that some more deeds lead to.
func TestPromise21AllShortLines(t *testing.T) {
	for most, l := range map[int]impl.Lit{9: lineExample(), 8: lit(auto(2, list(1, 0), list(0, 0)), 1, 1), 7: lit(auto(3, list(1, 2, 0), list(0, 0, 2)), 0, 1, 0)} {
		for state := range l.Auto.States {
			t.Run(fmt.Sprintf("%d deeds from %d", most, state), func(t *testing.T) {
				t.Parallel()
				reachedLines(l, state, most, func(j journey) { isTold(t, j) })
			})
		}
	}
}

// TestPromise21DrawnLines holds the guarantee behind each deed of many drawn ones.
func TestPromise21DrawnLines(t *testing.T) {
	t.Parallel()
	for _, j := range journeys(400, 80) {
		for end := range j.deeds {
			isTold(t, journey{j.lit, j.state, j.deeds[:end+1]})
		}
	}
}

// TestPromise21ManyLines compares what is told, and the deeds for coming home, with their models.
func TestPromise21ManyLines(t *testing.T) {
	t.Parallel()
	for _, j := range journeys(300, 120) {
		named("ToldAfter").compare(t, j.lit, j.state, j.deeds)
	}
	for _, j := range journeys(150, 60) {
		named("HomeDeeds").compare(t, j.lit, j.state, j.deeds)
	}
}

func TestPromise21ComingHome(t *testing.T) {
	home := func(l impl.Lit, state int64, before, want string) {
		t.Helper()
		expect(t, "HomeDeeds", impl.HomeDeeds, []any{l, state, deeds(before)}, []any{deeds(want), impl.OK})
		comesHome(t, journey{l, state, deeds(before)}, deeds(want))
	}
	twice := asking + ", " + asking
	l := lineExample()
	home(l, 0, "", twice)
	home(l, 1, "report, deliver 0", twice)
	home(l, 1, "report, deliver 0, "+bringing(0, 0), twice)
	// Packets that are still on the wire are lost.
	home(l, 1, "report", "drop 0, "+twice)
	home(l, 1, "order 0, save, post 0, post 0, report", "drop 0, drop 0, drop 0, "+asking+", post 0, deliver 0, "+asking)
	home(l, 1, times(impl.MaxWire, "report"), times(impl.MaxWire, "drop 0")+", "+twice)
	home(l, 1, times(impl.MaxWire+3, "report"), times(impl.MaxWire, "drop 0")+", "+twice)
	// All orders from Sure on are brought, whether they have been saved or not; those that the first report tells of are not.
	home(l, 0, "order 0, order 0", asking+", post 0, deliver 0, post 1, deliver 0, "+asking)
	home(l, 0, "order 0, order 0, save", asking+", post 0, deliver 0, post 1, deliver 0, "+asking)
	home(l, 0, "order 0, save, order 0, post 0, deliver 0", asking+", post 1, deliver 0, "+asking)
	home(l, 0, "order 0, order 0, crash", twice)
	home(l, 0, "order 0, order 0, save, post 0, deliver 0, post 1, deliver 0, order 0, crash", twice)
	// Behind a jolt, the desk learns of a life without orders.
	home(l, 0, "order 0, save, jolt 1", twice)
	home(l, 0, "order 0, save, post 0, jolt 1, report", "drop 0, drop 0, "+twice)
	home(l, 0, "jolt 1, "+asking+", order 0, save, crash", asking+", post 0, deliver 0, "+asking)
}

func TestPromise21ComingHomeByLetters(t *testing.T) {
	home := func(l impl.Lit, state int64, before, want string) {
		t.Helper()
		expect(t, "HomeDeeds", impl.HomeDeeds, []any{l, state, deeds(before)}, []any{deeds(want), impl.OK})
		comesHome(t, journey{l, state, deeds(before)}, deeds(want))
	}
	twice := asking + ", " + asking
	letter := func(x, number int64) string { return ", " + bringing(x, number) + ", " + asking }
	l := lateLamp(4)
	home(l, 3, "", twice)
	home(l, 2, "", twice+letter(0, 0))
	home(l, 1, "", twice+letter(0, 0)+letter(0, 1))
	home(l, 0, "", twice+letter(0, 0)+letter(0, 1))
	// The numbers of the orders go on behind those that have been given.
	home(l, 0, "order 0, save, post 0, deliver 0", twice+letter(0, 1)+letter(0, 2))
	home(l, 1, "order 0, save, post 0, deliver 0", twice+letter(0, 1))
	home(l, 1, "order 0", asking+", post 0, deliver 0, "+asking+letter(0, 1))
	home(l, 3, "order 0", asking+", post 0, deliver 0, "+asking)
	home(l, 2, "order 0, save, post 0, deliver 0, jolt 1", twice+letter(0, 0)+letter(0, 1))
	// The letter depends on what has been seen: 1 for the states 0 and 1, and 0 for 2 and 3.
	two := lit(auto(4, list(1, 0, 2, 2), list(0, 0, 3, 2)), 0, 0, 1, 1)
	for state := range int64(4) {
		home(two, state, "", twice+letter(1-state/2, 0))
	}
}

// comesHome tells whether all deeds of a plan can be done behind those before, and whether just the state of the machine is told behind them.
func comesHome(t *testing.T, j journey, plan []impl.Deed) {
	t.Helper()
	all := slices.Concat(j.deeds, plan)
	_, before, _ := impl.LineAfter(j.lit, j.state, j.deeds)
	n, done, code := impl.LineAfter(j.lit, j.state, all)
	if code != impl.OK || done != before+int64(len(plan)) {
		t.Errorf("%v: %d deeds are done, before %d, of %v, code %d", j, done, before, plan, code)
	}
	told, isKnown, code := impl.ToldAfter(j.lit, j.state, all)
	if !isKnown || code != impl.OK || !slices.Equal(told, list(n.State)) || !slices.Equal(n.Desk.Belief, told) || len(n.Wire) > 0 {
		t.Errorf("%v: told %v %v behind %v, the line is %v", j, told, isKnown, plan, n)
	}
	if shown := fmt.Sprint(n.Desk); shown != fmt.Sprint(n.Saved) || n.Taken != int64(len(n.Desk.Orders)) || n.Desk.Sure != n.Taken {
		t.Errorf("%v: the line behind %v is %v", j, plan, n)
	}
}

// TestPromise21AlwaysHome tells that the state becomes known behind all deeds, if there are letters and lamps enough.
func TestPromise21AlwaysHome(t *testing.T) {
	t.Parallel()
	for most, l := range map[int]impl.Lit{5: lateLamp(3), 6: lineExample()} {
		for state := range l.Auto.States {
			reachedLines(l, state, most, func(j journey) { findsHome(t, j) })
		}
	}
	source := rand.New(rand.NewSource(21))
	settled := settledLits(slices.Concat(randomLits(300, 1, 6), validLits(), []impl.Lit{lateLamp(10), byTurns(slow(5), 1)}))
	for _, l := range settled {
		for range 4 {
			state := source.Int63n(l.Auto.States)
			findsHome(t, journey{l, state, drawDeeds(source, l, state, source.Intn(60))})
		}
	}
}

func findsHome(t *testing.T, j journey) {
	t.Helper()
	plan, code := impl.HomeDeeds(j.lit, j.state, j.deeds)
	if code != impl.OK {
		t.Errorf("HomeDeeds(%v): code %d", j, code)
		return
	}
	comesHome(t, j, plan)
}

func TestPromise21NoWayHome(t *testing.T) {
	refuse := func(l impl.Lit, state int64, before string, code int) {
		t.Helper()
		expect(t, "HomeDeeds", impl.HomeDeeds, []any{l, state, deeds(before)}, []any{nil, code})
	}
	still := byTurns(cycle(2), 1)
	for state := range int64(2) {
		refuse(still, state, "", impl.ErrNotFound)
		refuse(still, state, "order 0, report", impl.ErrNotFound)
		refuse(still, state, times(impl.MaxDeeds, "crash"), impl.ErrNotFound)
		refuse(still, state, times(impl.MaxOrders, "order 0"), impl.ErrNotFound)
		refuse(still, state, times(impl.MaxDeeds+1, "crash"), impl.ErrRange)
	}
	// What counts is what is believed when a letter is asked for: the letter 1 has been ordered and merges the states, or the lamp tells enough.
	merging := byTurns(auto(4, list(1, 0, 3, 2), list(0, 0, 2, 2)), 1)
	refuse(merging, 0, "order 1", impl.ErrNotFound)
	late := lit(auto(4, list(0, 1, 3, 3)), 0, 0, 1, 1)
	for state := range int64(2) {
		refuse(late, state, "", impl.ErrNotFound)
	}
	for state := int64(2); state < 4; state++ {
		findsHome(t, journey{late, state, nil})
	}
	once := byTurns(auto(2, list(1, 0), list(0, 0)), 1)
	for _, before := range []string{"", "order 0", "order 1", "order 1, order 0, save"} {
		findsHome(t, journey{once, 1, deeds(before)})
	}
	for _, state := range list(-1, 2, math.MinInt64, math.MaxInt64) {
		refuse(once, state, "", impl.ErrRange)
	}
}

// TestPromise21MostDeeds reaches MaxDeeds with the deeds before and those for coming home, and passes it by one.
func TestPromise21MostDeeds(t *testing.T) {
	l := lineExample()
	late := lateLamp(10)
	for _, j := range []journey{{l, 0, nil}, {l, 1, deeds("report")}, {late, 0, nil}, {late, 9, nil}, {late, 3, deeds("order 0, order 0, save, post 0, jolt 2, report")}} {
		plan, code := impl.HomeDeeds(j.lit, j.state, j.deeds)
		if code != impl.OK {
			t.Fatalf("HomeDeeds(%v): code %d", j, code)
		}
		room := impl.MaxDeeds - len(plan) - len(j.deeds)
		// Deeds that are left out count as well.
		for _, filler := range []string{"drop 9", "post 99"} {
			full := slices.Concat(slices.Repeat(deeds(filler), room), j.deeds)
			expect(t, "HomeDeeds", impl.HomeDeeds, []any{j.lit, j.state, full}, []any{plan, impl.OK})
			comesHome(t, journey{j.lit, j.state, full}, plan)
			over := append(deeds(filler), full...)
			expect(t, "HomeDeeds", impl.HomeDeeds, []any{j.lit, j.state, over}, []any{nil, impl.ErrLimit})
		}
	}
}

// TestPromise21MostOrders needs exactly MaxOrders orders to come home, and one more. The letter 2 leads nowhere.
func TestPromise21MostOrders(t *testing.T) {
	a := slow(8)
	l := byTurns(auto(8, a.Next[0], a.Next[1], upTo(8)), 1)
	depth, code := impl.AdaptiveDepth(l, upTo(8))
	if code != impl.OK || depth != 49 {
		t.Fatalf("depth %d, code %d", depth, code)
	}
	before := func(count int) []impl.Deed { return slices.Repeat(deeds("order 2"), count) }
	full := journey{l, 5, before(impl.MaxOrders - 49)}
	findsHome(t, full)
	plan, _ := impl.HomeDeeds(l, 5, full.deeds)
	if n, _, _ := impl.LineAfter(l, 5, slices.Concat(full.deeds, plan)); len(n.Desk.Orders) != impl.MaxOrders {
		t.Errorf("there are %d orders", len(n.Desk.Orders))
	}
	named("HomeDeeds").compare(t, l, int64(5), full.deeds)
	over := before(impl.MaxOrders - 48)
	expect(t, "HomeDeeds", impl.HomeDeeds, []any{l, 5, over}, []any{nil, impl.ErrLimit})
	// In another life there is room for as many orders.
	findsHome(t, journey{l, 5, append(over, deeds("jolt 3")...)})
	// Too many letters are needed for any line, though there are not too many deeds yet.
	expect(t, "HomeDeeds", impl.HomeDeeds, []any{byTurns(slow(9), 1), 0, nil}, []any{nil, impl.ErrLimit})
	expect(t, "HomeDeeds", impl.HomeDeeds, []any{byTurns(slow(10), 1), 0, nil}, []any{nil, impl.ErrLimit})
	// Orders that fill the desk can all be brought.
	findsHome(t, journey{lineExample(), 1, deeds(times(impl.MaxOrders, "order 0"))})
	findsHome(t, journey{lineExample(), 1, deeds(times(impl.MaxOrders+1, "order 0"))})
	most := lateLamp(4)
	expect(t, "HomeDeeds", impl.HomeDeeds, []any{most, 0, deeds(times(impl.MaxOrders, "order 0"))}, []any{nil, impl.ErrLimit})
	findsHome(t, journey{most, 3, deeds(times(impl.MaxOrders, "order 0"))})
}
