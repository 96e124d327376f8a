package tests

import (
	"fmt"
	"math"
	"slices"
	"strings"
	"testing"

	"loop.example/g01102/impl"
)

// ring has three states, which the letter 0 leads around, and which have different lamps; the letter 1 leads to the state 2.
func ring() impl.Lit { return lit(auto(3, list(1, 2, 0), list(2, 2, 2)), 0, 1, 2) }

func desk(life int64, orders []int64, sure int64, belief ...int64) impl.Desk {
	return impl.Desk{Life: life, Orders: orders, Sure: sure, Belief: belief}
}

// blank is the desk in the beginning, for the ring.
func blank() impl.Desk { return desk(0, nil, 0, 0, 1, 2) }

func orderPacket(life, number, letter int64) impl.Packet {
	return impl.Packet{Life: life, Number: number, Value: letter}
}

func reportPacket(life, number, lamp int64) impl.Packet {
	return impl.Packet{Report: true, Life: life, Number: number, Value: lamp}
}

// leads asks for the line of the ring behind deeds, from the state 0 on, all of which are done.
func leads(t *testing.T, text string, want impl.Line) {
	t.Helper()
	expect(t, "LineAfter", impl.LineAfter, []any{ring(), 0, deeds(text)}, []any{want, len(deeds(text)), impl.OK})
	expect(t, "RefusedDeed", impl.RefusedDeed, []any{ring(), 0, deeds(text)}, []any{0, 0, impl.ErrNotFound})
}

// refuses tells that the last of some deeds, and only it, is left out with an error, and changes nothing.
func refuses(t *testing.T, text string, code int) {
	t.Helper()
	all := deeds(text)
	last := len(all) - 1
	expect(t, "RefusedDeed", impl.RefusedDeed, []any{ring(), 0, all}, []any{last, code, impl.OK})
	before, done, _ := impl.LineAfter(ring(), 0, all[:last])
	expect(t, "LineAfter", impl.LineAfter, []any{ring(), 0, all}, []any{before, done, impl.OK})
	if done != int64(last) {
		t.Errorf("%s: %d deeds are done", text, done)
	}
}

// then puts deeds together.
func then(parts ...string) string { return strings.Join(parts, ", ") }

func TestPromise22ExampleOfChapter8(t *testing.T) {
	expect(t, "LineAfter", impl.LineAfter, []any{lineExample(), 1, deeds("report, deliver 0")}, []any{impl.Line{State: 1, Desk: desk(0, nil, 0, 1), Saved: desk(0, nil, 0, 0, 1)}, 2, impl.OK})
	taken := then("report, deliver 0", bringing(0, 0))
	expect(t, "LineAfter", impl.LineAfter, []any{lineExample(), 1, deeds(taken)}, []any{impl.Line{Taken: 1, Desk: desk(0, list(0), 0, 1), Saved: desk(0, list(0), 0, 1)}, 6, impl.OK})
}

func TestPromise22Beginning(t *testing.T) {
	for _, l := range validLits() {
		all := upTo(l.Auto.States)
		for state := range l.Auto.States {
			n := impl.Line{State: state, Desk: desk(0, nil, 0, all...), Saved: desk(0, nil, 0, all...)}
			expect(t, "LineAfter", impl.LineAfter, []any{l, state, nil}, []any{n, 0, impl.OK})
			expect(t, "LineAfter", impl.LineAfter, []any{l, state, []impl.Deed{}}, []any{n, 0, impl.OK})
			expect(t, "RefusedDeed", impl.RefusedDeed, []any{l, state, nil}, []any{0, 0, impl.ErrNotFound})
		}
		for _, state := range list(-1, l.Auto.States, math.MinInt64, math.MaxInt64) {
			expect(t, "LineAfter", impl.LineAfter, []any{l, state, nil}, []any{impl.Line{}, 0, impl.ErrRange})
			expect(t, "RefusedDeed", impl.RefusedDeed, []any{l, state, nil}, []any{0, 0, impl.ErrRange})
		}
	}
}

func TestPromise22Orders(t *testing.T) {
	leads(t, "order 0", impl.Line{Desk: desk(0, list(0), 0, 0, 1, 2), Saved: blank()})
	leads(t, "order 1, order 0, order 1", impl.Line{Desk: desk(0, list(1, 0, 1), 0, 0, 1, 2), Saved: blank()})
	full := times(impl.MaxOrders, "order 0")
	leads(t, full, impl.Line{Desk: desk(0, repeated(0, impl.MaxOrders), 0, 0, 1, 2), Saved: blank()})
	refuses(t, "order 2", impl.ErrRange)
	refuses(t, "order 999", impl.ErrRange)
	refuses(t, then(full, "order 0"), impl.ErrLimit)
	refuses(t, then(full, "order 1"), impl.ErrLimit)
	refuses(t, then(full, "save, order 1"), impl.ErrLimit)
	refuses(t, then(full, "order 2"), impl.ErrRange)
	// A crash makes room for orders, and so does another life.
	leads(t, then(full, "crash, order 0"), impl.Line{Desk: desk(0, list(0), 0, 0, 1, 2), Saved: blank()})
	leads(t, then(full, "jolt 1, report, deliver 0, order 0"), impl.Line{State: 1, Life: 1, Desk: desk(1, list(0), 0, 1), Saved: blank()})
	// Orders that have been taken still count.
	refuses(t, then(full, "save, post 0, deliver 0", asking, "order 0"), impl.ErrLimit)
}

func TestPromise22Posts(t *testing.T) {
	given := desk(0, list(0, 1), 0, 0, 1, 2)
	wire := []impl.Packet{orderPacket(0, 1, 1), orderPacket(0, 0, 0), orderPacket(0, 1, 1)}
	leads(t, "order 0, order 1, save, post 1, post 0, post 1", impl.Line{Desk: given, Saved: given, Wire: wire})
	// Only what is saved is posted, with its life, even if the desk has come to know more.
	refuses(t, "post 0", impl.ErrRange)
	refuses(t, "order 0, post 0", impl.ErrRange)
	refuses(t, "order 0, save, order 1, post 1", impl.ErrRange)
	refuses(t, "order 0, save, post 1", impl.ErrRange)
	refuses(t, "order 0, save, post 999", impl.ErrRange)
	leads(t, "order 1, save, jolt 2, report, deliver 0, order 0, post 0", impl.Line{State: 2, Life: 1, Desk: desk(1, list(0), 0, 2), Saved: desk(0, list(1), 0, 0, 1, 2), Wire: []impl.Packet{orderPacket(0, 0, 1)}})
	leads(t, "order 1, save, jolt 2, report, deliver 0, order 0, save, post 0", impl.Line{State: 2, Life: 1, Desk: desk(1, list(0), 0, 2), Saved: desk(1, list(0), 0, 2), Wire: []impl.Packet{orderPacket(1, 0, 0)}})
	refuses(t, "order 1, save, jolt 2, report, deliver 0, save, post 0", impl.ErrRange)
	full := then("order 0, save", times(impl.MaxWire, "post 0"))
	leads(t, full, impl.Line{Desk: desk(0, list(0), 0, 0, 1, 2), Saved: desk(0, list(0), 0, 0, 1, 2), Wire: slices.Repeat([]impl.Packet{orderPacket(0, 0, 0)}, impl.MaxWire)})
	refuses(t, then(full, "post 0"), impl.ErrLimit)
	refuses(t, then(full, "post 1"), impl.ErrRange)
	refuses(t, then(full, "report"), impl.ErrLimit)
}

func TestPromise22Reports(t *testing.T) {
	leads(t, "report", impl.Line{Desk: blank(), Saved: blank(), Wire: []impl.Packet{reportPacket(0, 0, 0)}})
	// A report tells what is true when it is sent, not when it comes in.
	known := desk(0, list(0, 1), 0, 0, 1, 2)
	sent := []impl.Packet{reportPacket(0, 0, 0), reportPacket(0, 1, 1), reportPacket(0, 2, 2)}
	leads(t, "order 0, order 1, save, report, post 0, deliver 1, report, post 1, deliver 2, report", impl.Line{State: 2, Taken: 2, Desk: known, Saved: known, Wire: sent})
	leads(t, "jolt 2, report", impl.Line{State: 2, Life: 1, Desk: blank(), Saved: blank(), Wire: []impl.Packet{reportPacket(1, 0, 2)}})
	full := times(impl.MaxWire, "report")
	leads(t, full, impl.Line{Desk: blank(), Saved: blank(), Wire: slices.Repeat([]impl.Packet{reportPacket(0, 0, 0)}, impl.MaxWire)})
	refuses(t, then(full, "report"), impl.ErrLimit)
	leads(t, then(full, "drop 9, report"), impl.Line{Desk: blank(), Saved: blank(), Wire: slices.Repeat([]impl.Packet{reportPacket(0, 0, 0)}, impl.MaxWire)})
	// What is copied comes in although the wire is full.
	leads(t, then(full, "copy 9"), impl.Line{Desk: desk(0, nil, 0, 0), Saved: blank(), Wire: slices.Repeat([]impl.Packet{reportPacket(0, 0, 0)}, impl.MaxWire)})
}

func TestPromise22Packets(t *testing.T) {
	for _, word := range []string{"deliver", "copy", "drop"} {
		for _, arg := range list(0, 1, 999) {
			refuses(t, fmt.Sprint(word, " ", arg), impl.ErrRange)
		}
		refuses(t, then("report", word+" 1"), impl.ErrRange)
		refuses(t, then("report, report, deliver 0", word+" 1"), impl.ErrRange)
		refuses(t, then(times(impl.MaxWire, "report"), fmt.Sprint(word, " ", impl.MaxWire)), impl.ErrRange)
	}
	given := desk(0, list(0, 1), 0, 0, 1, 2)
	line := func(state, taken int64, wire ...impl.Packet) impl.Line {
		return impl.Line{State: state, Taken: taken, Desk: given, Saved: given, Wire: wire}
	}
	first, next := orderPacket(0, 0, 0), orderPacket(0, 1, 1)
	begin := "order 0, order 1, save, post 0, post 1, post 0"
	leads(t, begin, line(0, 0, first, next, first))
	// Each packet can be lost, doubled, or come in before others; those behind it move up.
	leads(t, then(begin, "drop 0"), line(0, 0, next, first))
	leads(t, then(begin, "drop 1"), line(0, 0, first, first))
	leads(t, then(begin, "drop 2"), line(0, 0, first, next))
	leads(t, then(begin, "drop 0, drop 0, drop 0"), line(0, 0))
	leads(t, then(begin, "deliver 0"), line(1, 1, next, first))
	leads(t, then(begin, "copy 0"), line(1, 1, first, next, first))
	leads(t, then(begin, "deliver 2"), line(1, 1, first, next))
	leads(t, then(begin, "copy 2, copy 1"), line(2, 2, first, next, first))
	// An order that comes too early, too late or a second time is not taken.
	leads(t, then(begin, "deliver 1"), line(0, 0, first, first))
	leads(t, then(begin, "copy 1"), line(0, 0, first, next, first))
	leads(t, then(begin, "deliver 0, deliver 1"), line(1, 1, next))
	leads(t, then(begin, "copy 0, copy 0, copy 0"), line(1, 1, first, next, first))
	leads(t, then(begin, "copy 1, copy 0, copy 1, copy 0, copy 1"), line(2, 2, first, next, first))
}

func TestPromise22Lives(t *testing.T) {
	given := desk(0, list(0), 0, 0, 1, 2)
	// An order of an older life is not taken, even if its number is the next one.
	leads(t, "order 0, save, post 0, jolt 1, copy 0", impl.Line{State: 1, Life: 1, Desk: given, Saved: given, Wire: []impl.Packet{orderPacket(0, 0, 0)}})
	leads(t, "order 0, save, post 0, copy 0, jolt 1, deliver 0", impl.Line{State: 1, Life: 1, Desk: given, Saved: given})
	// A jolt forgets what has been taken; the orders of the new life are numbered from 0 on again.
	leads(t, then(bringing(0, 0), "jolt 1"), impl.Line{State: 1, Life: 1, Desk: given, Saved: given})
	leads(t, then(bringing(0, 0), "jolt 1", asking, bringing(1, 0)), impl.Line{State: 2, Life: 1, Taken: 1, Desk: desk(1, list(1), 0, 1), Saved: desk(1, list(1), 0, 1)})
	most := times(impl.MaxLives, "jolt 1")
	leads(t, most, impl.Line{State: 1, Life: impl.MaxLives, Desk: blank(), Saved: blank()})
	for _, text := range []string{"jolt 0", "jolt 1", "jolt 2"} {
		leads(t, text, impl.Line{State: deeds(text)[0].Arg, Life: 1, Desk: blank(), Saved: blank()})
		refuses(t, then(most, text), impl.ErrLimit)
		refuses(t, then(most, asking, text), impl.ErrLimit)
	}
	refuses(t, "jolt 3", impl.ErrRange)
	refuses(t, "jolt 999", impl.ErrRange)
	refuses(t, then(most, "jolt 3"), impl.ErrRange)
}

func TestPromise22ReportsOfLives(t *testing.T) {
	// A report of a newer life begins a new desk, even if lives in between have not been heard of.
	leads(t, "order 0, order 1, jolt 0, jolt 0, jolt 1, report, deliver 0", impl.Line{State: 1, Life: 3, Desk: desk(3, nil, 0, 1), Saved: blank()})
	// One of an older life is not read.
	leads(t, "report, jolt 1, report, deliver 1, deliver 0", impl.Line{State: 1, Life: 1, Desk: desk(1, nil, 0, 1), Saved: blank()})
	leads(t, "jolt 1, report, jolt 2, report, deliver 1, order 0, deliver 0", impl.Line{State: 2, Life: 2, Desk: desk(2, list(0), 0, 2), Saved: blank()})
	// The desk learns of a life by a late report, but that one is over.
	leads(t, "jolt 1, report, jolt 2, order 0, deliver 0", impl.Line{State: 2, Life: 2, Desk: desk(1, nil, 0, 1), Saved: blank()})
	// A report of the life that is known does not forget orders, but the same one of a newer life does, behind a crash.
	leads(t, "jolt 1, report, copy 0, order 0, copy 0", impl.Line{State: 1, Life: 1, Desk: desk(1, list(0), 0, 1), Saved: blank(), Wire: []impl.Packet{reportPacket(1, 0, 1)}})
	leads(t, "jolt 1, report, copy 0, order 0, crash, copy 0", impl.Line{State: 1, Life: 1, Desk: desk(1, nil, 0, 1), Saved: blank(), Wire: []impl.Packet{reportPacket(1, 0, 1)}})
	leads(t, "jolt 1, report, copy 0, order 0, save, crash, copy 0", impl.Line{State: 1, Life: 1, Desk: desk(1, list(0), 0, 1), Saved: desk(1, list(0), 0, 1), Wire: []impl.Packet{reportPacket(1, 0, 1)}})
}

func TestPromise22ReportsOfOrders(t *testing.T) {
	saved := desk(0, list(0, 0, 1), 0, 0, 1, 2)
	begin := "order 0, order 0, order 1, save, report, post 0, deliver 1, report, post 1, deliver 2, report, post 2, deliver 3, report"
	sent := []impl.Packet{reportPacket(0, 0, 0), reportPacket(0, 1, 1), reportPacket(0, 2, 2), reportPacket(0, 3, 2)}
	line := func(sure, belief int64, left ...int) impl.Line {
		n := impl.Line{State: 2, Taken: 3, Desk: desk(0, list(0, 0, 1), sure, belief), Saved: saved}
		for _, i := range left {
			n.Wire = append(n.Wire, sent[i])
		}
		return n
	}
	leads(t, then(begin, "deliver 0"), line(0, 0, 1, 2, 3))
	leads(t, then(begin, "deliver 1"), line(1, 1, 0, 2, 3))
	leads(t, then(begin, "deliver 2"), line(2, 2, 0, 1, 3))
	leads(t, then(begin, "deliver 3"), line(3, 2, 0, 1, 2))
	// Reports that come in their order, and those that come late, with a number below Sure.
	leads(t, then(begin, "deliver 0, deliver 0, deliver 0, deliver 0"), line(3, 2))
	leads(t, then(begin, "deliver 1, deliver 0"), line(1, 1, 2, 3))
	leads(t, then(begin, "deliver 3, deliver 0"), line(3, 2, 1, 2))
	leads(t, then(begin, "deliver 2, deliver 1, deliver 0"), line(2, 2, 3))
	// Those that come twice, or again behind a crash.
	leads(t, then(begin, "copy 2, copy 2"), line(2, 2, 0, 1, 2, 3))
	leads(t, then(begin, "copy 3, crash, copy 1"), line(1, 1, 0, 1, 2, 3))
	leads(t, then(begin, "copy 1, save, copy 3, crash, drop 3"), impl.Line{State: 2, Taken: 3, Desk: desk(0, list(0, 0, 1), 1, 1), Saved: desk(0, list(0, 0, 1), 1, 1), Wire: sent[:3]})
}

// TestPromise22LampsOfReports tells that of what the orders lead to, only what has the lamp is believed, also if the report tells of no further order.
func TestPromise22LampsOfReports(t *testing.T) {
	// The states 0 and 1, and the states 2 and 3, have the same lamp.
	l := lit(auto(4, list(0, 2, 2, 0), list(3, 2, 1, 0)), 0, 0, 1, 1)
	believes := func(state int64, text string, sure int64, want ...int64) {
		t.Helper()
		n, done, code := impl.LineAfter(l, state, deeds(text))
		if !slices.Equal(n.Desk.Belief, want) || n.Desk.Sure != sure || done != int64(len(deeds(text))) || code != impl.OK {
			t.Errorf("%s from %d: %v, %d deeds, code %d", text, state, n, done, code)
		}
	}
	seen := "report, deliver 0"
	believes(0, seen, 0, 0, 1)
	believes(2, seen, 0, 2, 3)
	believes(2, then(seen, seen), 0, 2, 3)
	for state, want := range [][]int64{{0}, {2}, {2}, {0}} {
		believes(int64(state), then(seen, bringing(0, 0), seen), 1, want...)
		believes(int64(state), then(bringing(0, 0), seen), 1, want...)
	}
	believes(1, then(seen, bringing(1, 0)), 0, 0, 1)
	believes(1, then(seen, bringing(1, 0), seen), 1, 2, 3)
	believes(1, then(seen, bringing(1, 0), bringing(0, 1), seen), 2, 2)
}

// TestPromise22Crashes tells that what has not been saved is forgotten, and that nothing else is.
func TestPromise22Crashes(t *testing.T) {
	one := desk(0, list(0), 0, 0, 1, 2)
	leads(t, "crash", impl.Line{Desk: blank(), Saved: blank()})
	leads(t, "save", impl.Line{Desk: blank(), Saved: blank()})
	leads(t, "order 0, order 1, crash", impl.Line{Desk: blank(), Saved: blank()})
	leads(t, "order 0, save, order 1, crash", impl.Line{Desk: one, Saved: one})
	leads(t, "order 0, save, order 1, crash, order 0", impl.Line{Desk: desk(0, list(0, 0), 0, 0, 1, 2), Saved: one})
	leads(t, "order 0, save, order 1, crash, order 0, crash", impl.Line{Desk: one, Saved: one})
	// What is saved has been copied: later orders and reports do not change it.
	leads(t, "order 0, order 0, order 0, save, order 1", impl.Line{Desk: desk(0, list(0, 0, 0, 1), 0, 0, 1, 2), Saved: desk(0, repeated(0, 3), 0, 0, 1, 2)})
	leads(t, "order 0, order 0, order 0, save, order 1, crash, order 0", impl.Line{Desk: desk(0, repeated(0, 4), 0, 0, 1, 2), Saved: desk(0, repeated(0, 3), 0, 0, 1, 2)})
	leads(t, "order 0, save, report, deliver 0", impl.Line{Desk: desk(0, list(0), 0, 0), Saved: one})
	// A post that is still on the wire, or has come in, is one of an order that a crash does not forget.
	leads(t, "order 0, save, post 0, crash", impl.Line{Desk: one, Saved: one, Wire: []impl.Packet{orderPacket(0, 0, 0)}})
	leads(t, "order 0, save, post 0, order 1, crash, deliver 0", impl.Line{State: 1, Taken: 1, Desk: one, Saved: one})
	leads(t, then(bringing(0, 0), "report, deliver 0, crash"), impl.Line{State: 1, Taken: 1, Desk: one, Saved: one})
	leads(t, then(bringing(0, 0), "report, deliver 0, save, crash"), impl.Line{State: 1, Taken: 1, Desk: desk(0, list(0), 1, 1), Saved: desk(0, list(0), 1, 1)})
	// A crash is one of the desk: the machine and the wire stay as they are.
	leads(t, "jolt 2, report, crash", impl.Line{State: 2, Life: 1, Desk: blank(), Saved: blank(), Wire: []impl.Packet{reportPacket(1, 0, 2)}})
	leads(t, "jolt 2, report, deliver 0, crash", impl.Line{State: 2, Life: 1, Desk: blank(), Saved: blank()})
}

// TestPromise22LeftOut tells that the deeds behind one that is left out are done as if it had not been there.
func TestPromise22LeftOut(t *testing.T) {
	t.Parallel()
	refused := func(text string, index int64, code int) {
		t.Helper()
		expect(t, "RefusedDeed", impl.RefusedDeed, []any{ring(), 0, deeds(text)}, []any{index, code, impl.OK})
	}
	refused("save, deliver 0", 1, impl.ErrRange)
	refused("deliver 0, save, order 2", 0, impl.ErrRange)
	refused(then(times(7, "jolt 0"), "order 2"), 6, impl.ErrLimit)
	refused(then(times(11, "report"), "jolt 3"), 10, impl.ErrLimit)
	refused(then(times(61, "order 1"), "post 0"), 60, impl.ErrLimit)
	refused(then(times(impl.MaxDeeds-1, "save"), "drop 0"), impl.MaxDeeds-1, impl.ErrRange)
	for _, j := range journeys(300, 80) {
		n, done, _ := impl.LineAfter(j.lit, j.state, j.deeds)
		_, codes := modelRunDeeds(j.lit, j.state, j.deeds)
		var kept []impl.Deed
		for i, d := range j.deeds {
			if codes[i] == impl.OK {
				kept = append(kept, d)
			}
		}
		same, all, _ := impl.LineAfter(j.lit, j.state, kept)
		if fmt.Sprint(n) != fmt.Sprint(same) || done != int64(len(kept)) || all != done {
			t.Errorf("%v: %v with %d deeds, and %v with %d", j, n, done, same, all)
		}
		if _, _, code := impl.RefusedDeed(j.lit, j.state, kept); code != impl.ErrNotFound {
			t.Errorf("%v: code %d", kept, code)
		}
	}
}

func TestPromise22MostDeeds(t *testing.T) {
	full := deeds(times(impl.MaxDeeds/2, "report, drop 0"))
	n := impl.Line{Desk: blank(), Saved: blank()}
	expect(t, "LineAfter", impl.LineAfter, []any{ring(), 0, full}, []any{n, impl.MaxDeeds, impl.OK})
	expect(t, "RefusedDeed", impl.RefusedDeed, []any{ring(), 0, full}, []any{0, 0, impl.ErrNotFound})
	expect(t, "ToldAfter", impl.ToldAfter, []any{ring(), 0, full}, []any{upTo(3), true, impl.OK})
	for _, over := range [][]impl.Deed{append(full, impl.Deed{Kind: impl.DdSave}), append(full, impl.Deed{Kind: impl.DdDrop, Arg: 9})} {
		returnErrors(t, []wrongCall{
			{"LineAfter", impl.LineAfter, []any{ring(), 0, over}, impl.ErrRange, []any{impl.Line{}, 0}},
			{"RefusedDeed", impl.RefusedDeed, []any{ring(), 0, over}, impl.ErrRange, []any{0, 0}},
			{"ToldAfter", impl.ToldAfter, []any{ring(), 0, over}, impl.ErrRange, []any{nil, false}},
			{"HomeDeeds", impl.HomeDeeds, []any{ring(), 0, over}, impl.ErrRange, []any{nil}},
		})
	}
}

// TestPromise22ManyLines compares lines, and deeds that are left out, with their models.
func TestPromise22ManyLines(t *testing.T) {
	t.Parallel()
	for _, j := range journeys(300, 120) {
		named("LineAfter").compare(t, j.lit, j.state, j.deeds)
		named("RefusedDeed").compare(t, j.lit, j.state, j.deeds)
	}
	reachedLines(lineExample(), 1, 5, func(j journey) { named("LineAfter").compare(t, j.lit, j.state, j.deeds) })
}

// shownAfter returns the text of the line behind deeds and some more.
func shownAfter(j journey, more ...impl.Deed) string {
	n, _, _ := impl.LineAfter(j.lit, j.state, slices.Concat(j.deeds, more))
	return fmt.Sprint(n)
}

// TestPromise22TwiceOrLost tells that a packet that comes twice does the same as one that comes once, and one that is lost the same as none.
func TestPromise22TwiceOrLost(t *testing.T) {
	t.Parallel()
	visit := func(j journey) {
		n, _, _ := impl.LineAfter(j.lit, j.state, j.deeds)
		for i := range int64(len(n.Wire)) {
			copied, delivered, dropped := impl.Deed{Kind: impl.DdCopy, Arg: i}, impl.Deed{Kind: impl.DdDeliver, Arg: i}, impl.Deed{Kind: impl.DdDrop, Arg: i}
			once := shownAfter(j, delivered)
			for _, twice := range [][]impl.Deed{{copied, delivered}, {copied, copied, delivered}, {copied, dropped}} {
				if got := shownAfter(j, twice...); got != once {
					t.Errorf("%v: behind %v %s, and behind %v %s", j, twice, got, delivered, once)
				}
			}
		}
		if len(n.Wire) == impl.MaxWire {
			return
		}
		lost := impl.Deed{Kind: impl.DdDrop, Arg: int64(len(n.Wire))}
		for _, sent := range deeds("report, post 0, post 1") {
			if got := shownAfter(j, sent, lost); got != fmt.Sprint(n) {
				t.Errorf("%v: %s behind %v, which is lost", j, got, sent)
			}
		}
	}
	reachedLines(lineExample(), 0, 7, visit)
	for _, j := range journeys(200, 60) {
		visit(j)
	}
}

// takenLetters returns the letters that the machine has taken in its life, by looking at the line behind each deed.
func takenLetters(j journey) []int64 {
	var taken []int64
	before, _, _ := impl.LineAfter(j.lit, j.state, nil)
	for i, d := range j.deeds {
		after, _, _ := impl.LineAfter(j.lit, j.state, j.deeds[:i+1])
		if after.Life > before.Life {
			taken = nil
		}
		if after.Taken > before.Taken {
			taken = append(taken, before.Wire[d.Arg].Value)
		}
		before = after
	}
	return taken
}

// TestPromise22NothingIsForgotten tells that the orders that have been taken are saved, and on the desk, whatever crashes; that so are all that are on the wire; and that no report tells more than the desk has ordered, or of a lamp that no believed state has.
func TestPromise22NothingIsForgotten(t *testing.T) {
	t.Parallel()
	visit := func(j journey) {
		n, _, _ := impl.LineAfter(j.lit, j.state, j.deeds)
		taken := takenLetters(j)
		if int64(len(taken)) != n.Taken {
			t.Errorf("%v: %v are taken, the line is %v", j, taken, n)
		}
		for _, k := range []impl.Desk{n.Desk, n.Saved} {
			if len(k.Belief) == 0 {
				t.Errorf("%v: nothing is believed, the line is %v", j, n)
			}
			begins := len(taken) <= len(k.Orders) && slices.Equal(k.Orders[:len(taken)], taken)
			if k.Life > n.Life || k.Life == n.Life && (!begins || k.Sure > n.Taken) || k.Life < n.Life && len(taken) > 0 {
				t.Errorf("%v: %v are taken, the line is %v", j, taken, n)
			}
			for _, p := range n.Wire {
				isKnown := p.Number < int64(len(k.Orders)) && k.Orders[p.Number] == p.Value
				if !p.Report && (p.Life > k.Life || p.Life == k.Life && !isKnown) || p.Report && p.Life == k.Life && p.Number > int64(len(k.Orders)) {
					t.Errorf("%v: the packet %v, the line is %v", j, p, n)
				}
			}
		}
	}
	reachedLines(lineExample(), 1, 7, visit)
	for _, j := range journeys(200, 60) {
		visit(j)
	}
}

func TestPromise22Scripts(t *testing.T) {
	script := func(text, want string) {
		t.Helper()
		expect(t, "RunScript", impl.RunScript, []any{ring(), 0, text}, []any{want, impl.OK})
	}
	script("", "")
	script("\n", "what\n")
	script("\n\n", "what\nwhat\n")
	// A newline at the end begins no further line.
	script("told", "0 1 2\n")
	script("told\n", "0 1 2\n")
	script("told\n\n", "0 1 2\nwhat\n")
	script("\ntold", "what\n0 1 2\n")
	script("orders", "-\n")
	script("wire", "0\n")
	script("report\nreport\nwire\ndrop 0\nwire\ndeliver 0\nwire\ntold", "ok\nok\n2\nok\n1\nok\n0\n0\n")
	script("order 0\norders\norder 1\norder 0\norders\ncrash\norders", "ok\na\nok\nok\naba\nok\n-\n")
	script(strings.Repeat("order 1\n", impl.MaxOrders+1)+"orders\n", strings.Repeat("ok\n", impl.MaxOrders)+"error limit\n"+strings.Repeat("b", impl.MaxOrders)+"\n")
	script("report\ndeliver 0\norder 0\ntold\norder 0\ntold", "ok\nok\nok\n0 1\nok\n0 1 2\n")
	// The errors have their names, and what is refused changes nothing.
	script("order 2\npost 0\ndeliver 0\ncopy 9\ndrop 999\njolt 3\norders\nwire", strings.Repeat("error range\n", 6)+"-\n0\n")
	script(strings.Repeat("report\n", impl.MaxWire+1)+"wire", strings.Repeat("ok\n", impl.MaxWire)+"error limit\n10\n")
	script(strings.Repeat("jolt 0\n", impl.MaxLives+1), strings.Repeat("ok\n", impl.MaxLives)+"error limit\n")
	script("order 0\nsave\npost 0\ncopy 0\ndeliver 0\nreport\ndeliver 0\ntold\njolt 2\nreport\ndeliver 0\ntold\norders", strings.Repeat("ok\n", 7)+"1\n"+strings.Repeat("ok\n", 3)+"2\n-\n")
	// Of a life that the desk does not know, nothing is told.
	script("jolt 2\ntold\nwire", "ok\n\n0\n")
	expect(t, "RunScript", impl.RunScript, []any{byTurns(cycle(10), 1), 9, "told"}, []any{"0 1 2 3 4 5 6 7 8 9\n", impl.OK})
}

func TestPromise22OtherLines(t *testing.T) {
	others := []string{
		"", " ", "what", "ok", "Told", "TOLD", "told ", " told", "told\r", "told\t", "told 0", "tolds", "tol", "orders ", " orders", "orders 0", "Orders", "wire ", " wire", "wires", "wire 0", "error range",
		"order", "order ", "order 0 ", " order 0", "order  0", "order 00", "order +0", "order -1", "order 1000", "post", "report 0", "report ", "report\r", "save ", "save 1", "crash 0", "deliver", "copy 01", "drop x", "jolt 1000", "save, save", "\x00", "\xff", "é",
	}
	for _, other := range others {
		expect(t, "RunScript", impl.RunScript, []any{ring(), 0, other + "\nwire\n"}, []any{"what\n0\n", impl.OK})
		expect(t, "RunScript", impl.RunScript, []any{ring(), 0, "told\n" + other + "\n"}, []any{"0 1 2\nwhat\n", impl.OK})
	}
	for text := range modelDeeds {
		answer := "error range\n"
		if d := modelDeeds[text]; d.Kind == impl.DdReport || d.Kind >= impl.DdSave || d.Arg < 2 && d.Kind == impl.DdOrder || d.Arg < 3 && d.Kind == impl.DdJolt {
			answer = "ok\n"
		}
		if got, code := impl.RunScript(ring(), 0, text); got != answer || code != impl.OK {
			t.Errorf("RunScript of %q: %q %d", text, got, code)
		}
	}
}

func TestPromise22ScriptLimits(t *testing.T) {
	script := func(text, want string, code int) {
		t.Helper()
		expect(t, "RunScript", impl.RunScript, []any{ring(), 0, text}, []any{want, code})
	}
	lines := func(count int) string { return strings.Repeat("wire\n", count) }
	script(lines(impl.MaxScriptLines), strings.Repeat("0\n", impl.MaxScriptLines), impl.OK)
	script(strings.TrimSuffix(lines(impl.MaxScriptLines), "\n"), strings.Repeat("0\n", impl.MaxScriptLines), impl.OK)
	script(strings.Repeat("\n", impl.MaxScriptLines), strings.Repeat("what\n", impl.MaxScriptLines), impl.OK)
	script(lines(impl.MaxScriptLines+1), "", impl.ErrRange)
	script(lines(impl.MaxScriptLines)+"x", "", impl.ErrRange)
	script(lines(impl.MaxScriptLines)+"\n", "", impl.ErrRange)
	script(strings.Repeat("\n", impl.MaxScriptLines+1), "", impl.ErrRange)
	script(strings.Repeat("x", impl.MaxScriptText), "what\n", impl.OK)
	script(strings.Repeat("x", impl.MaxScriptText-1)+"\n", "what\n", impl.OK)
	script("wire\n"+strings.Repeat("x", impl.MaxScriptText-5), "0\nwhat\n", impl.OK)
	script(strings.Repeat("x", impl.MaxScriptText+1), "", impl.ErrRange)
	script(strings.Repeat("x", impl.MaxScriptText)+"\n", "", impl.ErrRange)
	script("wire\n"+strings.Repeat("x", impl.MaxScriptText-4), "", impl.ErrRange)
	for _, state := range list(-1, 3, math.MinInt64, math.MaxInt64) {
		expect(t, "RunScript", impl.RunScript, []any{ring(), state, "wire"}, []any{"", impl.ErrRange})
	}
}

// TestPromise22ScriptsTellWhatDeedsDo compares the answers of scripts with what the other functions return.
func TestPromise22ScriptsTellWhatDeedsDo(t *testing.T) {
	t.Parallel()
	for _, j := range journeys(200, impl.MaxScriptLines-3) {
		var text, want strings.Builder
		_, codes := modelRunDeeds(j.lit, j.state, j.deeds)
		for i, d := range j.deeds {
			text.WriteString(impl.DeedText(d) + "\n")
			if codes[i] == impl.OK {
				want.WriteString("ok\n")
			} else {
				want.WriteString("error " + impl.CodeName(codes[i]) + "\n")
			}
		}
		text.WriteString("told\norders\nwire")
		n, _, _ := impl.LineAfter(j.lit, j.state, j.deeds)
		told, _, _ := impl.ToldAfter(j.lit, j.state, j.deeds)
		fmt.Fprintf(&want, "%s\n%s\n%d\n", strings.Trim(fmt.Sprint(told), "[]"), impl.WordText(n.Desk.Orders), len(n.Wire))
		expect(t, "RunScript", impl.RunScript, []any{j.lit, j.state, text.String()}, []any{want.String(), impl.OK})
		named("RunScript").compare(t, j.lit, j.state, text.String())
	}
}
