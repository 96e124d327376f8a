package tests

import (
	"fmt"
	"slices"
	"strings"

	"loop.example/g01102/impl"
)

// The functions of this file tell what those of chapter 8 should return, as directly as the document does. They look at all lamps, let depths come down to what they are, know all deeds by their texts, and copy a whole line for each deed.

func modelValidLit(l impl.Lit) bool {
	return modelValid(l.Auto) && int64(len(l.Lamps)) == l.Auto.States && modelAllBelow(l.Lamps, 4)
}

func modelLampClasses(l impl.Lit) ([][]int64, int64) {
	if !modelValidLit(l) {
		return nil, impl.ErrInvalid
	}
	var classes [][]int64
	for lamp := range int64(4) {
		if class := modelSetOf(l.Auto, func(s int64) bool { return l.Lamps[s] == lamp }); len(class) > 0 {
			classes = append(classes, class)
		}
	}
	return classes, impl.OK
}

// modelWithLamp returns the states of a set that have a lamp.
func modelWithLamp(l impl.Lit, set []int64, lamp int64) []int64 {
	return modelSetOf(l.Auto, func(s int64) bool { return l.Lamps[s] == lamp && slices.Contains(set, s) })
}

func modelBelieved(l impl.Lit, set []int64, x, lamp int64) ([]int64, int64) {
	if !modelValidLit(l) {
		return nil, impl.ErrInvalid
	}
	if !modelIsSet(l.Auto, set) || !modelAllBelow(list(x), int64(len(l.Auto.Next))) || !modelAllBelow(list(lamp), 4) {
		return nil, impl.ErrRange
	}
	return modelWithLamp(l, modelImage(l.Auto, set, list(x)), lamp), impl.OK
}

// endless is more than every depth.
const endless = 1 << 20

// modelDepths returns the depths of a set and of all sets that may be believed after it, by their texts.
func modelDepths(l impl.Lit, set []int64) map[string]int64 {
	depths := map[string]int64{}
	var sets [][]int64
	find := func(set []int64) {
		text := fmt.Sprint(set)
		if _, isKnown := depths[text]; isKnown {
			return
		}
		depths[text] = endless
		if len(set) <= 1 {
			depths[text] = 0
		}
		sets = append(sets, set)
	}
	find(set)
	for i := 0; i < len(sets); i++ {
		for x := range l.Auto.Next {
			for _, part := range modelParts(l, sets[i], x) {
				find(part)
			}
		}
	}
	for isChanged := true; isChanged; {
		isChanged = false
		for _, each := range sets {
			if depth, _ := modelBest(l, depths, each); depth < depths[fmt.Sprint(each)] {
				depths[fmt.Sprint(each)] = depth
				isChanged = true
			}
		}
	}
	return depths
}

// modelParts returns what is believed behind a letter for each lamp.
func modelParts(l impl.Lit, set []int64, x int) [][]int64 {
	image := modelImage(l.Auto, set, list(int64(x)))
	var parts [][]int64
	for lamp := range int64(4) {
		parts = append(parts, modelWithLamp(l, image, lamp))
	}
	return parts
}

// modelBest returns 1 more than the least of the greatest depths behind a letter, and the first letter that has it.
func modelBest(l impl.Lit, depths map[string]int64, set []int64) (int64, int64) {
	best, letter := int64(endless), int64(0)
	for x := range l.Auto.Next {
		greatest := int64(0)
		for _, part := range modelParts(l, set, x) {
			greatest = max(greatest, depths[fmt.Sprint(part)])
		}
		if greatest+1 < best {
			best, letter = greatest+1, int64(x)
		}
	}
	return best, letter
}

// modelCheckDepth returns the first error of a function of the depth of a set, and the depths.
func modelCheckDepth(l impl.Lit, set, members []int64) (map[string]int64, int64) {
	if !modelValidLit(l) {
		return nil, impl.ErrInvalid
	}
	if !modelIsSet(l.Auto, set) {
		return nil, impl.ErrRange
	}
	for _, s := range members {
		if !slices.Contains(set, s) {
			return nil, impl.ErrRange
		}
	}
	depths := modelDepths(l, set)
	if depths[fmt.Sprint(set)] == endless {
		return nil, impl.ErrNotFound
	}
	return depths, impl.OK
}

func modelAdaptiveDepth(l impl.Lit, set []int64) (int64, int64) {
	depths, code := modelCheckDepth(l, set, nil)
	return depths[fmt.Sprint(set)], code
}

func modelAdaptiveLetter(l impl.Lit, set []int64) (int64, int64) {
	depths, code := modelCheckDepth(l, set, nil)
	if code != impl.OK {
		return 0, code
	}
	if depths[fmt.Sprint(set)] == 0 {
		return 0, impl.ErrState
	}
	_, letter := modelBest(l, depths, set)
	return letter, impl.OK
}

func modelAdaptiveRun(l impl.Lit, set []int64, s int64) ([]int64, int64, int64) {
	depths, code := modelCheckDepth(l, set, list(s))
	if code != impl.OK {
		return nil, 0, code
	}
	var letters []int64
	for len(set) > 1 {
		_, x := modelBest(l, depths, set)
		letters = append(letters, x)
		s = l.Auto.Next[x][s]
		set = modelParts(l, set, int(x))[l.Lamps[s]]
	}
	return letters, s, impl.OK
}

// modelWords are the words of the kinds of deeds from 1 on; with a blank if Arg is mentioned.
var modelWords = []string{"", "order ", "post ", "report", "deliver ", "copy ", "drop ", "jolt ", "save", "crash"}

// modelDeeds are all valid deeds by their texts.
var modelDeeds = modelAllDeeds()

func modelAllDeeds() map[string]impl.Deed {
	all := map[string]impl.Deed{}
	for kind, text := range modelWords[1:] {
		if !strings.HasSuffix(text, " ") {
			all[text] = impl.Deed{Kind: int64(kind + 1)}
			continue
		}
		for arg := range 1000 {
			all[fmt.Sprint(text, arg)] = impl.Deed{Kind: int64(kind + 1), Arg: int64(arg)}
		}
	}
	return all
}

func modelDeedText(d impl.Deed) string {
	if d.Kind < 1 || d.Kind > 9 {
		return ""
	}
	text := modelWords[d.Kind]
	if strings.HasSuffix(text, " ") {
		text = fmt.Sprint(text, d.Arg)
	}
	if modelDeeds[text] != d {
		return ""
	}
	return text
}

func modelValidDeed(d impl.Deed) bool { return modelDeedText(d) != "" }

func modelReadDeed(text string) (impl.Deed, int64) {
	d, isValid := modelDeeds[text]
	if !isValid {
		return impl.Deed{}, impl.ErrSyntax
	}
	return d, impl.OK
}

// modelLine returns a line in the beginning. No list of a line is ever changed, so that copies may share them.
func modelLine(l impl.Lit, state int64) impl.Line {
	desk := impl.Desk{Belief: upTo(l.Auto.States)}
	return impl.Line{State: state, Desk: desk, Saved: desk}
}

// modelRefused returns the error of a deed.
func modelRefused(l impl.Lit, n impl.Line, d impl.Deed) int64 {
	places := int64(1)
	isFull := false
	switch d.Kind {
	case impl.DdOrder:
		places, isFull = int64(len(l.Auto.Next)), len(n.Desk.Orders) == 60
	case impl.DdPost:
		places, isFull = int64(len(n.Saved.Orders)), len(n.Wire) == 10
	case impl.DdReport:
		isFull = len(n.Wire) == 10
	case impl.DdDeliver, impl.DdCopy, impl.DdDrop:
		places = int64(len(n.Wire))
	case impl.DdJolt:
		places, isFull = l.Auto.States, n.Life == 6
	}
	if d.Arg >= places {
		return impl.ErrRange
	}
	if isFull {
		return impl.ErrLimit
	}
	return impl.OK
}

// modelDone returns the line behind a deed, and its error, with which nothing happens.
func modelDone(l impl.Lit, n impl.Line, d impl.Deed) (impl.Line, int64) {
	code := modelRefused(l, n, d)
	if code != impl.OK {
		return n, code
	}
	send := func(p impl.Packet) { n.Wire = slices.Concat(n.Wire, []impl.Packet{p}) }
	switch d.Kind {
	case impl.DdOrder:
		n.Desk.Orders = slices.Concat(n.Desk.Orders, list(d.Arg))
	case impl.DdPost:
		send(impl.Packet{Life: n.Saved.Life, Number: d.Arg, Value: n.Saved.Orders[d.Arg]})
	case impl.DdReport:
		send(impl.Packet{Report: true, Life: n.Life, Number: n.Taken, Value: l.Lamps[n.State]})
	case impl.DdJolt:
		n.State, n.Life, n.Taken = d.Arg, n.Life+1, 0
	case impl.DdSave:
		n.Saved = n.Desk
	case impl.DdCrash:
		n.Desk = n.Saved
	}
	if d.Kind == impl.DdDeliver || d.Kind == impl.DdCopy {
		n = modelComesIn(l, n, n.Wire[d.Arg])
	}
	if d.Kind == impl.DdDeliver || d.Kind == impl.DdDrop {
		n.Wire = slices.Concat(n.Wire[:d.Arg], n.Wire[d.Arg+1:])
	}
	return n, impl.OK
}

func modelComesIn(l impl.Lit, n impl.Line, p impl.Packet) impl.Line {
	if !p.Report {
		if p.Life == n.Life && p.Number == n.Taken {
			n.State, n.Taken = l.Auto.Next[p.Value][n.State], n.Taken+1
		}
		return n
	}
	if p.Life > n.Desk.Life {
		n.Desk = impl.Desk{Life: p.Life, Belief: upTo(l.Auto.States)}
	}
	if p.Life == n.Desk.Life && p.Number >= n.Desk.Sure && p.Number <= int64(len(n.Desk.Orders)) {
		n.Desk.Belief = modelWithLamp(l, modelImage(l.Auto, n.Desk.Belief, n.Desk.Orders[n.Desk.Sure:p.Number]), p.Value)
		n.Desk.Sure = p.Number
	}
	return n
}

// modelRunDeeds returns the line behind deeds, and the error of each of them.
func modelRunDeeds(l impl.Lit, state int64, deeds []impl.Deed) (impl.Line, []int64) {
	n := modelLine(l, state)
	codes := make([]int64, len(deeds))
	for i, d := range deeds {
		n, codes[i] = modelDone(l, n, d)
	}
	return n, codes
}

func modelCheckDeeds(l impl.Lit, state int64, deeds []impl.Deed) int64 {
	if !modelValidLit(l) {
		return impl.ErrInvalid
	}
	for _, d := range deeds {
		if !modelValidDeed(d) {
			return impl.ErrInvalid
		}
	}
	if !modelIsState(l.Auto, state) || len(deeds) > 400 {
		return impl.ErrRange
	}
	return impl.OK
}

func modelLineAfter(l impl.Lit, state int64, deeds []impl.Deed) (impl.Line, int64, int64) {
	if code := modelCheckDeeds(l, state, deeds); code != impl.OK {
		return impl.Line{}, 0, code
	}
	n, codes := modelRunDeeds(l, state, deeds)
	done := slices.DeleteFunc(codes, func(code int64) bool { return code != impl.OK })
	return n, int64(len(done)), impl.OK
}

func modelRefusedDeed(l impl.Lit, state int64, deeds []impl.Deed) (int64, int64, int64) {
	if code := modelCheckDeeds(l, state, deeds); code != impl.OK {
		return 0, 0, code
	}
	_, codes := modelRunDeeds(l, state, deeds)
	for i, code := range codes {
		if code != impl.OK {
			return int64(i), code, impl.OK
		}
	}
	return 0, 0, impl.ErrNotFound
}

// modelTold returns nothing beside false, as the conventions tell for all functions.
func modelTold(l impl.Lit, n impl.Line) ([]int64, bool) {
	if n.Desk.Life != n.Life {
		return nil, false
	}
	var told []int64
	for end := int(n.Desk.Sure); end <= len(n.Desk.Orders); end++ {
		told = append(told, modelImage(l.Auto, n.Desk.Belief, n.Desk.Orders[n.Desk.Sure:end])...)
	}
	return modelSetOf(l.Auto, func(s int64) bool { return slices.Contains(told, s) }), true
}

func modelToldAfter(l impl.Lit, state int64, deeds []impl.Deed) ([]int64, bool, int64) {
	if code := modelCheckDeeds(l, state, deeds); code != impl.OK {
		return nil, false, code
	}
	n, _ := modelRunDeeds(l, state, deeds)
	told, isKnown := modelTold(l, n)
	return told, isKnown, impl.OK
}

// modelHomeDeeds writes the deeds down in parts, and looks at the line behind all of them for the next part.
func modelHomeDeeds(l impl.Lit, state int64, before []impl.Deed) ([]impl.Deed, int64) {
	if code := modelCheckDeeds(l, state, before); code != impl.OK {
		return nil, code
	}
	var plan []impl.Deed
	at := func() impl.Line {
		n, _ := modelRunDeeds(l, state, slices.Concat(before, plan))
		return n
	}
	add := func(text string) { plan = append(plan, deeds(text)...) }
	for range at().Wire {
		add("drop 0")
	}
	add("report, deliver 0, save")
	for i := at().Desk.Sure; i < int64(len(at().Desk.Orders)); i++ {
		add(fmt.Sprintf("post %d, deliver 0", i))
	}
	add("report, deliver 0, save")
	for len(at().Desk.Belief) > 1 {
		letter, code := modelAdaptiveLetter(l, at().Desk.Belief)
		if code != impl.OK {
			return nil, code
		}
		number := len(at().Desk.Orders)
		if number == 60 {
			return nil, impl.ErrLimit
		}
		add(fmt.Sprintf("order %d, save, post %d, deliver 0, report, deliver 0, save", letter, number))
	}
	if len(before)+len(plan) > 400 {
		return nil, impl.ErrLimit
	}
	return plan, impl.OK
}

func modelRunScript(l impl.Lit, state int64, text string) (string, int64) {
	if !modelValidLit(l) {
		return "", impl.ErrInvalid
	}
	all := strings.Split(text, "\n")
	if all[len(all)-1] == "" {
		all = all[:len(all)-1]
	}
	if !modelIsState(l.Auto, state) || len(text) > 20000 || len(all) > 120 {
		return "", impl.ErrRange
	}
	n := modelLine(l, state)
	answers := ""
	for _, line := range all {
		var answer string
		n, answer = modelAnswer(l, n, line)
		answers += answer + "\n"
	}
	return answers, impl.OK
}

func modelAnswer(l impl.Lit, n impl.Line, line string) (impl.Line, string) {
	d, isDeed := modelDeeds[line]
	switch {
	case line == "told":
		told, _ := modelTold(l, n)
		return n, strings.Trim(fmt.Sprint(told), "[]")
	case line == "orders":
		return n, modelWordText(n.Desk.Orders)
	case line == "wire":
		return n, fmt.Sprint(len(n.Wire))
	case !isDeed:
		return n, "what"
	}
	after, code := modelDone(l, n, d)
	if code != impl.OK {
		return n, "error " + modelCodeName(code)
	}
	return after, "ok"
}
