package tests

import (
	"math"
	"math/rand"
	"slices"
	"testing"

	"loop.example/g01102/impl"
)

// isTree asks CheckTree of a tree, first for what leaves tell of the present states, then for what they tell of those in the beginning.
func isTree(t *testing.T, m impl.Machine, tree impl.Tree, homes, tells bool) {
	t.Helper()
	expect(t, "CheckTree", impl.CheckTree, []any{m, tree, false}, []any{homes, impl.OK})
	expect(t, "CheckTree", impl.CheckTree, []any{m, tree, true}, []any{tells, impl.OK})
}

func TestPromise16Trees(t *testing.T) {
	grown := func(m impl.Machine, home, tell impl.Tree) {
		t.Helper()
		expect(t, "HomingTree", impl.HomingTree, []any{m}, []any{home, impl.OK})
		expect(t, "TellingTree", impl.TellingTree, []any{m}, []any{tell, impl.OK})
		isTree(t, m, tell, true, true)
	}
	only := leaf(list(0), list(0))
	grown(silent(auto(1, list(0))), only, only)
	grown(readMachine("machine 1 3 3\nletter 0/2\nletter 0/0\nletter 0/1\n"), only, only)
	both := node(0, upTo(2), upTo(2), leaf(list(0), list(1)), leaf(list(1), list(0)))
	grown(machineExample(), both, both)
	three := node(0, upTo(3), upTo(3), node(0, list(0, 1), list(1, 2), leaf(list(0), list(2)), leaf(list(1), list(0))), leaf(list(2), list(0)))
	grown(bell(3), three, three)
	// An output that no state has leads to a leaf without states.
	unused := node(0, upTo(2), upTo(2), leaf(list(1), list(1)), leaf(nil, nil), leaf(list(0), list(1)))
	grown(readMachine("machine 2 3 1\nletter 1/2 1/0\n"), unused, unused)
	// Where "a" has been read, a new word begins.
	m := readMachine("machine 4 3 2\nletter 0/0 1/1 2/0 3/2\nletter 1/0 0/0 3/1 2/1\n")
	behind := node(1, list(0, 2), list(0, 2), leaf(list(0), list(1)), leaf(list(2), list(3)), leaf(nil, nil))
	twice := node(0, upTo(4), upTo(4), behind, leaf(list(1), list(1)), leaf(list(3), list(3)))
	grown(m, twice, twice)
}

// TestPromise16HomingTreeWords tells that the words of a homing tree are read to their ends, even if shorter words would do from some place on, and that then a new word begins.
func TestPromise16HomingTreeWords(t *testing.T) {
	// The word for 0 and 1 is "ba". Its first letter leads from 2 and 3 to 0 and 1: there its rest is read first, although it does not distinguish them, and then it begins again.
	m := readMachine("machine 4 2 2\nletter 0/0 1/0 2/0 3/1\nletter 2/0 3/0 0/1 1/1\n")
	expect(t, "DistinguishingWord", impl.DistinguishingWord, []any{m, 0, 1}, []any{word("ba"), impl.OK})
	last := node(0, list(2, 3), list(2, 3), leaf(list(2), list(2)), leaf(list(3), list(3)))
	again := node(1, list(2, 3), list(0, 1), last, leaf(nil, nil))
	want := node(1, upTo(4), upTo(4),
		node(0, list(0, 1), list(2, 3), leaf(list(0), list(2)), leaf(list(1), list(3))),
		node(0, list(2, 3), list(0, 1), again, leaf(nil, nil)))
	expect(t, "HomingTree", impl.HomingTree, []any{m}, []any{want, impl.OK})
	isTree(t, m, want, true, true)
	// Where "a" has been read, "b" begins.
	m = readMachine("machine 3 2 2\nletter 0/0 1/1 2/1\nletter 2/0 1/0 1/1\n")
	want = node(0, upTo(3), upTo(3), leaf(list(0), list(0)), node(1, list(1, 2), list(1, 2), leaf(list(1), list(1)), leaf(list(2), list(1))))
	expect(t, "HomingTree", impl.HomingTree, []any{m}, []any{want, impl.OK})
}

// TestPromise16ComingTogether tells that a homing tree ends where states have come together, though it cannot tell then which one it was.
func TestPromise16ComingTogether(t *testing.T) {
	m := comingTogether()
	home := node(1, upTo(3), upTo(3), leaf(list(1), list(1)), leaf(list(0, 2), list(1, 1)))
	expect(t, "HomingTree", impl.HomingTree, []any{m}, []any{home, impl.OK})
	isTree(t, m, home, true, false)
	expect(t, "TellingTree", impl.TellingTree, []any{m}, []any{impl.Tree{}, impl.ErrNotFound})
	for s := range 3 {
		expect(t, "FollowTree", impl.FollowTree, []any{m, home, s}, []any{word("b"), 1, impl.OK})
	}
}

// TestPromise16LeastLetters tells that the letter of a node is the least one with the least depth of the node.
func TestPromise16LeastLetters(t *testing.T) {
	// Both letters tell the states apart, but "a" only with another letter behind it.
	quick := readMachine("machine 3 3 2\nletter 0/0 1/0 2/1\nletter 0/0 1/1 2/2\n")
	expect(t, "TellingTree", impl.TellingTree, []any{quick}, []any{node(1, upTo(3), upTo(3), leaf(list(0), list(0)), leaf(list(1), list(1)), leaf(list(2), list(2))), impl.OK})
	same := readMachine("machine 3 3 3\nletter 0/0 1/0 2/1\nletter 0/0 1/1 2/2\nletter 1/2 2/1 0/0\n")
	expect(t, "TellingTree", impl.TellingTree, []any{same}, []any{node(1, upTo(3), upTo(3), leaf(list(0), list(0)), leaf(list(1), list(1)), leaf(list(2), list(2))), impl.OK})
	// Behind "a", the states 0 and 2 are told apart by "b" at once. The letter "a" would do as well for the depth of the tree, as 1 and 3 need two letters more, but the node would be deeper.
	m := readMachine("machine 4 2 2\nletter 2/0 3/1 0/0 1/1\nletter 1/1 3/0 2/0 0/0\n")
	deep := node(1, list(1, 3), list(3, 1), node(0, list(1, 3), list(0, 3), leaf(list(1), list(2)), leaf(list(3), list(1))), leaf(nil, nil))
	want := node(0, upTo(4), upTo(4), node(1, list(0, 2), list(2, 0), leaf(list(0), list(2)), leaf(list(2), list(1))), deep)
	expect(t, "TellingTree", impl.TellingTree, []any{m}, []any{want, impl.OK})
	beside := 0
	for _, m := range manyMachines() {
		tree, code := impl.TellingTree(m)
		if code != impl.OK {
			continue
		}
		known := map[string][2]int64{}
		depth := int64(depthOf(tree))
		for _, n := range nodesOf(&tree) {
			least, letter := modelDepth(m, slices.Clone(n.Now), 8, known)
			if int64(depthOf(*n)) != least || n.Letter != letter {
				t.Errorf("%v: the node %v has not the letter %d and the depth %d", m, *n, letter, least)
			}
			// A lesser letter would do if the depth of the tree were all that counts.
			for other := range n.Letter {
				if least > 0 && least < depth && modelDepthBehind(m, slices.Clone(n.Now), other, 8, known) >= least {
					beside++
				}
			}
		}
	}
	if beside < 5 {
		t.Errorf("only %d nodes where a lesser letter would be slower", beside)
	}
}

func TestPromise16TreeDepth(t *testing.T) {
	for n := int64(1); n <= 9; n++ {
		tree, code := impl.TellingTree(bell(n))
		if code != impl.OK || depthOf(tree) != int(n)-1 {
			t.Errorf("TellingTree(bell %d): got %v %d", n, tree, code)
		}
	}
	if depth := depthOf(must(impl.TellingTree(bell(9)))); depth != impl.MaxTreeDepth {
		t.Errorf("the depth %d is reached, not MaxTreeDepth", depth)
	}
	// One more is too deep for a telling tree, but not for a homing one, or for a telling word.
	expect(t, "TellingTree", impl.TellingTree, []any{bell(10)}, []any{impl.Tree{}, impl.ErrNotFound})
	home := must(impl.HomingTree(bell(10)))
	if depthOf(home) != 9 {
		t.Errorf("HomingTree(bell 10): got %v", home)
	}
	isTree(t, bell(10), home, true, true)
	expect(t, "TellingTree", impl.TellingTree, []any{longTelling()}, []any{impl.Tree{}, impl.ErrNotFound})
	for _, m := range []impl.Machine{silent(cycle(2)), doubled(bell(3)), comingTogether()} {
		expect(t, "TellingTree", impl.TellingTree, []any{m}, []any{impl.Tree{}, impl.ErrNotFound})
	}
}

// must returns a tree that is there.
func must(tree impl.Tree, code int64) impl.Tree {
	if code != impl.OK {
		panic("no tree: " + impl.CodeName(code))
	}
	return tree
}

// TestPromise16TreeNodes reaches MaxTreeNodes nodes, as near as there can be so many, and passes it.
func TestPromise16TreeNodes(t *testing.T) {
	one := silent(auto(1, list(0)))
	isTree(t, one, silentChain(impl.MaxTreeNodes), true, true)
	isTree(t, one, silentChain(impl.MaxTreeNodes+1), false, false)
	expect(t, "FollowTree", impl.FollowTree, []any{one, silentChain(impl.MaxTreeNodes), 0}, []any{repeated(0, impl.MaxTreeNodes-1), 0, impl.OK})
	expect(t, "FollowTree", impl.FollowTree, []any{one, silentChain(impl.MaxTreeNodes + 1), 0}, []any{nil, 0, impl.ErrInvalid})
	for outputs, nodes := range map[int64][2]int{2: {599, 601}, 3: {598, 601}} {
		m := machine(1, outputs, lists(list(0)), lists(list(0)))
		// Each letter has a kid for each output: one goes on, and no state leads to the others.
		tree := leaf(list(0), list(0))
		for modelNodes(tree) < nodes[0] {
			tree = node(0, list(0), list(0), append([]impl.Tree{tree}, slices.Repeat([]impl.Tree{leaf(nil, nil)}, int(outputs)-1)...)...)
		}
		if modelNodes(tree) != nodes[0] {
			t.Errorf("%d nodes instead of %d", modelNodes(tree), nodes[0])
		}
		isTree(t, m, tree, true, true)
		tree = node(0, list(0), list(0), append([]impl.Tree{tree}, slices.Repeat([]impl.Tree{leaf(nil, nil)}, int(outputs)-1)...)...)
		if modelNodes(tree) != nodes[1] {
			t.Errorf("%d nodes instead of %d", modelNodes(tree), nodes[1])
		}
		isTree(t, m, tree, false, false)
	}
	// Nodes without states count too.
	m := machine(1, 2, lists(list(0)), lists(list(0)))
	full := func(depth int) impl.Tree {
		tree := leaf(nil, nil)
		for range depth {
			tree = node(0, nil, nil, tree, tree)
		}
		return node(0, list(0), list(0), leaf(list(0), list(0)), tree)
	}
	isTree(t, m, full(8), true, true)
	isTree(t, m, full(9), false, false)
}

// TestPromise16GrownTrees compares the trees of machines with their models, and checks and follows them.
func TestPromise16GrownTrees(t *testing.T) {
	t.Parallel()
	seen := map[string]int{}
	for _, m := range append(manyMachines(), longHoming(), longTelling(), longIdentifying()) {
		named("HomingTree").compare(t, m)
		named("TellingTree").compare(t, m)
		home, code := impl.HomingTree(m)
		seen["home "+impl.CodeName(code)]++
		if code == impl.OK {
			followAll(t, m, home, false)
		}
		tell, code := impl.TellingTree(m)
		seen["tell "+impl.CodeName(code)]++
		if code == impl.OK {
			followAll(t, m, tell, true)
		}
		w, other := impl.TellingWord(m)
		if code == impl.OK && other == impl.ErrNotFound {
			seen["tree without word"]++
		}
		if code == impl.OK && other == impl.OK && depthOf(tell) > len(w) {
			t.Errorf("%v: the telling tree has the depth %d, but there is the word %v", m, depthOf(tell), w)
		}
		if other == impl.OK && len(w) <= impl.MaxTreeDepth && code != impl.OK {
			t.Errorf("%v: there is no telling tree, but the word %v", m, w)
		}
	}
	if seen["home ok"] < 500 || seen["home state"] < 500 || seen["tell ok"] < 500 || seen["tell notfound"] < 500 || seen["tree without word"] < 5 {
		t.Errorf("there are too few of some kinds: %v", seen)
	}
}

// followAll follows a tree from every state to a leaf that knows it: the state in the beginning, if it tells so, and the present one.
func followAll(t *testing.T, m impl.Machine, tree impl.Tree, tells bool) {
	t.Helper()
	for _, told := range []bool{false, tells} {
		if yes, code := impl.CheckTree(m, tree, told); !yes || code != impl.OK {
			t.Errorf("CheckTree(%v, %v, %v): got %v %d", m, tree, told, yes, code)
		}
	}
	for s := range m.States {
		letters, last, code := impl.FollowTree(m, tree, s)
		at := tree
		outputs, end := []int64(nil), s
		if len(letters) > 0 {
			outputs, end, _ = impl.OutputsOf(m, s, letters)
		}
		for i, letter := range letters {
			if at.Letter != letter {
				t.Fatalf("FollowTree(%v, %v, %d): got %v", m, tree, s, letters)
			}
			at = at.Kids[outputs[i]]
		}
		if code != impl.OK || last != end || at.Letter != -1 || !slices.Contains(at.From, s) || modelDifferent(at.Now)[0] != end || len(modelDifferent(at.Now)) != 1 {
			t.Errorf("FollowTree(%v, %v, %d): got %v %d %d", m, tree, s, letters, last, code)
		}
		if tells && !slices.Equal(at.From, list(s)) {
			t.Errorf("%v: %v does not tell the state %d", m, tree, s)
		}
	}
}

// TestPromise16WrongTrees changes a right tree in one place.
func TestPromise16WrongTrees(t *testing.T) {
	m := readMachine("machine 3 2 2\nletter 1/0 2/0 0/1\nletter 2/1 1/0 1/0\n")
	right := must(impl.HomingTree(m))
	want := node(1, upTo(3), upTo(3), node(0, list(1, 2), list(1, 1)), leaf(list(0), list(2)))
	want.Kids[0] = leaf(list(1, 2), list(1, 1))
	if wanted(right) != wanted(want) {
		t.Fatalf("HomingTree: got %v", right)
	}
	isTree(t, m, right, true, false)
	refuse := func(what string, change func(tree *impl.Tree)) {
		t.Helper()
		tree := copiedTree(right)
		change(&tree)
		for _, tells := range []bool{false, true} {
			if yes, code := impl.CheckTree(m, tree, tells); yes || code != impl.OK {
				t.Errorf("%s: %v is accepted with %d", what, tree, code)
			}
		}
		expect(t, "FollowTree", impl.FollowTree, []any{m, tree, 0}, []any{nil, 0, impl.ErrInvalid})
		expect(t, "FollowTree", impl.FollowTree, []any{m, tree, -1}, []any{nil, 0, impl.ErrInvalid})
	}
	refuse("without its first kid", func(tree *impl.Tree) { tree.Kids = tree.Kids[1:] })
	refuse("without its last kid", func(tree *impl.Tree) { tree.Kids = tree.Kids[:1] })
	refuse("without kids", func(tree *impl.Tree) { tree.Kids = nil })
	refuse("a kid more", func(tree *impl.Tree) { tree.Kids = append(tree.Kids, leaf(nil, nil)) })
	refuse("kids in another order", func(tree *impl.Tree) { slices.Reverse(tree.Kids) })
	refuse("another letter", func(tree *impl.Tree) { tree.Letter = 0 })
	for _, letter := range list(-2, 2, 3, math.MinInt64, math.MaxInt64) {
		refuse("no letter", func(tree *impl.Tree) { tree.Letter = letter })
		refuse("no letter in a kid", func(tree *impl.Tree) { tree.Kids[1].Letter = letter })
	}
	refuse("a leaf with kids", func(tree *impl.Tree) { tree.Letter = -1 })
	refuse("a leaf with kids", func(tree *impl.Tree) { tree.Kids[1].Kids = []impl.Tree{leaf(nil, nil), leaf(nil, nil)} })
	refuse("a leaf of several states", func(tree *impl.Tree) { *tree = leaf(upTo(3), upTo(3)) })
	refuse("a letter without kids", func(tree *impl.Tree) { tree.Kids[1].Letter = 0 })
	refuse("From in another order", func(tree *impl.Tree) { slices.Reverse(tree.Kids[0].From) })
	refuse("From of the root in another order", func(tree *impl.Tree) { slices.Reverse(tree.From) })
	refuse("Now of the root in another order", func(tree *impl.Tree) { slices.Reverse(tree.Now) })
	refuse("both in another order", func(tree *impl.Tree) { slices.Reverse(tree.From); slices.Reverse(tree.Now) })
	refuse("From without a state", func(tree *impl.Tree) { tree.Kids[0].From = list(1) })
	refuse("Now without a state", func(tree *impl.Tree) { tree.Kids[0].Now = list(1) })
	refuse("both without a state", func(tree *impl.Tree) { tree.Kids[0].From, tree.Kids[0].Now = list(1), list(1) })
	refuse("From with a state more", func(tree *impl.Tree) { tree.Kids[1].From = list(0, 1) })
	refuse("both with a state more", func(tree *impl.Tree) { tree.Kids[1].From, tree.Kids[1].Now = list(0, 1), list(2, 2) })
	refuse("another From", func(tree *impl.Tree) { tree.Kids[1].From = list(1) })
	refuse("another Now", func(tree *impl.Tree) { tree.Kids[1].Now = list(1) })
	refuse("no From", func(tree *impl.Tree) { tree.From = nil })
	refuse("no Now", func(tree *impl.Tree) { tree.Now = nil })
	refuse("a root without a state", func(tree *impl.Tree) { tree.From, tree.Now = list(0, 1), list(0, 1) })
	refuse("nothing", func(tree *impl.Tree) { *tree = impl.Tree{} })
	refuse("an empty leaf", func(tree *impl.Tree) { *tree = leaf(nil, nil) })
	refuse("a kid in place of the root", func(tree *impl.Tree) { *tree = tree.Kids[1] })
}

// TestPromise16LongerTrees tells that a tree may go on where it could end, with any letters, and that what counts are its leaves.
func TestPromise16LongerTrees(t *testing.T) {
	m := machineExample()
	tree := node(1, upTo(2), upTo(2), leaf(upTo(2), list(0, 0)), leaf(nil, nil))
	isTree(t, m, tree, true, false)
	expect(t, "FollowTree", impl.FollowTree, []any{m, tree, 1}, []any{word("b"), 0, impl.OK})
	tree.Kids[0] = node(0, upTo(2), list(0, 0), leaf(upTo(2), list(1, 1)), leaf(nil, nil))
	isTree(t, m, tree, true, false)
	tree.Kids[1] = node(1, nil, nil, leaf(nil, nil), node(0, nil, nil, leaf(nil, nil), leaf(nil, nil)))
	isTree(t, m, tree, true, false)
	expect(t, "FollowTree", impl.FollowTree, []any{m, tree, 0}, []any{word("ba"), 1, impl.OK})
	tree = must(impl.TellingTree(m))
	tree.Kids[1] = node(1, list(1), list(0), leaf(list(1), list(0)), leaf(nil, nil))
	isTree(t, m, tree, true, true)
	expect(t, "FollowTree", impl.FollowTree, []any{m, tree, 0}, []any{word("a"), 1, impl.OK})
	expect(t, "FollowTree", impl.FollowTree, []any{m, tree, 1}, []any{word("ab"), 0, impl.OK})
	for _, s := range list(-1, 2, 10, math.MinInt64, math.MaxInt64) {
		expect(t, "FollowTree", impl.FollowTree, []any{m, tree, s}, []any{nil, 0, impl.ErrRange})
	}
	// Empty lists may be nil or not.
	isTree(t, m, impl.Tree{Letter: 0, From: upTo(2), Now: upTo(2), Kids: []impl.Tree{{Letter: -1, From: list(0), Now: list(1), Kids: []impl.Tree{}}, leaf(list(1), list(0))}}, true, true)
	isTree(t, m, node(1, upTo(2), upTo(2), leaf(upTo(2), list(0, 0)), leaf(list(), list())), true, false)
}

// changedTree returns a tree that differs from another one in some place.
func changedTree(source *rand.Rand, m impl.Machine, tree impl.Tree) impl.Tree {
	out := copiedTree(tree)
	nodes := nodesOf(&out)
	n, other := nodes[source.Intn(len(nodes))], copiedTree(*nodes[source.Intn(len(nodes))])
	switch source.Intn(7) {
	case 0:
		n.From = changedList(source, n.From)
	case 1:
		n.Now = changedList(source, n.Now)
	case 2:
		n.Letter = source.Int63n(5) - 2
	case 3:
		if len(n.Kids) > 0 {
			n.Kids = slices.Delete(n.Kids, 0, 1)
		}
	case 4:
		*n = other
	case 5:
		n.Letter, n.Kids = -1, nil
	default:
		// A right node with any letter, and leaves behind it.
		n.Letter, n.Kids = source.Int63n(int64(len(m.Next))), nil
		for output := range m.Outputs {
			var from, now []int64
			for i, s := range n.Now {
				if s >= 0 && s < m.States && i < len(n.From) && m.Out[n.Letter][s] == output {
					from, now = append(from, n.From[i]), append(now, m.Next[n.Letter][s])
				}
			}
			n.Kids = append(n.Kids, leaf(from, now))
		}
	}
	return out
}

// TestPromise16ChangedTrees compares with the model what is told of right trees that have been changed in one or two places.
func TestPromise16ChangedTrees(t *testing.T) {
	t.Parallel()
	source := rand.New(rand.NewSource(16))
	seen := map[bool]int{}
	for _, m := range slices.Concat(validMachines(), adaptiveMachines(), randomMachines(120, 2, 6), randomMachines(10, 7, 10)) {
		for _, tree := range treesOf([]impl.Machine{m}) {
			for range 12 {
				other := changedTree(source, m, tree)
				if source.Intn(2) == 0 {
					other = changedTree(source, m, other)
				}
				for _, tells := range []bool{false, true} {
					named("CheckTree").compare(t, m, other, tells)
				}
				named("FollowTree").compare(t, m, other, source.Int63n(m.States))
				yes, _ := impl.CheckTree(m, other, false)
				seen[yes]++
				// A tree whose leaves tell the beginning tells the present state as well.
				if tells, _ := impl.CheckTree(m, other, true); tells && !yes {
					t.Errorf("CheckTree(%v, %v): true only if it tells", m, other)
				}
			}
		}
	}
	if seen[true] < 200 || seen[false] < 1000 {
		t.Errorf("there are too few of some answers: %v", seen)
	}
}
