package tests

import (
	"encoding/binary"
	"hash/crc32"
	"math"
	"slices"
	"strings"
	"testing"
	"unsafe"

	"loop.example/g00487/impl"
)

// leafOfNode: the leaf of each node (TestLeafOf holds it against the library); no node has leaf 2.
func leafOfNode() []int { return []int{1, 3, 1, 3, 0} }

// wireOf: the numbers one behind the other, by the library instead of the program.
func wireOf(numbers ...int) []byte {
	var out []byte
	for _, n := range numbers {
		out = binary.AppendUvarint(out, uint64(n))
	}
	return out
}

func sumOf(b []byte) int { return int(crc32.ChecksumIEEE(b) % 1024) }

func bytesByHand(s impl.State) []byte {
	out := wireOf(len(s.Items))
	for _, x := range s.Items {
		e := x.Entry
		out = append(out, wireOf(x.Id, e.Inc, e.Rank, e.Beat, e.Ver, len(e.Data))...)
		out = append(out, e.Data...)
	}
	out = append(out, wireOf(len(s.Floors))...)
	for _, f := range s.Floors {
		out = append(out, wireOf(f.Id, f.Inc)...)
	}
	return out
}

// sliceBySlots: what a right state has of the nodes whose leaf is among these.
func sliceBySlots(s impl.State, leaves []int) impl.State {
	all := slotsOf(s)
	for id := range all {
		if !slices.Contains(leaves, leafOfNode()[id]) {
			all[id] = slot{}
		}
	}
	return stateOf(all)
}

func leafSumByHand(s impl.State, leaf int) int {
	return sumOf(bytesByHand(sliceBySlots(s, []int{leaf})))
}

func rootByHand(leaves []int) int { return sumOf(wireOf(leaves...)) }

func treeByHand(s impl.State) impl.Tree {
	var leaves []int
	for leaf := range 4 {
		leaves = append(leaves, leafSumByHand(s, leaf))
	}
	return impl.Tree{Leaves: leaves, Root: rootByHand(leaves)}
}

func sameTree(a impl.Tree, b impl.Tree) bool {
	return a.Root == b.Root && slices.Equal(a.Leaves, b.Leaves)
}

func cloneTree(t impl.Tree) impl.Tree { return impl.Tree{Leaves: slices.Clone(t.Leaves), Root: t.Root} }

// treeStates: the right ones, and those with each number at its edges, among others and alone.
func treeStates() []impl.State {
	out := rightStates()
	for i, x := range edgeSlots() {
		id := i % impl.MaxNodes
		out = append(out, among(id, x), alone(id, x))
	}
	for _, data := range saidData()[:6] {
		out = append(out, saidOf(4, impl.Entry{Inc: 128, Beat: 127, Ver: 128, Data: data}))
	}
	return out
}

// leafLists: none, each alone, some, all, twice, in any order, and what is no leaf.
func leafLists() [][]int {
	out := [][]int{nil, {}, {0, 1, 2, 3}, {3, 2, 1, 0}, {2, 0, 3, 1}, {0, 1, 2, 3, 0, 1, 2, 3}, {1, 1}, {3, 1, 3}, {2, 2, 0},
		{-1}, {4}, {-1, 4}, {-1, 1, 4}, {4, 3, -1, 3}, {5, 6, 7, -2}, {math.MinInt, math.MaxInt}, {math.MaxInt, 0, math.MinInt},
		{-4, -3, -2, -1}, {4, 5, 6, 7, 8}}
	for mask := range 16 {
		var some []int
		for leaf := range 4 {
			if mask>>leaf%2 == 1 {
				some = append(some, leaf)
			}
		}
		out = append(out, some)
	}
	return out
}

// moreWrongStates: also those whose fault stands behind what is right.
func moreWrongStates() map[string]impl.State {
	out := wrongStates()
	out["a wrong Item behind right ones"] = itemsOf(itemOf(0, 1), goneOf(1, 1), itemOf(4, impl.MaxInc+1))
	out["a wrong Floor behind right Items"] = impl.State{Items: mixedState().Items, Floors: []impl.Floor{{Id: 4, Inc: 0}}}
	out["a number that PutNum does not write"] = itemsOf(impl.Item{Id: 0, Entry: impl.Entry{Inc: 1, Beat: 2147483648}})
	return out
}

// oddTrees: trees that no state has, with Leaves Leaves.
func oddTrees() []impl.Tree {
	return []impl.Tree{
		{Leaves: []int{0, 0, 0, 0}},
		{Leaves: []int{1, 2, 3, 4}, Root: 5},
		{Leaves: []int{1023, 127, 128, 0}, Root: -7},
		{Leaves: []int{1024, 16384, 2147483647, 5}, Root: 1024},
	}
}

// brokenTrees: trees that have not Leaves Leaves.
func brokenTrees() []impl.Tree {
	return []impl.Tree{
		{}, {Root: 883}, {Leaves: []int{}, Root: -1}, {Leaves: []int{767}, Root: 3}, {Leaves: []int{767, 767, 767}, Root: 883},
		{Leaves: []int{767, 767, 767, 767, 767}, Root: 4}, {Leaves: []int{1, 2, 3, 4, 5, 6, 7, 8}, Root: math.MaxInt},
		{Leaves: make([]int, 1000), Root: math.MinInt},
	}
}

func TestLimitsOfTheTree(t *testing.T) {
	if impl.Leaves != 4 || impl.SumMod != 1024 {
		t.Error(impl.Leaves, impl.SumMod)
	}
}

func TestLeafOf(t *testing.T) {
	for id, want := range leafOfNode() {
		if byHand := int(crc32.ChecksumIEEE(wireOf(id)) % 4); byHand != want {
			t.Fatalf("the leaf of %d is %d by hand", id, byHand)
		}
		if got := impl.LeafOf(id); got != want {
			t.Errorf("LeafOf(%d) = %d, not %d", id, got, want)
		}
	}
	for _, id := range []int{-1, -2, impl.MaxNodes, impl.MaxNodes + 1, 128, 2147483647, 2147483648, math.MinInt, math.MaxInt} {
		if got := impl.LeafOf(id); got != -1 {
			t.Errorf("LeafOf(%d) = %d", id, got)
		}
	}
}

func TestSlice(t *testing.T) {
	for _, s := range treeStates() {
		for _, leaves := range leafLists() {
			got, want := impl.Slice(s, leaves), sliceBySlots(s, leaves)
			if !sameState(got, want) || !impl.StateOk(got) {
				t.Fatalf("Slice(%v, %v) = %v, not %v", s, leaves, got, want)
			}
		}
	}
}

func TestSliceInWords(t *testing.T) {
	s := mixedState()
	for _, c := range []struct {
		leaves []int
		want   string
	}{
		{nil, ""},
		{[]int{0}, ""},
		{[]int{1}, "0=1u1.1:d1 -2<7"},
		{[]int{2}, ""},
		{[]int{3}, "1=4g2.0:g 3=9u1.1:d1 -1<2 -3<5"},
		{[]int{3, 1}, "0=1u1.1:d1 1=4g2.0:g 3=9u1.1:d1 -1<2 -2<7 -3<5"},
		{[]int{1, 1, -1, 4}, "0=1u1.1:d1 -2<7"},
		{[]int{-1, 4}, ""},
	} {
		if got := impl.StateText(impl.Slice(s, c.leaves)); got != c.want {
			t.Errorf("leaves %v: %q, not %q", c.leaves, got, c.want)
		}
	}
}

func TestSlicesOfAllLeavesAreTheStateAgain(t *testing.T) {
	for _, s := range treeStates() {
		for _, order := range [][]int{{0, 1, 2, 3}, {3, 2, 1, 0}, {2, 0, 3, 1}} {
			var all impl.State
			for _, leaf := range order {
				all = mustJoin(t, all, impl.Slice(s, []int{leaf}))
			}
			if !sameState(all, s) || !sameState(impl.Slice(s, order), s) {
				t.Fatalf("the Slices of %v joined: %v", s, all)
			}
		}
	}
}

func TestEachNodeStandsInTheSliceOfItsOwnLeaf(t *testing.T) {
	for _, s := range treeStates() {
		for id, known := range slotsOf(s) {
			for leaf := range impl.Leaves {
				want := slot{}
				if leaf == impl.LeafOf(id) {
					want = known
				}
				if got := slotsOf(impl.Slice(s, []int{leaf}))[id]; got != want {
					t.Fatalf("%d in leaf %d of %v: %v, not %v", id, leaf, s, got, want)
				}
			}
		}
	}
}

func TestStateBytes(t *testing.T) {
	most := impl.Entry{Inc: impl.MaxInc, Rank: impl.RkGone, Beat: impl.MaxBeat, Ver: impl.MaxVer, Data: "12345678"}
	for _, c := range []struct {
		why  string
		s    impl.State
		want string
	}{
		{"zero", impl.State{}, "\x00\x00"},
		{"empty lists", impl.State{Items: []impl.Item{}, Floors: []impl.Floor{}}, "\x00\x00"},
		{"one Item", saidOf(2, impl.Entry{Inc: 1}), "\x01\x02\x01\x00\x00\x00\x00\x00"},
		{"numbers that are not the same", saidOf(4, impl.Entry{Inc: 5, Rank: 1, Beat: 6, Ver: 7, Data: "a\x00"}), "\x01\x04\x05\x01\x06\x07\x02a\x00\x00"},
		{"numbers of one byte at most", saidOf(0, impl.Entry{Inc: 127, Beat: 127, Ver: 127}), "\x01\x00\x7f\x00\x7f\x7f\x00\x00"},
		{"numbers of two bytes at least", saidOf(0, impl.Entry{Inc: 128, Beat: 128, Ver: 128}), "\x01\x00\x80\x01\x00\x80\x01\x80\x01\x00\x00"},
		{"a number of three bytes", saidOf(0, impl.Entry{Inc: 1, Beat: 16384}), "\x01\x00\x01\x00\x80\x80\x01\x00\x00\x00"},
		{"the most of all", saidOf(4, most), "\x01\x04\xe8\x07\x01\xa0\x8d\x06\xe8\x07\x0812345678\x00"},
		{"one Floor", floorsOf(impl.Floor{Id: 3, Inc: 5}), "\x00\x01\x03\x05"},
		{"Floors", floorsOf(impl.Floor{Id: 0, Inc: 127}, impl.Floor{Id: 1, Inc: 128}, impl.Floor{Id: 4, Inc: impl.MaxInc}), "\x00\x03\x00\x7f\x01\x80\x01\x04\xe8\x07"},
		{"both", mixedState(), "\x03" + "\x00\x01\x00\x01\x01\x02d1" + "\x01\x04\x01\x02\x00\x01g" + "\x03\x09\x00\x01\x01\x02d1" + "\x03\x01\x02\x02\x07\x03\x05"},
	} {
		if got := string(impl.StateBytes(c.s)); got != c.want {
			t.Errorf("%s: %q, not %q", c.why, got, c.want)
		}
	}
	for _, s := range treeStates() {
		if got := impl.StateBytes(s); !slices.Equal(got, bytesByHand(s)) {
			t.Fatalf("StateBytes(%v) = %v, not %v", s, got, bytesByHand(s))
		}
	}
}

func TestStatesThatDifferHaveOtherBytes(t *testing.T) {
	of := map[string]impl.State{}
	for _, s := range treeStates() {
		b := string(impl.StateBytes(s))
		if other, ok := of[b]; ok && !sameState(s, other) {
			t.Fatalf("%v and %v have the bytes %q", s, other, b)
		}
		of[b] = s
	}
}

func TestLeafSum(t *testing.T) {
	for _, s := range treeStates() {
		for leaf := range impl.Leaves {
			got := impl.LeafSum(s, leaf)
			if want := leafSumByHand(s, leaf); got != want {
				t.Fatalf("LeafSum(%v, %d) = %d, not %d", s, leaf, got, want)
			}
			if want := impl.Crc(impl.StateBytes(impl.Slice(s, []int{leaf}))) % impl.SumMod; got != want {
				t.Fatalf("LeafSum(%v, %d) = %d, not %d as the program's own parts have it", s, leaf, got, want)
			}
		}
		for _, leaf := range []int{-1, -4, impl.Leaves, impl.Leaves + 1, math.MinInt, math.MaxInt} {
			if got := impl.LeafSum(s, leaf); got != 0 {
				t.Fatalf("LeafSum(%v, %d) = %d", s, leaf, got)
			}
		}
	}
}

func TestTreeOf(t *testing.T) {
	for _, s := range treeStates() {
		got := impl.TreeOf(s)
		if !sameTree(got, treeByHand(s)) {
			t.Fatalf("TreeOf(%v) = %v, not %v", s, got, treeByHand(s))
		}
		var wire []byte
		for leaf, sum := range got.Leaves {
			if sum != impl.LeafSum(s, leaf) {
				t.Fatalf("leaf %d of TreeOf(%v) = %v", leaf, s, got)
			}
			wire = append(wire, impl.PutNum(sum)...)
		}
		if got.Root != impl.Crc(wire)%impl.SumMod {
			t.Fatalf("Root of TreeOf(%v) = %v", s, got)
		}
	}
	if got := impl.TreeOf(impl.State{}); !sameTree(got, impl.Tree{Leaves: []int{767, 767, 767, 767}, Root: 883}) {
		t.Error("of nothing:", got)
	}
}

func TestTreesOfWrongStates(t *testing.T) {
	for why, s := range moreWrongStates() {
		for _, leaves := range leafLists() {
			if got := impl.Slice(s, leaves); !isZeroState(got) {
				t.Errorf("%s: Slice of %v: %v", why, leaves, got)
			}
		}
		if got := impl.StateBytes(s); len(got) != 0 {
			t.Errorf("%s: StateBytes: %v", why, got)
		}
		for leaf := -1; leaf <= impl.Leaves; leaf++ {
			if got := impl.LeafSum(s, leaf); got != 0 {
				t.Errorf("%s: LeafSum of %d: %d", why, leaf, got)
			}
		}
		if got := impl.TreeOf(s); len(got.Leaves) != 0 || got.Root != 0 {
			t.Errorf("%s: TreeOf: %v", why, got)
		}
		for _, tree := range slices.Concat(oddTrees(), brokenTrees(), []impl.Tree{treeByHand(mixedState())}) {
			for _, id := range append(probedIds(), 91) {
				if got := impl.TreeTouch(tree, s, id); !sameTree(got, tree) {
					t.Errorf("%s: TreeTouch of %v at %d: %v", why, tree, id, got)
				}
			}
		}
	}
}

func TestTreeTouchWhereOneNodeHasTurned(t *testing.T) {
	for _, s := range rightStates() {
		for id := range impl.MaxNodes {
			for _, known := range append(smallSlots(), slot{entry: impl.Entry{Inc: impl.MaxInc, Beat: impl.MaxBeat, Data: "12345678"}}) {
				all := slotsOf(s)
				all[id] = known
				now := stateOf(all)
				if got := impl.TreeTouch(treeByHand(s), now, id); !sameTree(got, treeByHand(now)) {
					t.Fatalf("%v, then %v: %v, not %v", s, now, got, treeByHand(now))
				}
			}
		}
	}
}

func TestTreeTouchWhereNobodyHasTurned(t *testing.T) {
	for _, s := range treeStates() {
		for id := range impl.MaxNodes {
			if got := impl.TreeTouch(treeByHand(s), s, id); !sameTree(got, treeByHand(s)) {
				t.Fatalf("%v touched at %d: %v, not %v", s, id, got, treeByHand(s))
			}
		}
	}
}

// Touched at one node of each leaf that has one, it is the new state's tree, however many have turned.
func TestTreeTouchOneBehindTheOther(t *testing.T) {
	all := append(ordinaryStates(), mixedState())
	for _, a := range all {
		for _, b := range all {
			for _, order := range [][]int{{0, 1, 4}, {4, 3, 2}, {1, 4, 0, 2, 3}} {
				tree := impl.TreeOf(a)
				for _, id := range order {
					tree = impl.TreeTouch(tree, b, id)
				}
				if !sameTree(tree, treeByHand(b)) {
					t.Fatalf("%v touched by %v at %v: %v", a, b, order, tree)
				}
			}
		}
	}
}

// The other leaves stay what they are, whatever that is, and the Root is made anew of all.
func TestTreeTouchOfOddTrees(t *testing.T) {
	for _, tree := range oddTrees() {
		for _, s := range append(ordinaryStates(), mixedState()) {
			for id := range impl.MaxNodes {
				want := cloneTree(tree)
				want.Leaves[leafOfNode()[id]] = leafSumByHand(s, leafOfNode()[id])
				want.Root = rootByHand(want.Leaves)
				if got := impl.TreeTouch(tree, s, id); !sameTree(got, want) {
					t.Fatalf("%v touched by %v at %d: %v, not %v", tree, s, id, got, want)
				}
			}
		}
	}
	// PutNum tells nothing of numbers that it does not write.
	tree := impl.Tree{Leaves: []int{9, -1, math.MaxInt, 2147483648}, Root: 1}
	want := impl.Tree{Leaves: []int{767, -1, math.MaxInt, 2147483648}, Root: rootByHand([]int{767})}
	if got := impl.TreeTouch(tree, impl.State{}, 4); !sameTree(got, want) {
		t.Errorf("%v, not %v", got, want)
	}
}

func TestTreeTouchAsItWas(t *testing.T) {
	for _, s := range append(ordinaryStates(), mixedState()) {
		for _, tree := range brokenTrees() {
			for _, id := range probedIds() {
				if got := impl.TreeTouch(tree, s, id); !sameTree(got, tree) {
					t.Errorf("%v, which is broken, touched at %d: %v", tree, id, got)
				}
			}
		}
		for _, tree := range append(oddTrees(), treeByHand(mixedState())) {
			for _, id := range append(probedIds(), 91) {
				if got := impl.TreeTouch(tree, s, id); !isNodeId(id) && !sameTree(got, tree) {
					t.Errorf("%v touched at %d: %v", tree, id, got)
				}
			}
		}
	}
}

func TestDifferTellsNothingWhereTheRootsAreTheSame(t *testing.T) {
	trees := slices.Concat(oddTrees(), brokenTrees(), []impl.Tree{treeByHand(mixedState())})
	for _, root := range []int{0, 883, -1, math.MaxInt, math.MinInt} {
		for _, a := range trees {
			for _, b := range trees {
				a.Root, b.Root = root, root
				if got := impl.Differ(a, b); len(got) != 0 {
					t.Errorf("Differ(%v, %v) = %v", a, b, got)
				}
			}
		}
	}
}

func TestDifferTellsEachLeafThatDiffers(t *testing.T) {
	for _, base := range append(oddTrees(), treeByHand(mixedState())) {
		for mask := range 16 {
			other, want := cloneTree(base), []int(nil)
			other.Root = base.Root + 1
			for leaf := range 4 {
				if mask>>leaf%2 == 1 {
					other.Leaves[leaf] += 1 + leaf
					want = append(want, leaf)
				}
			}
			if got := impl.Differ(base, other); !slices.Equal(got, want) {
				t.Errorf("Differ(%v, %v) = %v, not %v", base, other, got, want)
			}
			if got := impl.Differ(other, base); !slices.Equal(got, want) {
				t.Errorf("Differ(%v, %v) = %v, not %v", other, base, got, want)
			}
		}
	}
}

func TestDifferTellsAllLeavesOfBrokenTrees(t *testing.T) {
	all := []int{0, 1, 2, 3}
	for _, broken := range brokenTrees() {
		for _, other := range slices.Concat(oddTrees(), brokenTrees(), []impl.Tree{treeByHand(impl.State{})}) {
			if other.Root == broken.Root {
				other.Root++
			}
			if got := impl.Differ(broken, other); !slices.Equal(got, all) {
				t.Errorf("Differ(%v, %v) = %v", broken, other, got)
			}
			if got := impl.Differ(other, broken); !slices.Equal(got, all) {
				t.Errorf("Differ(%v, %v) = %v", other, broken, got)
			}
		}
		// Broken, with the very same leaves.
		other := cloneTree(broken)
		other.Root ^= 1
		if got := impl.Differ(broken, other); !slices.Equal(got, all) {
			t.Errorf("Differ(%v, %v) = %v", broken, other, got)
		}
	}
}

// Of any two states whose Roots are not the same: a leaf that is told has other sums, and so differs; one that is not told has the same sums.
func TestWhereLeavesAreTheSameWhatDiffersHasTheSameSums(t *testing.T) {
	states := treeStates()
	var trees []impl.Tree
	for _, s := range states {
		trees = append(trees, impl.TreeOf(s))
	}
	for i, a := range states {
		for j, b := range states {
			told := impl.Differ(trees[i], trees[j])
			if trees[i].Root == trees[j].Root {
				if len(told) != 0 {
					t.Fatalf("%v, %v: %v though the Roots are the same", a, b, told)
				}
				continue
			}
			checkTold(t, a, b, trees[i], trees[j], told)
		}
	}
}

func checkTold(t *testing.T, a impl.State, b impl.State, x impl.Tree, y impl.Tree, told []int) {
	t.Helper()
	for leaf := range impl.Leaves {
		differ := x.Leaves[leaf] != y.Leaves[leaf]
		if slices.Contains(told, leaf) != differ {
			t.Fatalf("%v, %v: leaf %d is wrong in %v", a, b, leaf, told)
		}
		if differ && sameState(sliceBySlots(a, []int{leaf}), sliceBySlots(b, []int{leaf})) {
			t.Fatalf("%v, %v: leaf %d is told and does not differ", a, b, leaf)
		}
	}
	if !slices.IsSorted(told) || len(slices.Compact(slices.Clone(told))) != len(told) {
		t.Fatalf("%v, %v: %v", a, b, told)
	}
}

// Joined with the other's Slice of what is told, each leaf is both joined, or has sums that were the same.
func TestWhatIsToldMakesTheStateWhole(t *testing.T) {
	all := append(ordinaryStates(), mixedState())
	for _, a := range all {
		for _, b := range all {
			x, y := impl.TreeOf(a), impl.TreeOf(b)
			told := impl.Differ(x, y)
			got, want := mustJoin(t, a, impl.Slice(b, told)), mustJoin(t, a, b)
			for leaf := range impl.Leaves {
				same := x.Root == y.Root || x.Leaves[leaf] == y.Leaves[leaf]
				if !same && !sameState(impl.Slice(got, []int{leaf}), impl.Slice(want, []int{leaf})) {
					t.Fatalf("%v with leaves %v of %v: %v", a, told, b, got)
				}
			}
		}
	}
}

// Two states that are as unlike as can be, and of which the Roots are the same all the same.
func TestRootsThatAreTheSameByChance(t *testing.T) {
	a, b := impl.TreeOf(impl.State{}), impl.TreeOf(mixedState())
	if !sameTree(b, impl.Tree{Leaves: []int{767, 64, 767, 1011}, Root: 883}) || a.Root != b.Root {
		t.Fatalf("%v, %v", a, b)
	}
	if got := impl.Differ(a, b); len(got) != 0 {
		t.Error(got)
	}
	if got := impl.Differ(b, a); len(got) != 0 {
		t.Error(got)
	}
}

// Two states whose sums of one leaf are the same by chance: beside another leaf that differs, that one alone is told.
func TestLeavesThatAreTheSameByChance(t *testing.T) {
	first := map[int]int{}
	for beat := 0; beat <= impl.SumMod; beat++ {
		sum := impl.LeafSum(saidOf(4, impl.Entry{Inc: 1, Beat: beat}), 0)
		if _, ok := first[sum]; !ok {
			first[sum] = beat
			continue
		}
		a := itemsOf(itemOf(1, 1), impl.Item{Id: 4, Entry: impl.Entry{Inc: 1, Beat: first[sum]}})
		b := itemsOf(itemOf(1, 2), impl.Item{Id: 4, Entry: impl.Entry{Inc: 1, Beat: beat}})
		x, y := impl.TreeOf(a), impl.TreeOf(b)
		if x.Root == y.Root {
			continue
		}
		if got := impl.Differ(x, y); !slices.Equal(got, []int{3}) {
			t.Errorf("%v, %v: %v", a, b, got)
		}
		return
	}
	t.Error("no two sums were the same")
}

// roomyInts: a list with spare room behind it, and that room.
func roomyInts(list []int) ([]int, []int) {
	room := append(slices.Clone(list), 91, 92)
	return room[:len(list)], room
}

func scribbleInts(list []int) {
	list = list[:cap(list)]
	for i := range list {
		list[i] = 77
	}
}

func TestNothingIsWrittenIntoWhatIsSummed(t *testing.T) {
	checkNothingWritten(t, append(ordinaryStates(), mixedState()), func(a impl.State, b impl.State) {
		leaves, room := roomyInts([]int{3, 0, 1, 1})
		tree := impl.Tree{Leaves: leaves, Root: 1}
		impl.Slice(a, leaves)
		impl.StateBytes(a)
		impl.TreeOf(a)
		impl.Differ(impl.TreeOf(a), tree)
		impl.Differ(tree, impl.TreeOf(b))
		for id := -1; id <= impl.MaxNodes; id++ {
			impl.LeafSum(a, id)
			impl.TreeTouch(tree, a, id)
		}
		if !slices.Equal(room, []int{3, 0, 1, 1, 91, 92}) || tree.Root != 1 {
			t.Fatal(room)
		}
	})
}

func TestSlicesAndBytesAreNewMemory(t *testing.T) {
	for _, s := range append(ordinaryStates(), mixedState()) {
		a, room := roomy(s)
		was := cloneState(room)
		leaves := []int{1, 3, 0}
		cut, wire := impl.Slice(a, leaves), impl.StateBytes(a)
		again, wireAgain := impl.Slice(a, leaves), impl.StateBytes(a)
		want, wantWire := cloneState(again), slices.Clone(wireAgain)
		scribble(cut)
		wire = wire[:cap(wire)]
		for i := range wire {
			wire[i] = 77
		}
		if !sameState(room, was) || !slices.Equal(leaves, []int{1, 3, 0}) {
			t.Fatalf("%v turned with an answer", s)
		}
		scribble(room)
		scribbleInts(leaves)
		if !sameState(again, want) || !slices.Equal(wireAgain, wantWire) {
			t.Fatalf("an answer turned with %v or another answer", s)
		}
	}
}

func TestTreesAreNewMemory(t *testing.T) {
	s := mixedState()
	for _, tree := range slices.Concat(oddTrees(), brokenTrees()) {
		for id := -1; id <= impl.MaxNodes; id++ {
			leaves, room := roomyInts(tree.Leaves)
			given := impl.Tree{Leaves: leaves, Root: tree.Root}
			got, again := impl.TreeTouch(given, s, id), impl.TreeTouch(given, s, id)
			want := cloneTree(again)
			scribbleInts(got.Leaves)
			if !slices.Equal(room, append(slices.Clone(tree.Leaves), 91, 92)) {
				t.Fatalf("%v turned with the answer: %v", tree, room)
			}
			scribbleInts(room)
			if !sameTree(again, want) {
				t.Fatalf("the answer turned with %v or another answer", tree)
			}
		}
	}
	first, second := impl.TreeOf(s), impl.TreeOf(s)
	scribbleInts(first.Leaves)
	if !sameTree(second, treeByHand(s)) || !sameTree(impl.TreeOf(s), treeByHand(s)) {
		t.Error("TreeOf turned with another answer")
	}
}

func TestWhatDiffersIsNewMemory(t *testing.T) {
	for _, tree := range slices.Concat(oddTrees(), brokenTrees()) {
		a, b := cloneTree(tree), impl.Tree{Leaves: []int{70, 71, 72, 73}, Root: 999}
		got, again := impl.Differ(a, b), impl.Differ(a, b)
		want := slices.Clone(again)
		scribbleInts(got)
		if !slices.Equal(again, want) || !slices.Equal(impl.Differ(a, b), want) {
			t.Fatalf("what differs from %v turned with another answer", tree)
		}
		if !sameTree(a, tree) || !slices.Equal(b.Leaves, []int{70, 71, 72, 73}) {
			t.Fatalf("%v turned with the answer", tree)
		}
	}
}

func TestTextsOfSlicesAreNewMemory(t *testing.T) {
	data := strings.Repeat("a", impl.MaxData)
	s := saidOf(1, impl.Entry{Inc: 2, Data: data})
	if got := impl.Slice(s, []int{3}); unsafe.StringData(got.Items[0].Entry.Data) == unsafe.StringData(data) {
		t.Error("Slice shares a text")
	}
}
