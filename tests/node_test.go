package tests

import (
	"fmt"
	"maps"
	"math"
	"slices"
	"strings"
	"testing"
	"unsafe"

	"loop.example/g00487/impl"
)

// blankNode: a node that knows nothing.
func blankNode(id int, n int) impl.Node {
	return impl.Node{
		Id: id, N: n, Tree: treeByHand(impl.State{}), Log: impl.Log{Cap: 4}, Got: make([]int, n), Acked: make([]int, n),
		Seen: tableOf(n, 0), Slots: 2, Wait: 3, Limit: 5, Rises: make([]impl.Rise, 5),
	}
}

// fullNode: a node with something in every field.
func fullNode() impl.Node {
	return impl.Node{
		Id: 1, N: 3, State: mixedState(), Tree: treeByHand(mixedState()),
		Log: impl.Log{Cap: 4, From: 5, List: []impl.State{itemsOf(itemOf(1, 3)), itemsOf(goneOf(1, 3))}},
		Got: []int{4, 7, 0}, Acked: []int{6, 7, 0},
		Seen: [][]int{{0, 4, 0, 8, 0}, {0, 4, 7, 8, 0}, {1, 2, 3, 1000, 0}},
		Num:  9, Slots: 3, Sess: []impl.Sess{{Peer: 0, Num: 9, Age: 2}, {Peer: 0, Num: 3, In: true}, {Peer: 2, Num: 8, Age: 5}},
		Wait: 5, Limit: 6, Clock: 40,
		Rises: []impl.Rise{{Inc: 1, Beat: 1, Tick: 40}, {Inc: 4, Beat: 2, Tick: 7}, {}, {Inc: 9, Beat: 1, Tick: 39}, {Tick: 3}},
	}
}

func cloneNode(n impl.Node) impl.Node {
	n.State, n.Tree, n.Log, n.Seen = cloneState(n.State), cloneTree(n.Tree), cloneLog(n.Log), cloneTable(n.Seen)
	n.Got, n.Acked, n.Sess, n.Rises = slices.Clone(n.Got), slices.Clone(n.Acked), slices.Clone(n.Sess), slices.Clone(n.Rises)
	return n
}

// with: the node, in other memory, with something about it turned.
func with(n impl.Node, turn func(n *impl.Node)) impl.Node {
	n = cloneNode(n)
	turn(&n)
	return n
}

// knowing: the node with this as what it knows.
func knowing(n impl.Node, s impl.State) impl.Node {
	return with(n, func(n *impl.Node) { n.State, n.Tree = cloneState(s), treeByHand(s) })
}

// sameNode holds each field against its like without the program.
func sameNode(a impl.Node, b impl.Node) bool {
	return a.Id == b.Id && a.N == b.N && sameState(a.State, b.State) && sameTree(a.Tree, b.Tree) && sameLog(a.Log, b.Log) &&
		slices.Equal(a.Got, b.Got) && slices.Equal(a.Acked, b.Acked) && sameTable(a.Seen, b.Seen) && a.Num == b.Num &&
		a.Slots == b.Slots && slices.Equal(a.Sess, b.Sess) && a.Wait == b.Wait && a.Limit == b.Limit && a.Clock == b.Clock &&
		slices.Equal(a.Rises, b.Rises)
}

func sessOkByHand(n impl.Node) bool {
	for at, s := range n.Sess {
		if s.Peer < 0 || s.Peer >= n.N || s.Peer == n.Id || !numbersFrom0(100000, s.Num) || !numbersFrom0(n.Wait, s.Age) {
			return false
		}
		for _, other := range n.Sess[at+1:] {
			if other.Peer == s.Peer && other.In == s.In {
				return false
			}
		}
	}
	return len(n.Sess) <= n.Slots
}

func nodeOkByHand(n impl.Node) bool {
	if n.N < 1 || n.N > 5 || n.Id < 0 || n.Id >= n.N || !impl.StateOk(n.State) || !impl.LogOk(n.Log) {
		return false
	}
	said := n.Log.From + len(n.Log.List)
	if len(n.Got) != n.N || len(n.Acked) != n.N || len(n.Seen) != n.N || len(n.Rises) != 5 || n.Got[n.Id] != said {
		return false
	}
	for _, row := range n.Seen {
		if len(row) != 5 || !numbersFrom0(1000, row...) {
			return false
		}
	}
	for _, r := range n.Rises {
		if !numbersFrom0(1000, r.Inc) || !numbersFrom0(100000, r.Beat) || !numbersFrom0(n.Clock, r.Tick) {
			return false
		}
	}
	return sameTree(n.Tree, treeByHand(n.State)) && numbersFrom0(100000, n.Got...) && numbersFrom0(said, n.Acked...) &&
		numbersFrom0(100000, n.Num, n.Clock) && n.Slots >= 1 && n.Slots <= 4 && sessOkByHand(n) &&
		n.Wait >= 1 && n.Wait <= 20 && n.Limit >= 1 && n.Limit <= 50
}

func TestLimitsOfNodes(t *testing.T) {
	if impl.MaxSlots != 4 || impl.MaxWait != 20 || impl.MaxLimit != 50 {
		t.Error(impl.MaxSlots, impl.MaxWait, impl.MaxLimit)
	}
}

func checkNodeOk(t *testing.T, why string, n impl.Node, want bool) {
	t.Helper()
	if got := impl.NodeOk(n); got != want || nodeOkByHand(n) != want {
		t.Errorf("%s: NodeOk(%v) = %v", why, n, got)
	}
}

func TestNodeOkInWords(t *testing.T) {
	checkNodeOk(t, "blank", blankNode(0, 2), true)
	checkNodeOk(t, "full", fullNode(), true)
	checkNodeOk(t, "zero", impl.Node{}, false)
	for n := 1; n <= impl.MaxNodes; n++ {
		for id := range n {
			checkNodeOk(t, "blank", blankNode(id, n), true)
		}
	}
	none := with(blankNode(0, 1), func(n *impl.Node) {
		n.State = impl.State{Items: []impl.Item{}, Floors: []impl.Floor{}}
		n.Log.List, n.Sess = []impl.State{}, []impl.Sess{}
	})
	checkNodeOk(t, "with empty lists", none, true)
}

func TestNodeOkOfEachNAndId(t *testing.T) {
	numbers := []int{math.MinInt, -5, -1, 0, 1, 2, 3, 4, 5, 6, 7, math.MaxInt}
	for _, n := range numbers {
		for _, id := range numbers {
			for size := range 8 {
				one := blankNode(id, size)
				one.N = n
				checkNodeOk(t, fmt.Sprint(size, " in each list"), one, size == n && 1 <= n && n <= 5 && 0 <= id && id < n)
			}
		}
	}
}

func TestNodeOkOfEachState(t *testing.T) {
	for _, s := range treeStates() {
		checkNodeOk(t, "with its tree", knowing(fullNode(), s), true)
		checkNodeOk(t, "with its tree", knowing(blankNode(4, 5), s), true)
		other := with(blankNode(0, 1), func(n *impl.Node) { n.State = s })
		checkNodeOk(t, "with the tree of nothing", other, sameTree(treeByHand(s), treeByHand(impl.State{})))
	}
	for why, s := range moreWrongStates() {
		for _, tree := range []impl.Tree{{}, treeByHand(impl.State{}), treeByHand(mixedState())} {
			checkNodeOk(t, why, with(fullNode(), func(n *impl.Node) { n.State, n.Tree = s, tree }), false)
		}
	}
}

func TestNodeOkWithAnotherTree(t *testing.T) {
	for _, n := range []impl.Node{blankNode(0, 2), fullNode()} {
		for _, tree := range append(oddTrees(), brokenTrees()...) {
			checkNodeOk(t, "another tree", with(n, func(n *impl.Node) { n.Tree = tree }), false)
		}
		for _, more := range []int{math.MinInt, -1, 1, impl.SumMod, math.MaxInt} {
			checkNodeOk(t, "another Root", with(n, func(n *impl.Node) { n.Tree.Root += more }), false)
			for leaf := range impl.Leaves {
				checkNodeOk(t, "another leaf", with(n, func(n *impl.Node) { n.Tree.Leaves[leaf] += more }), false)
			}
		}
		for size := range impl.Leaves {
			checkNodeOk(t, "too few leaves", with(n, func(n *impl.Node) { n.Tree.Leaves = n.Tree.Leaves[:size] }), false)
		}
		for _, more := range []int{0, 767, n.Tree.Leaves[3]} {
			checkNodeOk(t, "too many leaves", with(n, func(n *impl.Node) { n.Tree.Leaves = append(n.Tree.Leaves, more) }), false)
		}
		checkNodeOk(t, "no leaves", with(n, func(n *impl.Node) { n.Tree.Leaves = nil }), false)
	}
}

// withLog: the node with this log, and with so many of its own changes heard.
func withLog(n impl.Node, l impl.Log, got int) impl.Node {
	return with(n, func(n *impl.Node) { n.Log, n.Got[n.Id], n.Acked = l, got, make([]int, n.N) })
}

func TestNodeOkOfEachLog(t *testing.T) {
	for _, n := range []impl.Node{blankNode(0, 1), fullNode()} {
		for _, l := range rightLogs(eachItsOwn) {
			said := l.From + len(l.List)
			for _, got := range []int{math.MinInt, -1, 0, l.From, said - 1, said, said + 1, impl.MaxSeq, math.MaxInt} {
				checkNodeOk(t, "a right log", withLog(n, l, got), got == said)
			}
		}
		for why, l := range wrongLogs() {
			for _, got := range []int{0, l.From, l.From + len(l.List), 7} {
				checkNodeOk(t, why, withLog(n, l, got), false)
			}
		}
	}
}

// edgesOf: numbers about 0 and about the greatest one that is right, and what is far off.
func edgesOf(most int) []int {
	return []int{math.MinInt, -2, -1, 0, 1, most - 1, most, most + 1, most + 2, math.MaxInt}
}

func TestNodeOkOfGotAndAcked(t *testing.T) {
	for n := 1; n <= impl.MaxNodes; n++ {
		for id := range n {
			base := withLog(blankNode(id, n), history(rising).log(3, 5, 2), 7)
			checkNodeOk(t, "base", base, true)
			for size := range 8 {
				v := slices.Repeat([]int{7}, size)
				checkNodeOk(t, "a length of Got", with(base, func(n *impl.Node) { n.Got = v }), size == n)
				checkNodeOk(t, "a length of Acked", with(base, func(n *impl.Node) { n.Acked = v }), size == n)
			}
			for at := range n {
				for _, x := range edgesOf(impl.MaxSeq) {
					right := 0 <= x && x <= impl.MaxSeq && at != id
					checkNodeOk(t, "a Got", with(base, func(n *impl.Node) { n.Got[at] = x }), right)
				}
				for _, x := range append(edgesOf(7), edgesOf(impl.MaxSeq)...) {
					checkNodeOk(t, "an Acked", with(base, func(n *impl.Node) { n.Acked[at] = x }), 0 <= x && x <= 7)
				}
			}
			checkNodeOk(t, "one heard less", with(base, func(n *impl.Node) { n.Got[id]-- }), false)
			checkNodeOk(t, "one heard more", with(base, func(n *impl.Node) { n.Got[id]++ }), false)
		}
	}
	checkNodeOk(t, "no Got", with(fullNode(), func(n *impl.Node) { n.Got = nil }), false)
	checkNodeOk(t, "no Acked", with(fullNode(), func(n *impl.Node) { n.Acked = nil }), false)
	checkNodeOk(t, "acked at Id", with(fullNode(), func(n *impl.Node) { n.Acked[1] = 8 }), false)
}

func TestNodeOkOfTables(t *testing.T) {
	for n := 1; n <= impl.MaxNodes; n++ {
		base := blankNode(n-1, n)
		for _, table := range append(oddTables(), rightTables()...) {
			one := with(base, func(n *impl.Node) { n.Seen = table })
			checkNodeOk(t, "a table", one, impl.TableOk(table, n))
		}
		for k := range n {
			for at := range impl.MaxNodes {
				for _, x := range edgesOf(impl.MaxInc) {
					checkNodeOk(t, "a Seen", with(base, func(n *impl.Node) { n.Seen[k][at] = x }), 0 <= x && x <= 1000)
				}
			}
			for size := range 8 {
				checkNodeOk(t, "a row", with(base, func(n *impl.Node) { n.Seen[k] = make([]int, size) }), size == 5)
			}
		}
	}
}

func TestNodeOkOfItsNumbers(t *testing.T) {
	for _, base := range []impl.Node{blankNode(2, 3), fullNode()} {
		for _, c := range []struct {
			why   string
			place func(n *impl.Node) *int
			least int
			most  int
		}{
			{"Num", func(n *impl.Node) *int { return &n.Num }, 0, impl.MaxSeq},
			{"Clock", func(n *impl.Node) *int { return &n.Clock }, 0, impl.MaxSeq},
			{"Slots", func(n *impl.Node) *int { return &n.Slots }, 1, impl.MaxSlots},
			{"Wait", func(n *impl.Node) *int { return &n.Wait }, 1, impl.MaxWait},
			{"Limit", func(n *impl.Node) *int { return &n.Limit }, 1, impl.MaxLimit},
		} {
			for _, x := range edgesOf(c.most) {
				one := with(base, func(n *impl.Node) {
					n.Sess, n.Rises = nil, make([]impl.Rise, 5)
					*c.place(n) = x
				})
				checkNodeOk(t, c.why, one, c.least <= x && x <= c.most)
			}
		}
	}
	if base := fullNode(); impl.NodeOk(with(base, func(n *impl.Node) { n.Clock = 39 })) || impl.NodeOk(with(base, func(n *impl.Node) { n.Wait = 4 })) {
		t.Error("a Tick above Clock, or an Age above Wait")
	}
}

// talking: the middle one of three nodes, with as many exchanges as Slots allow at most.
func talking(list ...impl.Sess) impl.Node {
	return with(blankNode(1, 3), func(n *impl.Node) { n.Slots, n.Wait, n.Num, n.Sess = impl.MaxSlots, 6, 5, list })
}

func TestNodeOkOfHowManySess(t *testing.T) {
	all := []impl.Sess{{Peer: 0}, {Peer: 0, In: true}, {Peer: 2}, {Peer: 2, In: true}, {Peer: 3}, {Peer: 4, In: true}}
	for slots := -1; slots <= impl.MaxSlots+2; slots++ {
		for size := range all {
			one := with(blankNode(1, 5), func(n *impl.Node) { n.Slots, n.Sess = slots, all[:size] })
			checkNodeOk(t, fmt.Sprint(size, " Sess"), one, 1 <= slots && slots <= 4 && size <= slots)
		}
	}
	for _, slots := range []int{math.MinInt, math.MaxInt} {
		checkNodeOk(t, "far off", with(talking(all[0]), func(n *impl.Node) { n.Slots = slots }), false)
	}
}

func TestNodeOkOfEachSess(t *testing.T) {
	ahead := []impl.Sess{{Peer: 2, In: true, Age: 6}, {Peer: 0, Num: 4}}
	for id := range 3 {
		for peer := -2; peer <= 6; peer++ {
			one := with(talking(impl.Sess{Peer: peer, In: true}), func(n *impl.Node) { n.Id = id })
			checkNodeOk(t, "a Peer", one, 0 <= peer && peer < 3 && peer != id)
		}
	}
	for _, peer := range []int{math.MinInt, -1, 1, 3, 4, 5, math.MaxInt} {
		checkNodeOk(t, "a Peer", talking(impl.Sess{Peer: peer}), false)
		checkNodeOk(t, "a Peer behind others", talking(append(ahead[:2:2], impl.Sess{Peer: peer})...), false)
		checkNodeOk(t, "a Peer ahead of others", talking(append([]impl.Sess{{Peer: peer}}, ahead...)...), false)
	}
	for _, x := range edgesOf(impl.MaxSeq) {
		checkNodeOk(t, "a Num", talking(impl.Sess{Peer: 0, Num: x}), 0 <= x && x <= impl.MaxSeq)
		checkNodeOk(t, "a Num behind others", talking(append(ahead[:2:2], impl.Sess{Peer: 2, Num: x})...), 0 <= x && x <= impl.MaxSeq)
	}
	for wait := 1; wait <= impl.MaxWait; wait++ {
		for _, x := range edgesOf(wait) {
			one := with(talking(impl.Sess{Peer: 0, Age: x}), func(n *impl.Node) { n.Wait = wait })
			checkNodeOk(t, "an Age", one, 0 <= x && x <= wait)
		}
	}
	for _, x := range edgesOf(6) {
		checkNodeOk(t, "an Age behind others", talking(append(ahead[:2:2], impl.Sess{Peer: 2, Age: x})...), 0 <= x && x <= 6)
		checkNodeOk(t, "an Age ahead of others", talking(append([]impl.Sess{{Peer: 2, Age: x}}, ahead...)...), 0 <= x && x <= 6)
	}
}

// Each two, three and four of all exchanges that one of three nodes can have, under other numbers.
func TestNodeOkOfSessOfOnePeer(t *testing.T) {
	right := 0
	for _, places := range listsUpTo(4, 0, 1, 2, 3) {
		var list []impl.Sess
		for i, place := range places {
			list = append(list, impl.Sess{Peer: place / 2 * 2, In: place%2 == 1, Num: i, Age: 6 - i})
		}
		once := len(places) == len(slices.Compact(slices.Sorted(slices.Values(places))))
		checkNodeOk(t, "Sess", talking(list...), once)
		if once {
			right++
		}
	}
	if right != 1+4+12+24+24 {
		t.Error("right ones: ", right)
	}
	checkNodeOk(t, "one Peer and In", talking(impl.Sess{Peer: 2, In: true}, impl.Sess{Peer: 2, In: true}), false)
	checkNodeOk(t, "one Peer and another In", talking(impl.Sess{Peer: 2, In: true}, impl.Sess{Peer: 2}), true)
}

func TestNodeOkOfRises(t *testing.T) {
	for _, clock := range []int{0, 1, 40, impl.MaxSeq} {
		base := with(blankNode(1, 2), func(n *impl.Node) { n.Clock = clock })
		for size := range 9 {
			checkNodeOk(t, fmt.Sprint(size, " Rises"), with(base, func(n *impl.Node) { n.Rises = make([]impl.Rise, size) }), size == 5)
		}
		checkNodeOk(t, "no Rises", with(base, func(n *impl.Node) { n.Rises = nil }), false)
		for id := range impl.MaxNodes {
			for _, x := range edgesOf(impl.MaxInc) {
				checkNodeOk(t, "an Inc", with(base, func(n *impl.Node) { n.Rises[id].Inc = x }), 0 <= x && x <= 1000)
			}
			for _, x := range edgesOf(impl.MaxBeat) {
				checkNodeOk(t, "a Beat", with(base, func(n *impl.Node) { n.Rises[id].Beat = x }), 0 <= x && x <= 100000)
			}
			for _, x := range edgesOf(clock) {
				checkNodeOk(t, "a Tick", with(base, func(n *impl.Node) { n.Rises[id].Tick = x }), 0 <= x && x <= clock)
			}
		}
	}
}

// wrongNodes: nodes that are not NodeOk, by why.
func wrongNodes() map[string]impl.Node {
	out := map[string]impl.Node{"zero": {}, "N 0": blankNode(0, 0), "N too great": blankNode(0, 6), "Id below 0": blankNode(-1, 3)}
	for why, turn := range map[string]func(n *impl.Node){
		"Id not below N":        func(n *impl.Node) { n.Id = 3 },
		"N less":                func(n *impl.Node) { n.N = 2 },
		"N far off":             func(n *impl.Node) { n.N = math.MaxInt },
		"State alone":           func(n *impl.Node) { n.State = itemsOf(itemOf(0, 2)) },
		"wrong State":           func(n *impl.Node) { n.State = itemsOf(itemOf(2, 2), itemOf(1, 9)) },
		"wrong State, its tree": func(n *impl.Node) { n.State, n.Tree = floorsOf(impl.Floor{Id: 9, Inc: 9}), impl.Tree{} },
		"no tree":               func(n *impl.Node) { n.Tree = impl.Tree{} },
		"Root":                  func(n *impl.Node) { n.Tree.Root++ },
		"a leaf more":           func(n *impl.Node) { n.Tree.Leaves = append(n.Tree.Leaves, 1) },
		"Cap 0":                 func(n *impl.Node) { n.Log.Cap = 0 },
		"From more":             func(n *impl.Node) { n.Log.From++ },
		"a wrong change":        func(n *impl.Node) { n.Log.List[1] = itemsOf(itemOf(0, 0)) },
		"Got too short":         func(n *impl.Node) { n.Got = n.Got[:2] },
		"Got at Id":             func(n *impl.Node) { n.Got[1] = 6 },
		"Got below 0":           func(n *impl.Node) { n.Got[0] = -1 },
		"Acked too long":        func(n *impl.Node) { n.Acked = append(n.Acked, 0) },
		"Acked above":           func(n *impl.Node) { n.Acked[2] = 8 },
		"no Seen":               func(n *impl.Node) { n.Seen = nil },
		"a row too short":       func(n *impl.Node) { n.Seen[1] = n.Seen[1][:4] },
		"a row too many":        func(n *impl.Node) { n.Seen = append(n.Seen, make([]int, 5)) },
		"a Seen too great":      func(n *impl.Node) { n.Seen[2][4] = 1001 },
		"Num":                   func(n *impl.Node) { n.Num = -1 },
		"Slots":                 func(n *impl.Node) { n.Slots = 2 },
		"Peer":                  func(n *impl.Node) { n.Sess[2].Peer = 1 },
		"Sess twice":            func(n *impl.Node) { n.Sess[1].In = false },
		"Age":                   func(n *impl.Node) { n.Sess[0].Age = 6 },
		"Wait":                  func(n *impl.Node) { n.Wait = 21 },
		"Limit":                 func(n *impl.Node) { n.Limit = 0 },
		"Clock":                 func(n *impl.Node) { n.Clock = 39 },
		"Clock too great":       func(n *impl.Node) { n.Clock = impl.MaxSeq + 1 },
		"no Rises":              func(n *impl.Node) { n.Rises = nil },
		"a Rise too few":        func(n *impl.Node) { n.Rises = n.Rises[:4] },
		"a Rise too many":       func(n *impl.Node) { n.Rises = append(n.Rises, impl.Rise{}) },
		"a Rise too great":      func(n *impl.Node) { n.Rises[4].Beat = impl.MaxBeat + 1 },
	} {
		out[why] = with(fullNode(), turn)
	}
	return out
}

func TestNodeOkOfWrongNodes(t *testing.T) {
	for why, n := range wrongNodes() {
		checkNodeOk(t, why, n, false)
	}
}

// newByHand: what NodeNew should tell.
func newByHand(id int, n int, room int, slots int, wait int, limit int) (impl.Node, bool) {
	if n < 1 || n > 5 || id < 0 || id >= n || room < 1 || room > 8 || slots < 1 || slots > 4 || wait < 1 || wait > 20 || limit < 1 || limit > 50 {
		return impl.Node{}, false
	}
	out := blankNode(id, n)
	out.Log.Cap, out.Slots, out.Wait, out.Limit = room, slots, wait, limit
	return out, true
}

func checkNew(t *testing.T, x [6]int) {
	t.Helper()
	got, ok := impl.NodeNew(x[0], x[1], x[2], x[3], x[4], x[5])
	want, wantOk := newByHand(x[0], x[1], x[2], x[3], x[4], x[5])
	if ok != wantOk || !sameNode(got, want) || impl.NodeOk(got) != ok {
		t.Fatalf("NodeNew(%v) = %v, %v, not %v, %v", x, got, ok, want, wantOk)
	}
}

func TestNodeNewAtTheEdges(t *testing.T) {
	for id := -1; id <= 6; id++ {
		for n := -1; n <= 6; n++ {
			for _, room := range []int{-1, 0, 1, 8, 9} {
				for _, slots := range []int{-1, 0, 1, 4, 5} {
					for _, wait := range []int{-1, 0, 1, 20, 21} {
						for _, limit := range []int{-1, 0, 1, 50, 51} {
							checkNew(t, [6]int{id, n, room, slots, wait, limit})
						}
					}
				}
			}
		}
	}
}

func TestNodeNewWithOneNumberFarOff(t *testing.T) {
	for at := range 6 {
		for x := -60; x <= 60; x++ {
			right := [6]int{1, 3, 4, 2, 3, 5}
			right[at] = x
			checkNew(t, right)
		}
		for _, x := range []int{math.MinInt, math.MinInt + 1, -1 << 32, 1 << 32, 1 << 40, math.MaxInt - 1, math.MaxInt} {
			right := [6]int{1, 3, 4, 2, 3, 5}
			right[at] = x
			checkNew(t, right)
		}
	}
}

// A number of nodes that is too great takes no memory.
func TestNodeNewOfFarTooManyNodes(t *testing.T) {
	if used := bytesUsed(func() { impl.NodeNew(0, 1<<24, 4, 2, 3, 5) }); used > 1<<20 {
		t.Error(used)
	}
}

func TestANewNodeKnowsNothing(t *testing.T) {
	n, ok := impl.NodeNew(2, 4, 8, 4, 20, 50)
	if !ok || !isZeroState(n.State) || len(impl.View(n.State)) != 0 || len(n.Log.List) != 0 || n.Log.From != 0 || len(n.Sess) != 0 || n.Num != 0 || n.Clock != 0 {
		t.Error(n, ok)
	}
	if !slices.Equal(n.Got, make([]int, 4)) || !slices.Equal(n.Acked, n.Got) || !slices.Equal(n.Rises, make([]impl.Rise, 5)) || !sameTable(n.Seen, impl.TableNew(4)) {
		t.Error(n)
	}
}

// takenByHand: what a right node should be behind Take of a right part, node by node.
func takenByHand(n impl.Node, part impl.State) impl.Node {
	out := cloneNode(n)
	both := joinBySlots(n.State, part)
	out.Seen = addedToTable(n.Seen, n.Id, marksBySlots(both))
	out.State = prunedBySlots(both, out.Seen)
	out.Tree = treeByHand(out.State)
	for id, x := range slotsOf(out.State) {
		r := n.Rises[id]
		if x.entry.Inc > r.Inc || x.entry.Inc == r.Inc && x.entry.Beat > r.Beat {
			out.Rises[id] = impl.Rise{Inc: x.entry.Inc, Beat: x.entry.Beat, Tick: n.Clock}
		}
	}
	return out
}

func mustTake(t *testing.T, n impl.Node, part impl.State) impl.Node {
	t.Helper()
	got, ok := impl.Take(n, part)
	if !ok {
		t.Fatalf("Take(%v, %v) is false", n, part)
	}
	return got
}

// knownByAll: the node, where all others are known to know of everyone that all up to that Inc is over.
func knownByAll(n impl.Node, inc int) impl.Node {
	return with(n, func(n *impl.Node) {
		for k := range n.Seen {
			if k != n.Id {
				n.Seen[k] = slices.Repeat([]int{inc}, 5)
			}
		}
	})
}

// takers: right nodes that know nothing and something, that others are known to know nothing, something and all, that saw some rise and not.
func takers() []impl.Node {
	out := []impl.Node{fullNode(), with(fullNode(), func(n *impl.Node) { n.Id, n.Got[0], n.Sess = 0, 7, nil })}
	for n := 1; n <= impl.MaxNodes; n++ {
		for _, inc := range []int{0, 1, 4, impl.MaxInc} {
			one := knownByAll(blankNode(n-1, n), inc)
			late := with(one, func(n *impl.Node) {
				n.Clock = impl.MaxSeq
				n.Rises = []impl.Rise{{Inc: 1, Beat: 1, Tick: 4}, {Inc: 2, Tick: 5}, {Inc: 1, Beat: 100000, Tick: 6}, {Inc: 1000, Beat: 5, Tick: 7}, {Beat: 8}}
			})
			out = append(out, one, late)
			for _, s := range append(ordinaryStates()[1:], mixedState()) {
				out = append(out, knowing(late, s))
			}
		}
	}
	return out
}

func TestTake(t *testing.T) {
	for _, n := range takers() {
		if !impl.NodeOk(n) {
			t.Fatalf("%v is not right", n)
		}
		for _, part := range markStates() {
			got, ok := impl.Take(n, part)
			if want := takenByHand(n, part); !ok || !sameNode(got, want) {
				t.Fatalf("Take(%v, %v) = %v, %v, not %v", n, part, got, ok, want)
			}
		}
	}
}

// turnable: what Take may turn, as text: what is known, the table, the rises.
func turnable(n impl.Node) string {
	return impl.StateText(n.State) + " " + fmt.Sprint(n.Seen, n.Rises)
}

func TestTakeInWords(t *testing.T) {
	ticked := with(blankNode(0, 2), func(n *impl.Node) { n.Clock = 9 })
	up := impl.Item{Id: 1, Entry: impl.Entry{Inc: 3, Beat: 4}}
	there := with(knowing(ticked, itemsOf(up)), func(n *impl.Node) { n.Rises[1], n.Seen[0][1] = impl.Rise{Inc: 3, Beat: 4, Tick: 7}, 2 })
	of := func(inc int, rank int, beat int) impl.State {
		return saidOf(1, impl.Entry{Inc: inc, Rank: rank, Beat: beat})
	}
	floor := func(inc int) impl.State { return floorsOf(impl.Floor{Id: 1, Inc: inc}) }
	for _, c := range []struct {
		why  string
		n    impl.Node
		part impl.State
		want string
	}{
		{"nothing into nothing", ticked, impl.State{}, " [[0 0 0 0 0] [0 0 0 0 0]] [{0 0 0} {0 0 0} {0 0 0} {0 0 0} {0 0 0}]"},
		{"empty lists", ticked, impl.State{Items: []impl.Item{}, Floors: []impl.Floor{}}, " [[0 0 0 0 0] [0 0 0 0 0]] [{0 0 0} {0 0 0} {0 0 0} {0 0 0} {0 0 0}]"},
		{"one who came", ticked, of(1, 0, 4), "1=1u4.0: [[0 0 0 0 0] [0 0 0 0 0]] [{0 0 0} {1 4 9} {0 0 0} {0 0 0} {0 0 0}]"},
		{"one who came and did not beat", ticked, of(1, 0, 0), "1=1u0.0: [[0 0 0 0 0] [0 0 0 0 0]] [{0 0 0} {1 0 9} {0 0 0} {0 0 0} {0 0 0}]"},
		{"one who came again", ticked, of(3, 0, 0), "1=3u0.0: [[0 2 0 0 0] [0 0 0 0 0]] [{0 0 0} {3 0 9} {0 0 0} {0 0 0} {0 0 0}]"},
		{"one who came at Clock 0", blankNode(0, 2), of(1, 0, 4), "1=1u4.0: [[0 0 0 0 0] [0 0 0 0 0]] [{0 0 0} {1 4 0} {0 0 0} {0 0 0} {0 0 0}]"},
		{"a node that is not below N", ticked, saidOf(4, impl.Entry{Inc: 2}), "4=2u0.0: [[0 0 0 0 1] [0 0 0 0 0]] [{0 0 0} {0 0 0} {0 0 0} {0 0 0} {2 0 9}]"},
		{"this node itself", ticked, saidOf(0, impl.Entry{Inc: 1, Beat: 6}), "0=1u6.0: [[0 0 0 0 0] [0 0 0 0 0]] [{1 6 9} {0 0 0} {0 0 0} {0 0 0} {0 0 0}]"},
		{"nothing into something", there, impl.State{}, "1=3u4.0: [[0 2 0 0 0] [0 0 0 0 0]] [{0 0 0} {3 4 7} {0 0 0} {0 0 0} {0 0 0}]"},
		{"what is known already", there, of(3, 0, 4), "1=3u4.0: [[0 2 0 0 0] [0 0 0 0 0]] [{0 0 0} {3 4 7} {0 0 0} {0 0 0} {0 0 0}]"},
		{"what is older, by Inc", there, of(2, 1, 9), "1=3u4.0: [[0 2 0 0 0] [0 0 0 0 0]] [{0 0 0} {3 4 7} {0 0 0} {0 0 0} {0 0 0}]"},
		{"what is older, by Beat", there, of(3, 0, 3), "1=3u4.0: [[0 2 0 0 0] [0 0 0 0 0]] [{0 0 0} {3 4 7} {0 0 0} {0 0 0} {0 0 0}]"},
		{"one Beat more", there, of(3, 0, 5), "1=3u5.0: [[0 2 0 0 0] [0 0 0 0 0]] [{0 0 0} {3 5 9} {0 0 0} {0 0 0} {0 0 0}]"},
		{"a Ver more", there, saidOf(1, impl.Entry{Inc: 3, Beat: 4, Ver: 1}), "1=3u4.1: [[0 2 0 0 0] [0 0 0 0 0]] [{0 0 0} {3 4 7} {0 0 0} {0 0 0} {0 0 0}]"},
		{"one Inc more, no Beat", there, of(4, 0, 0), "1=4u0.0: [[0 3 0 0 0] [0 0 0 0 0]] [{0 0 0} {4 0 9} {0 0 0} {0 0 0} {0 0 0}]"},
		{"gone, the same Beat", there, of(3, 1, 4), "1=3g4.0: [[0 3 0 0 0] [0 0 0 0 0]] [{0 0 0} {3 4 7} {0 0 0} {0 0 0} {0 0 0}]"},
		{"gone, a Beat less", there, of(3, 1, 3), "1=3g3.0: [[0 3 0 0 0] [0 0 0 0 0]] [{0 0 0} {3 4 7} {0 0 0} {0 0 0} {0 0 0}]"},
		{"gone, a Beat more", there, of(3, 1, 5), "1=3g5.0: [[0 3 0 0 0] [0 0 0 0 0]] [{0 0 0} {3 5 9} {0 0 0} {0 0 0} {0 0 0}]"},
		{"gone, an Inc more", there, of(5, 1, 1), "1=5g1.0: [[0 5 0 0 0] [0 0 0 0 0]] [{0 0 0} {5 1 9} {0 0 0} {0 0 0} {0 0 0}]"},
		{"a Floor beneath", there, floor(2), "1=3u4.0: -1<2 [[0 2 0 0 0] [0 0 0 0 0]] [{0 0 0} {3 4 7} {0 0 0} {0 0 0} {0 0 0}]"},
		{"a Floor by which it is over", there, floor(3), "-1<3 [[0 3 0 0 0] [0 0 0 0 0]] [{0 0 0} {3 4 7} {0 0 0} {0 0 0} {0 0 0}]"},
		{"a Floor far above", there, floor(1000), "-1<1000 [[0 1000 0 0 0] [0 0 0 0 0]] [{0 0 0} {3 4 7} {0 0 0} {0 0 0} {0 0 0}]"},
		{"a Floor of another one", there, floorsOf(impl.Floor{Id: 4, Inc: 6}), "1=3u4.0: -4<6 [[0 2 0 0 6] [0 0 0 0 0]] [{0 0 0} {3 4 7} {0 0 0} {0 0 0} {0 0 0}]"},
		{"an Entry above its Floor", there, impl.State{Items: itemsOf(itemOf(1, 6)).Items, Floors: floor(5).Floors}, "1=6u1.1:d1 -1<5 [[0 5 0 0 0] [0 0 0 0 0]] [{0 0 0} {6 1 9} {0 0 0} {0 0 0} {0 0 0}]"},
	} {
		got, ok := impl.Take(c.n, c.part)
		if turnable(got) != c.want || !ok || !sameNode(got, takenByHand(c.n, c.part)) {
			t.Errorf("%s: %s, %v, not %s", c.why, turnable(got), ok, c.want)
		}
	}
}

// Who is known by all to have gone is cleared away by what is taken, and does not rise by what went away.
func TestTakeAndPrune(t *testing.T) {
	two := with(blankNode(0, 2), func(n *impl.Node) { n.Clock, n.Seen[1][1] = 9, 4 })
	of := func(inc int, rank int) impl.State { return saidOf(1, impl.Entry{Inc: inc, Rank: rank, Beat: 8}) }
	there := with(knowing(two, of(4, impl.RkGone)), func(n *impl.Node) { n.Rises[1], n.Seen[0][1] = impl.Rise{Inc: 4, Beat: 2, Tick: 3}, 4 })
	for _, c := range []struct {
		why  string
		n    impl.Node
		part impl.State
		want string
	}{
		{"a mark that all know", two, of(4, 1), "-1<4 [[0 4 0 0 0] [0 4 0 0 0]] [{0 0 0} {0 0 0} {0 0 0} {0 0 0} {0 0 0}]"},
		{"a mark that all know and more", two, of(3, 1), "-1<3 [[0 3 0 0 0] [0 4 0 0 0]] [{0 0 0} {0 0 0} {0 0 0} {0 0 0} {0 0 0}]"},
		{"a mark that not all know", two, of(5, 1), "1=5g8.0: -1<4 [[0 5 0 0 0] [0 4 0 0 0]] [{0 0 0} {5 8 9} {0 0 0} {0 0 0} {0 0 0}]"},
		{"up above what all know", two, of(5, 0), "1=5u8.0: -1<4 [[0 4 0 0 0] [0 4 0 0 0]] [{0 0 0} {5 8 9} {0 0 0} {0 0 0} {0 0 0}]"},
		{"up, and others know more", two, of(3, 0), "1=3u8.0: -1<2 [[0 2 0 0 0] [0 4 0 0 0]] [{0 0 0} {3 8 9} {0 0 0} {0 0 0} {0 0 0}]"},
		{"a mark that was known to all ahead, by nothing", there, impl.State{}, "-1<4 [[0 4 0 0 0] [0 4 0 0 0]] [{0 0 0} {4 2 3} {0 0 0} {0 0 0} {0 0 0}]"},
		{"the same mark again", there, of(4, 1), "-1<4 [[0 4 0 0 0] [0 4 0 0 0]] [{0 0 0} {4 2 3} {0 0 0} {0 0 0} {0 0 0}]"},
		{"one who came anew", there, of(5, 0), "1=5u8.0: -1<4 [[0 4 0 0 0] [0 4 0 0 0]] [{0 0 0} {5 8 9} {0 0 0} {0 0 0} {0 0 0}]"},
		{"a mark of the only node", with(blankNode(0, 1), func(n *impl.Node) { n.Clock = 9 }), of(7, 1), "-1<7 [[0 7 0 0 0]] [{0 0 0} {0 0 0} {0 0 0} {0 0 0} {0 0 0}]"},
		{"a mark that one of the others does not know", with(blankNode(1, 3), func(n *impl.Node) { n.Seen[0][1] = 7 }), of(7, 1), "1=7g8.0: [[0 7 0 0 0] [0 7 0 0 0] [0 0 0 0 0]] [{0 0 0} {7 8 0} {0 0 0} {0 0 0} {0 0 0}]"},
	} {
		got, ok := impl.Take(c.n, c.part)
		if turnable(got) != c.want || !ok || !sameNode(got, takenByHand(c.n, c.part)) {
			t.Errorf("%s: %s, %v, not %s", c.why, turnable(got), ok, c.want)
		}
	}
}

// Each Rise about each Entry, with a Clock that is none of their Ticks.
func TestEachRise(t *testing.T) {
	for id := range impl.MaxNodes {
		for had := range 36 {
			rise := impl.Rise{Inc: had / 6, Beat: had % 6, Tick: 3}
			n := with(blankNode(0, 2), func(n *impl.Node) { n.Clock, n.Rises[id] = 12, rise })
			for now := range 30 {
				e := impl.Entry{Inc: now/6 + 1, Beat: now % 6, Rank: had % 2}
				want := slices.Clone(n.Rises)
				if e.Inc*6+e.Beat > had {
					want[id] = impl.Rise{Inc: e.Inc, Beat: e.Beat, Tick: 12}
				}
				if got := mustTake(t, n, saidOf(id, e)); !slices.Equal(got.Rises, want) {
					t.Fatalf("%v behind %v: %v", e, rise, got.Rises)
				}
			}
		}
	}
}

func TestStateSeenTreeAndRisesAloneTurn(t *testing.T) {
	for _, n := range takers() {
		for _, part := range append(ordinaryStates(), mixedState()) {
			got := mustTake(t, n, part)
			rest := with(got, func(x *impl.Node) { x.State, x.Tree, x.Seen, x.Rises = n.State, n.Tree, n.Seen, n.Rises })
			if !sameNode(rest, n) {
				t.Fatalf("%v became %v", n, got)
			}
			if !sameTree(got.Tree, treeByHand(got.State)) || !nodeOkByHand(got) || !impl.NodeOk(got) {
				t.Fatalf("Take(%v, %v) = %v is not right", n, part, got)
			}
			for k, row := range got.Seen {
				if k != n.Id && !slices.Equal(row, n.Seen[k]) {
					t.Fatalf("row %d of %v became %v", k, n.Seen, got.Seen)
				}
			}
		}
	}
}

func checkNotTaken(t *testing.T, why string, n impl.Node, part impl.State) {
	t.Helper()
	if got, ok := impl.Take(n, part); ok || !sameNode(got, n) {
		t.Errorf("%s: Take(%v, %v) = %v, %v", why, n, part, got, ok)
	}
}

func TestTakeOfWhatIsWrong(t *testing.T) {
	for why, part := range moreWrongStates() {
		for _, n := range takers() {
			checkNotTaken(t, why, n, part)
		}
		for whyToo, n := range wrongNodes() {
			checkNotTaken(t, whyToo+", "+why, n, part)
		}
	}
	for why, n := range wrongNodes() {
		for _, part := range append(ordinaryStates(), mixedState()) {
			checkNotTaken(t, why, n, part)
		}
	}
}

// checkKnown: all of these parts are known to the node, which sees of nobody what is over by one of them.
func checkKnown(t *testing.T, n impl.Node, parts []impl.State) {
	t.Helper()
	for _, part := range parts {
		if !impl.StateLeq(part, n.State) {
			t.Fatalf("%v was taken, but %v is known", part, n.State)
		}
		for _, x := range impl.View(n.State) {
			if x.Entry.Inc <= impl.GoneAt(part, x.Id) {
				t.Fatalf("%v was taken, but %v is seen", part, x)
			}
		}
	}
}

// takeInEachOrder takes of what is left each one first, and tells what each order comes to.
func takeInEachOrder(t *testing.T, n impl.Node, done []impl.State, left []impl.State, told func(n impl.Node)) {
	t.Helper()
	checkKnown(t, n, done)
	if len(left) == 0 {
		told(n)
		return
	}
	for i, part := range left {
		next := mustTake(t, n, part)
		takeInEachOrder(t, next, append(slices.Clip(done), part), slices.Delete(slices.Clone(left), i, i+1), told)
	}
}

func TestWhatIsTakenIsKnownFromThenOnInWhateverOrder(t *testing.T) {
	parts := append(ordinaryStates()[1:], mixedState())
	for at, n := range takers() {
		// Each seventh of them, as each takes four parts in 24 orders.
		if at%7 > 0 {
			continue
		}
		for i := range parts {
			four := []impl.State{parts[i], parts[(i+1)%7], parts[(i+3)%7], parts[(i+1)%7]}
			all := joinBySlots(n.State, joinedByHand(four))
			var first *impl.Node
			takeInEachOrder(t, n, nil, four, func(got impl.Node) {
				if first == nil {
					first = &got
				}
				if !sameState(got.State, first.State) || !sameTree(got.Tree, first.Tree) || !sameTable(got.Seen, first.Seen) {
					t.Fatalf("%v in two orders: %v and %v", four, got, *first)
				}
				if want := takenByHand(n, all); !sameState(got.State, want.State) || !sameTable(got.Seen, want.Seen) {
					t.Fatalf("%v one by one: %v, not %v", four, got, want)
				}
			})
		}
	}
}

func TestTwoPartsInBothOrders(t *testing.T) {
	for _, n := range []impl.Node{blankNode(0, 1), knownByAll(blankNode(1, 3), 1), knownByAll(blankNode(0, 2), impl.MaxInc)} {
		for _, a := range smallStates() {
			takenA := mustTake(t, n, a)
			for _, b := range smallStates()[:60] {
				one, other := mustTake(t, takenA, b), mustTake(t, mustTake(t, n, b), a)
				if !sameState(one.State, other.State) || !sameTable(one.Seen, other.Seen) || !sameTree(one.Tree, other.Tree) {
					t.Fatalf("%v and %v into %v: %v and %v", a, b, n, one, other)
				}
				checkKnown(t, one, []impl.State{n.State, a, b})
			}
		}
	}
}

func TestOnePartTwice(t *testing.T) {
	for _, n := range takers() {
		for _, part := range rightStates() {
			once := mustTake(t, n, part)
			later := with(once, func(n *impl.Node) { n.Clock = impl.MaxSeq })
			for _, again := range []impl.State{part, {}, once.State, n.State} {
				if twice := mustTake(t, later, again); !sameNode(twice, later) {
					t.Fatalf("%v into %v, and again %v: %v, not %v", part, n, again, twice, later)
				}
			}
		}
	}
}

// turnedNodes: the full node, and those that differ from it in one thing alone.
func turnedNodes() map[string]impl.Node {
	out := map[string]impl.Node{}
	for why, turn := range map[string]func(n *impl.Node){
		"nothing":          func(n *impl.Node) {},
		"Id":               func(n *impl.Node) { n.Id = 0 },
		"Id, far":          func(n *impl.Node) { n.Id = math.MinInt },
		"N":                func(n *impl.Node) { n.N = 4 },
		"Id and N":         func(n *impl.Node) { n.Id, n.N = n.N, n.Id },
		"an Item":          func(n *impl.Node) { n.State.Items[2].Entry.Beat++ },
		"an Item less":     func(n *impl.Node) { n.State.Items = n.State.Items[:2] },
		"no Items":         func(n *impl.Node) { n.State.Items = nil },
		"a Floor":          func(n *impl.Node) { n.State.Floors[2].Inc++ },
		"no Floors":        func(n *impl.Node) { n.State.Floors = nil },
		"no State":         func(n *impl.Node) { n.State = impl.State{} },
		"a leaf":           func(n *impl.Node) { n.Tree.Leaves[3]++ },
		"a leaf less":      func(n *impl.Node) { n.Tree.Leaves = n.Tree.Leaves[:3] },
		"no leaves":        func(n *impl.Node) { n.Tree.Leaves = nil },
		"Root":             func(n *impl.Node) { n.Tree.Root++ },
		"Cap":              func(n *impl.Node) { n.Log.Cap = 5 },
		"From":             func(n *impl.Node) { n.Log.From = 6 },
		"From and Cap":     func(n *impl.Node) { n.Log.Cap, n.Log.From = n.Log.From, n.Log.Cap },
		"a change":         func(n *impl.Node) { n.Log.List[1].Items[0].Entry.Data = "h" },
		"a change, Floors": func(n *impl.Node) { n.Log.List[0].Floors = []impl.Floor{{Id: 1, Inc: 2}} },
		"a change less":    func(n *impl.Node) { n.Log.List = n.Log.List[:1] },
		"an empty change":  func(n *impl.Node) { n.Log.List = append(n.Log.List, impl.State{}) },
		"changes turned":   func(n *impl.Node) { slices.Reverse(n.Log.List) },
		"no changes":       func(n *impl.Node) { n.Log.List = nil },
		"Got":              func(n *impl.Node) { n.Got[2] = 1 },
		"a Got more":       func(n *impl.Node) { n.Got = append(n.Got, 0) },
		"no Got":           func(n *impl.Node) { n.Got = nil },
		"Acked":            func(n *impl.Node) { n.Acked[2] = 1 },
		"an Acked less":    func(n *impl.Node) { n.Acked = n.Acked[:2] },
		"no Acked":         func(n *impl.Node) { n.Acked = nil },
		"Got and Acked":    func(n *impl.Node) { n.Got, n.Acked = n.Acked, n.Got },
		"a Seen":           func(n *impl.Node) { n.Seen[2][4] = 1 },
		"a Seen more":      func(n *impl.Node) { n.Seen[0] = append(n.Seen[0], 0) },
		"a row less":       func(n *impl.Node) { n.Seen = n.Seen[:2] },
		"an empty row":     func(n *impl.Node) { n.Seen = append(n.Seen, nil) },
		"rows turned":      func(n *impl.Node) { slices.Reverse(n.Seen) },
		"no Seen":          func(n *impl.Node) { n.Seen = nil },
		"Num":              func(n *impl.Node) { n.Num++ },
		"Slots":            func(n *impl.Node) { n.Slots++ },
		"Peer":             func(n *impl.Node) { n.Sess[1].Peer = 2 },
		"Num of a Sess":    func(n *impl.Node) { n.Sess[1].Num++ },
		"In":               func(n *impl.Node) { n.Sess[2].In = true },
		"Age":              func(n *impl.Node) { n.Sess[2].Age-- },
		"a Sess less":      func(n *impl.Node) { n.Sess = n.Sess[:2] },
		"Sess turned":      func(n *impl.Node) { slices.Reverse(n.Sess) },
		"no Sess":          func(n *impl.Node) { n.Sess = nil },
		"Wait":             func(n *impl.Node) { n.Wait++ },
		"Limit":            func(n *impl.Node) { n.Limit++ },
		"Wait and Limit":   func(n *impl.Node) { n.Wait, n.Limit = n.Limit, n.Wait },
		"Clock":            func(n *impl.Node) { n.Clock++ },
		"Clock, far":       func(n *impl.Node) { n.Clock = math.MaxInt },
		"Inc of a Rise":    func(n *impl.Node) { n.Rises[3].Inc++ },
		"Beat of a Rise":   func(n *impl.Node) { n.Rises[4].Beat++ },
		"Tick of a Rise":   func(n *impl.Node) { n.Rises[0].Tick-- },
		"a Rise less":      func(n *impl.Node) { n.Rises = n.Rises[:4] },
		"a Rise more":      func(n *impl.Node) { n.Rises = append(n.Rises, impl.Rise{}) },
		"no Rises":         func(n *impl.Node) { n.Rises = nil },
		"all":              func(n *impl.Node) { *n = impl.Node{} },
	} {
		out[why] = with(fullNode(), turn)
	}
	return out
}

func TestNodeSame(t *testing.T) {
	for why, a := range turnedNodes() {
		for whyToo, b := range turnedNodes() {
			if got := impl.NodeSame(a, b); got != (why == whyToo) || got != sameNode(a, b) {
				t.Errorf("%s, %s: NodeSame(%v, %v) = %v", why, whyToo, a, b, got)
			}
		}
	}
	all := slices.Concat(takers(), slices.Collect(maps.Values(wrongNodes())))
	for i, a := range all {
		for _, b := range append(all[:i:i], cloneNode(a)) {
			if got := impl.NodeSame(a, b); got != sameNode(a, b) || got != impl.NodeSame(b, a) {
				t.Fatalf("NodeSame(%v, %v) = %v", a, b, got)
			}
		}
	}
}

func TestEmptyListsOfNodesAndNilAreTheSame(t *testing.T) {
	none := impl.Node{Id: 3, Log: impl.Log{List: make([]impl.State, 1)}, Seen: make([][]int, 1)}
	for why, turn := range map[string]func(n *impl.Node){
		"Items":          func(n *impl.Node) { n.State.Items = []impl.Item{} },
		"Floors":         func(n *impl.Node) { n.State.Floors = []impl.Floor{} },
		"leaves":         func(n *impl.Node) { n.Tree.Leaves = []int{} },
		"Items of one":   func(n *impl.Node) { n.Log.List[0].Items = []impl.Item{} },
		"Floors of one":  func(n *impl.Node) { n.Log.List[0].Floors = []impl.Floor{} },
		"Got":            func(n *impl.Node) { n.Got = []int{} },
		"Acked":          func(n *impl.Node) { n.Acked = []int{} },
		"a row":          func(n *impl.Node) { n.Seen[0] = []int{} },
		"Sess":           func(n *impl.Node) { n.Sess = []impl.Sess{} },
		"Rises":          func(n *impl.Node) { n.Rises = []impl.Rise{} },
		"what has spare": func(n *impl.Node) { n.Got, n.Sess = make([]int, 0, 4), make([]impl.Sess, 0, 4) },
	} {
		if n := with(none, turn); !impl.NodeSame(n, none) || !impl.NodeSame(none, n) {
			t.Errorf("empty %s are not as nil", why)
		}
	}
	bare, full := impl.Node{}, impl.Node{Log: impl.Log{List: []impl.State{}}, Seen: [][]int{}}
	if !impl.NodeSame(bare, full) || !impl.NodeSame(full, bare) {
		t.Error("an empty List and Seen are not as nil")
	}
}

// roomed: a list with this as spare room behind it, and that room.
func roomed[T any](list []T, spare T) ([]T, []T) {
	room := append(slices.Clone(list), spare, spare)
	return room[:len(list)], room
}

// roomyNode: a node with spare room behind each list, and behind each list of a list.
type roomyNode struct {
	node impl.Node
	room impl.Node // the lists that hold no lists, with their spare room
	was  impl.Node // room, in other memory
	log  roomyLog
	seen roomyTable
}

func newRoomyNode(n impl.Node) roomyNode {
	out := roomyNode{node: n, log: newRoomyLog(n.Log), seen: newRoomyTable(n.Seen)}
	out.node.State, out.room.State = roomy(n.State)
	out.node.Tree.Leaves, out.room.Tree.Leaves = roomyInts(n.Tree.Leaves)
	out.node.Got, out.room.Got = roomyInts(n.Got)
	out.node.Acked, out.room.Acked = roomyInts(n.Acked)
	out.node.Sess, out.room.Sess = roomed(n.Sess, impl.Sess{Peer: 91, Num: 91, Age: 91})
	out.node.Rises, out.room.Rises = roomed(n.Rises, impl.Rise{Inc: 91, Beat: 91, Tick: 91})
	out.node.Log, out.node.Seen = out.log.log, out.seen.table
	out.was = cloneNode(out.room)
	return out
}

func (r roomyNode) untouched() bool {
	return sameNode(r.room, r.was) && r.log.untouched() && r.seen.untouched()
}

// scribbleFlat turns the lists of a node that hold no lists, and the spare room behind them.
func scribbleFlat(n impl.Node) {
	scribble(n.State)
	scribbleInts(n.Tree.Leaves)
	scribbleInts(n.Got)
	scribbleInts(n.Acked)
	for i := range n.Sess[:cap(n.Sess)] {
		n.Sess[:cap(n.Sess)][i] = impl.Sess{Peer: 77}
	}
	for i := range n.Rises[:cap(n.Rises)] {
		n.Rises[:cap(n.Rises)][i] = impl.Rise{Inc: 77}
	}
}

func (r roomyNode) scribble() {
	scribbleFlat(r.room)
	r.log.scribble()
	r.seen.scribble()
}

func scribbleNode(n impl.Node) {
	scribbleFlat(n)
	scribbleTable(n.Seen)
	for _, s := range n.Log.List {
		scribble(s)
	}
	for i := range n.Log.List[:cap(n.Log.List)] {
		n.Log.List[:cap(n.Log.List)][i] = wrongStates()["Floor twice"]
	}
}

// memoryNodes: right ones and wrong ones.
func memoryNodes() []impl.Node {
	out := []impl.Node{fullNode(), blankNode(0, 1), knowing(knownByAll(blankNode(4, 5), impl.MaxInc), mixedState())}
	for _, n := range wrongNodes() {
		out = append(out, n)
	}
	for _, n := range turnedNodes() {
		out = append(out, n)
	}
	return out
}

func memoryParts() []impl.State {
	return []impl.State{{}, mixedState(), itemsOf(goneOf(0, 7), goneOf(3, 1000)), floorsOf(impl.Floor{Id: 1, Inc: 4}), wrongStates()["Items not ascending"]}
}

func TestNothingIsWrittenIntoNodes(t *testing.T) {
	for _, n := range memoryNodes() {
		for _, part := range memoryParts() {
			r, other := newRoomyNode(n), newRoomyNode(fullNode())
			added, room := roomy(part)
			was := cloneState(room)
			if impl.NodeOk(r.node) != nodeOkByHand(n) || impl.NodeSame(r.node, other.node) != sameNode(n, fullNode()) {
				t.Fatalf("%v: another answer with room behind it", n)
			}
			want, wantOk := n, false
			if nodeOkByHand(n) && impl.StateOk(part) {
				want, wantOk = takenByHand(n, part), true
			}
			if got, ok := impl.Take(r.node, added); ok != wantOk || !sameNode(got, want) {
				t.Fatalf("Take(%v, %v) = %v, %v with room behind them", n, part, got, ok)
			}
			impl.Take(r.node, r.node.State)
			if !r.untouched() || !other.untouched() || !sameState(room, was) {
				t.Fatalf("%v or %v was written into", n, part)
			}
		}
	}
}

// What an answer holds turns with nothing that is written into the arguments later on, nor into another answer.
func TestNodesAreNewMemory(t *testing.T) {
	for _, n := range memoryNodes() {
		for _, part := range memoryParts() {
			r := newRoomyNode(n)
			added, room := roomy(part)
			was := cloneState(room)
			got, _ := impl.Take(r.node, added)
			again, _ := impl.Take(r.node, added)
			want := cloneNode(got)
			scribbleNode(got)
			if !r.untouched() || !sameState(room, was) || !sameNode(again, want) {
				t.Fatalf("%v, %v or another answer turned with the answer", n, part)
			}
			r.scribble()
			scribble(room)
			if !sameNode(again, want) {
				t.Fatalf("the answer turned with %v, %v", n, part)
			}
		}
	}
	one, _ := impl.NodeNew(1, 4, 4, 2, 3, 5)
	other, _ := impl.NodeNew(1, 4, 4, 2, 3, 5)
	scribbleNode(one)
	if !sameNode(other, blankNode(1, 4)) {
		t.Error("a new node turned with another one")
	}
}

func listsOfNode(n impl.Node) []span {
	return slices.Concat(listsOf(n.State), listsOfLog(n.Log), spansOfTable(n.Seen),
		[]span{spanOf(n.Tree.Leaves), spanOf(n.Got), spanOf(n.Acked), spanOf(n.Sess), spanOf(n.Rises)})
}

func textsOfNode(n impl.Node) []span { return append(textsOf(n.State), textsOfLog(n.Log)...) }

func checkNodeApart(t *testing.T, why string, answer impl.Node, given impl.Node, part impl.State) {
	t.Helper()
	theirs := slices.Concat(listsOfNode(given), textsOfNode(given), listsOf(part), textsOf(part))
	checkSpansApart(t, why, listsOfNode(answer), textsOfNode(answer), theirs)
}

// tangledNode: a right node whose lists are pieces of few, and whose changes have the lists of its state.
func tangledNode() impl.Node {
	text := strings.Repeat("t", impl.MaxData)
	s := impl.State{
		Items:  []impl.Item{{Id: 0, Entry: impl.Entry{Inc: 3, Data: text}}, {Id: 2, Entry: impl.Entry{Inc: 3, Data: text}}},
		Floors: []impl.Floor{{Id: 0, Inc: 2}, {Id: 4, Inc: 2}},
	}
	numbers := append(treeByHand(s).Leaves, 3, 3, 3, 3, 3, 3, 3, 3)
	n := knowing(blankNode(1, 3), s)
	n.State, n.Tree.Leaves = s, numbers[:4]
	n.Log.List = []impl.State{s, s, {Items: s.Items[1:], Floors: s.Floors[1:]}}
	n.Got, n.Acked = numbers[4:7], numbers[4:7]
	n.Seen = [][]int{numbers[4:9], numbers[4:9], numbers[5:10]}
	return n
}

func TestNoTwoListsOfANodeShareMemory(t *testing.T) {
	tangled := tangledNode()
	if !impl.NodeOk(tangled) {
		t.Fatal(tangled)
	}
	wrong := tangled
	wrong.Limit = 0
	for why, n := range map[string]impl.Node{"tangled": tangled, "tangled and wrong": wrong, "full": fullNode(), "blank": blankNode(0, 5)} {
		was := cloneNode(n)
		parts := append(memoryParts(), n.State, impl.State{Items: tangled.State.Items[:1]}, impl.State{Floors: tangled.State.Floors})
		for i, part := range parts {
			got, ok := impl.Take(n, part)
			checkNodeApart(t, fmt.Sprint(why, ", Take of ", i), got, n, part)
			if ok && !sameNode(got, takenByHand(was, part)) || !ok && !sameNode(got, was) {
				t.Errorf("%s, Take of %d: %v", why, i, got)
			}
		}
		if !sameNode(n, was) {
			t.Errorf("%s: %v became %v", why, was, n)
		}
	}
	for n := 1; n <= impl.MaxNodes; n++ {
		one, _ := impl.NodeNew(n-1, n, 4, 2, 3, 5)
		other, _ := impl.NodeNew(n-1, n, 4, 2, 3, 5)
		checkNodeApart(t, fmt.Sprint("NodeNew of ", n), one, other, impl.State{})
	}
}

func TestTextsOfNodesAreNewMemory(t *testing.T) {
	data := strings.Repeat("a", impl.MaxData)
	s := saidOf(1, impl.Entry{Inc: 2, Data: data})
	n := with(knowing(blankNode(0, 2), s), func(n *impl.Node) { n.Log.List, n.Got[0] = []impl.State{s}, 1 })
	for why, x := range map[string]impl.Node{"right": n, "wrong": with(n, func(n *impl.Node) { n.Wait = 0 })} {
		for _, part := range []impl.State{{}, s, saidOf(1, impl.Entry{Inc: 3, Data: data})} {
			got, _ := impl.Take(x, part)
			for _, item := range append(slices.Clone(got.State.Items), got.Log.List[0].Items...) {
				if unsafe.StringData(item.Entry.Data) == unsafe.StringData(data) {
					t.Errorf("%s: Take shares a text", why)
				}
			}
		}
	}
}
