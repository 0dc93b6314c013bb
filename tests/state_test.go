package tests

import (
	"fmt"
	"math"
	"slices"
	"strings"
	"testing"
	"unsafe"

	"loop.example/g00487/impl"
)

// entryAt: a right Entry of that Inc whose other fields say from where it comes.
func entryAt(inc int, beat int) impl.Entry {
	return impl.Entry{Inc: inc, Beat: beat, Ver: beat % 7, Data: fmt.Sprint("d", beat)}
}

func itemOf(id int, inc int) impl.Item { return impl.Item{Id: id, Entry: entryAt(inc, 1)} }

func itemsOf(items ...impl.Item) impl.State { return impl.State{Items: items} }

func floorsOf(floors ...impl.Floor) impl.State { return impl.State{Floors: floors} }

func mustJoin(t *testing.T, a impl.State, b impl.State) impl.State {
	t.Helper()
	got, ok := impl.StateJoin(a, b)
	if !ok {
		t.Fatalf("StateJoin(%v, %v) is false", a, b)
	}
	if !impl.StateOk(got) {
		t.Fatalf("StateJoin(%v, %v) = %v is not StateOk", a, b, got)
	}
	return got
}

// sameState holds the lists against each other without the program.
func sameState(a impl.State, b impl.State) bool {
	return slices.Equal(a.Items, b.Items) && slices.Equal(a.Floors, b.Floors)
}

func isZeroState(s impl.State) bool { return len(s.Items) == 0 && len(s.Floors) == 0 }

// slot: what a state has of one node; Inc 0 says that there is no Entry, 0 that there is no Floor.
type slot struct {
	entry impl.Entry
	floor int
}

func slotsOf(s impl.State) [impl.MaxNodes]slot {
	var out [impl.MaxNodes]slot
	for _, x := range s.Items {
		out[x.Id].entry = x.Entry
	}
	for _, f := range s.Floors {
		out[f.Id].floor = f.Inc
	}
	return out
}

func stateOf(slots [impl.MaxNodes]slot) impl.State {
	var out impl.State
	for id, x := range slots {
		if x.entry.Inc > 0 {
			out.Items = append(out.Items, impl.Item{Id: id, Entry: x.entry})
		}
		if x.floor > 0 {
			out.Floors = append(out.Floors, impl.Floor{Id: id, Inc: x.floor})
		}
	}
	return out
}

// joinBySlots: two right states joined node by node, as the document words it, without a map.
func joinBySlots(a impl.State, b impl.State) impl.State {
	x, y := slotsOf(a), slotsOf(b)
	for id := range x {
		if byFields(x[id].entry, y[id].entry) < 0 {
			x[id].entry = y[id].entry
		}
		if x[id].floor < y[id].floor {
			x[id].floor = y[id].floor
		}
		if x[id].entry.Inc <= x[id].floor {
			x[id].entry = impl.Entry{}
		}
	}
	return stateOf(x)
}

// smallSlots: all that can be known of one node with Incs up to 2. What is joined of any two is among them.
func smallSlots() []slot {
	out := []slot{{floor: 0}, {floor: 1}, {floor: 2}}
	for _, e := range []impl.Entry{
		{Inc: 1}, {Inc: 1, Beat: 1}, {Inc: 1, Rank: impl.RkGone}, {Inc: 2}, {Inc: 2, Ver: 1, Data: "x"}, {Inc: 2, Rank: impl.RkGone},
	} {
		for floor := 0; floor < e.Inc; floor++ {
			out = append(out, slot{e, floor})
		}
	}
	return out
}

// smallStates: all states whose first and last nodes are smallSlots.
func smallStates() []impl.State {
	var out []impl.State
	for _, first := range smallSlots() {
		for _, last := range smallSlots() {
			out = append(out, stateOf([impl.MaxNodes]slot{0: first, impl.MaxNodes - 1: last}))
		}
	}
	return out
}

// ordinaryStates: some of all nodes, each with things that the others lack or have over.
func ordinaryStates() []impl.State {
	return []impl.State{
		{},
		itemsOf(itemOf(0, 1), itemOf(2, 3), itemOf(4, 2)),
		itemsOf(itemOf(1, 1), impl.Item{Id: 2, Entry: impl.Entry{Inc: 3, Rank: impl.RkGone}}),
		{Items: []impl.Item{itemOf(0, 2), itemOf(3, 1000)}, Floors: []impl.Floor{{Id: 0, Inc: 1}, {Id: 2, Inc: 3}}},
		{Items: []impl.Item{itemOf(2, 4)}, Floors: []impl.Floor{{Id: 1, Inc: 1}, {Id: 2, Inc: 2}, {Id: 4, Inc: 1000}}},
		itemsOf(itemOf(0, 5), itemOf(1, 5), itemOf(2, 5), itemOf(3, 5), itemOf(4, 5)),
		floorsOf(impl.Floor{Id: 0, Inc: 4}, impl.Floor{Id: 1, Inc: 5}, impl.Floor{Id: 3, Inc: 6}),
	}
}

// wrongStates: states that are not StateOk, by why.
func wrongStates() map[string]impl.State {
	return map[string]impl.State{
		"Item below 0":                 itemsOf(itemOf(-1, 1)),
		"Item far below 0":             itemsOf(itemOf(math.MinInt, 1)),
		"Item of no node":              itemsOf(itemOf(impl.MaxNodes, 1)),
		"Item far above":               itemsOf(itemOf(0, 1), itemOf(math.MaxInt, 1)),
		"Item twice":                   itemsOf(itemOf(1, 1), itemOf(1, 1)),
		"Item twice, one newer":        itemsOf(itemOf(1, 1), itemOf(1, 2)),
		"Item twice, not side by side": itemsOf(itemOf(1, 1), itemOf(2, 1), itemOf(1, 1)),
		"Items not ascending":          itemsOf(itemOf(0, 1), itemOf(3, 1), itemOf(2, 1)),
		"Items descending":             itemsOf(itemOf(4, 1), itemOf(3, 1)),
		"Entry with Inc 0":             itemsOf(itemOf(1, 0)),
		"Entry with Inc too great":     itemsOf(itemOf(1, impl.MaxInc+1)),
		"Entry with another Rank":      itemsOf(impl.Item{Id: 0, Entry: impl.Entry{Inc: 1, Rank: 2}}),
		"Entry with Beat below 0":      itemsOf(impl.Item{Id: 0, Entry: impl.Entry{Inc: 1, Beat: -1}}),
		"Entry with Ver too great":     itemsOf(impl.Item{Id: 0, Entry: impl.Entry{Inc: 1, Ver: impl.MaxVer + 1}}),
		"Entry with Data too long":     itemsOf(itemOf(0, 1), impl.Item{Id: 1, Entry: impl.Entry{Inc: 1, Data: "123456789"}}),
		"Floor below 0":                floorsOf(impl.Floor{Id: -1, Inc: 1}),
		"Floor far below 0":            floorsOf(impl.Floor{Id: math.MinInt, Inc: 1}),
		"Floor of no node":             floorsOf(impl.Floor{Id: impl.MaxNodes, Inc: 1}),
		"Floor far above":              floorsOf(impl.Floor{Id: math.MaxInt, Inc: 1}),
		"Floor twice":                  floorsOf(impl.Floor{Id: 2, Inc: 1}, impl.Floor{Id: 2, Inc: 1}),
		"Floor twice, not side by side": floorsOf(
			impl.Floor{Id: 2, Inc: 1}, impl.Floor{Id: 3, Inc: 1}, impl.Floor{Id: 2, Inc: 1}),
		"Floors not ascending": floorsOf(impl.Floor{Id: 1, Inc: 1}, impl.Floor{Id: 0, Inc: 1}),
		"Floor of Inc 0":       floorsOf(impl.Floor{Id: 0, Inc: 0}),
		"Floor of Inc below 0": floorsOf(impl.Floor{Id: 0, Inc: -1}),
		"Floor too great":      floorsOf(impl.Floor{Id: 0, Inc: impl.MaxInc + 1}),
		"Floor far too great":  floorsOf(impl.Floor{Id: 0, Inc: 1}, impl.Floor{Id: 1, Inc: math.MaxInt}),
		"Item at its Floor":    {Items: []impl.Item{itemOf(3, 7)}, Floors: []impl.Floor{{Id: 3, Inc: 7}}},
		"Item below its Floor": {Items: []impl.Item{itemOf(3, 6)}, Floors: []impl.Floor{{Id: 3, Inc: 7}}},
		"last Item at its Floor": {
			Items:  []impl.Item{itemOf(0, 2), itemOf(4, 9)},
			Floors: []impl.Floor{{Id: 0, Inc: 1}, {Id: 1, Inc: 500}, {Id: 4, Inc: 9}},
		},
	}
}

func TestStateOkAtTheEdges(t *testing.T) {
	if impl.MaxNodes != 5 {
		t.Fatal(impl.MaxNodes)
	}
	for why, s := range map[string]impl.State{
		"neither":               {},
		"neither, not nil":      {Items: []impl.Item{}, Floors: []impl.Floor{}},
		"the first node":        itemsOf(itemOf(0, 1)),
		"the last node":         itemsOf(itemOf(impl.MaxNodes-1, impl.MaxInc)),
		"gone":                  itemsOf(impl.Item{Id: 2, Entry: impl.Entry{Inc: 1, Rank: impl.RkGone}}),
		"the least Floor":       floorsOf(impl.Floor{Id: 0, Inc: 1}),
		"the greatest Floor":    floorsOf(impl.Floor{Id: impl.MaxNodes - 1, Inc: impl.MaxInc}),
		"Item above its Floor":  {Items: []impl.Item{itemOf(3, 8)}, Floors: []impl.Floor{{Id: 3, Inc: 7}}},
		"Floor of another node": {Items: []impl.Item{itemOf(3, 1)}, Floors: []impl.Floor{{Id: 2, Inc: 1000}, {Id: 4, Inc: 1000}}},
		"Item at most above": {
			Items: []impl.Item{itemOf(0, impl.MaxInc)}, Floors: []impl.Floor{{Id: 0, Inc: impl.MaxInc - 1}},
		},
		"all nodes": {
			Items:  []impl.Item{itemOf(0, 2), itemOf(1, 2), itemOf(2, 2), itemOf(3, 2), itemOf(4, 2)},
			Floors: []impl.Floor{{Id: 0, Inc: 1}, {Id: 1, Inc: 1}, {Id: 2, Inc: 1}, {Id: 3, Inc: 1}, {Id: 4, Inc: 1}},
		},
	} {
		if !impl.StateOk(s) {
			t.Errorf("%s is refused", why)
		}
	}
	for why, s := range wrongStates() {
		if impl.StateOk(s) {
			t.Errorf("%s is accepted", why)
		}
	}
}

// One state alone, of all Ids from -1 to MaxNodes and all Incs about the Floor of that Id.
func TestStateOkOfOne(t *testing.T) {
	for id := -1; id <= impl.MaxNodes; id++ {
		for floor := -1; floor <= 3; floor++ {
			for inc := -1; inc <= 5; inc++ {
				s := impl.State{Items: []impl.Item{itemOf(id, inc)}, Floors: []impl.Floor{{Id: id, Inc: floor}}}
				want := id >= 0 && id < impl.MaxNodes && floor >= 1 && inc > floor
				if got := impl.StateOk(s); got != want {
					t.Errorf("StateOk(%v) = %v", s, got)
				}
			}
		}
	}
}

func TestJoinedInBothOrders(t *testing.T) {
	for _, all := range [][]impl.State{ordinaryStates(), smallStates()} {
		for _, a := range all {
			for _, b := range all {
				want := joinBySlots(a, b)
				if got := mustJoin(t, a, b); !sameState(got, want) {
					t.Fatalf("StateJoin(%v, %v) = %v, not %v", a, b, got, want)
				}
				if got := mustJoin(t, b, a); !sameState(got, want) {
					t.Fatalf("StateJoin(%v, %v) = %v, not %v", b, a, got, want)
				}
			}
		}
	}
}

func TestThreeJoinedInEveryOrder(t *testing.T) {
	all := ordinaryStates()
	for _, a := range all {
		for _, b := range all {
			for _, c := range all {
				want := joinBySlots(joinBySlots(a, b), c)
				for _, o := range [][3]impl.State{{a, b, c}, {a, c, b}, {b, a, c}, {b, c, a}, {c, a, b}, {c, b, a}} {
					left := mustJoin(t, mustJoin(t, o[0], o[1]), o[2])
					right := mustJoin(t, o[0], mustJoin(t, o[1], o[2]))
					if !sameState(left, want) || !sameState(right, want) {
						t.Fatalf("%v joined: %v and %v, not %v", o, left, right, want)
					}
				}
			}
		}
	}
}

// All that the small states are joined to is one of them, so that any three are a look into a table.
func TestAnyThreeSmallStates(t *testing.T) {
	all := smallStates()
	place := map[string]int{}
	for i, s := range all {
		place[fmt.Sprint(s)] = i
	}
	table := make([][]int, len(all))
	for i, a := range all {
		for _, b := range all {
			at, ok := place[fmt.Sprint(mustJoin(t, a, b))]
			if !ok {
				t.Fatalf("StateJoin(%v, %v) is none of the small states", a, b)
			}
			table[i] = append(table[i], at)
		}
	}
	for i := range all {
		for j := range all {
			for k := range all {
				if table[table[i][j]][k] != table[i][table[j][k]] {
					t.Fatalf("%v, %v, %v joined", all[i], all[j], all[k])
				}
			}
		}
	}
}

func TestJoinedAgain(t *testing.T) {
	for _, all := range [][]impl.State{ordinaryStates(), smallStates()} {
		for _, a := range all {
			if got := mustJoin(t, a, a); !sameState(got, a) {
				t.Fatalf("%v joined with itself: %v", a, got)
			}
			if !sameState(mustJoin(t, a, impl.State{}), a) || !sameState(mustJoin(t, impl.State{}, a), a) {
				t.Fatalf("%v joined with nothing", a)
			}
			for _, b := range all {
				j := mustJoin(t, a, b)
				for _, again := range []impl.State{mustJoin(t, j, a), mustJoin(t, j, b), mustJoin(t, a, j), mustJoin(t, b, j), mustJoin(t, j, j)} {
					if !sameState(again, j) {
						t.Fatalf("%v of %v and %v, joined again: %v", j, a, b, again)
					}
				}
			}
		}
	}
}

// A map is gone through in another order each time, so what it holds is told more than once.
func TestJoinIsToldInOrder(t *testing.T) {
	a := itemsOf(itemOf(1, 1), itemOf(3, 1))
	b := impl.State{
		Items:  []impl.Item{itemOf(0, 1), itemOf(2, 1), itemOf(4, 1)},
		Floors: []impl.Floor{{Id: 1, Inc: 1}},
	}
	want := impl.State{Items: []impl.Item{itemOf(0, 1), itemOf(2, 1), itemOf(3, 1), itemOf(4, 1)}, Floors: b.Floors}
	for range 200 {
		if got := mustJoin(t, a, b); !sameState(got, want) {
			t.Fatal(got)
		}
	}
}

func TestItemsThatAreOver(t *testing.T) {
	up := impl.Item{Id: 2, Entry: impl.Entry{Inc: 7, Beat: impl.MaxBeat, Ver: 3, Data: "x"}}
	gone := impl.Item{Id: 2, Entry: impl.Entry{Inc: 7, Rank: impl.RkGone}}
	for _, x := range []impl.Item{up, gone} {
		for floor := 1; floor <= 10; floor++ {
			f := floorsOf(impl.Floor{Id: 2, Inc: floor})
			want := impl.State{Floors: f.Floors}
			if floor < 7 {
				want.Items = []impl.Item{x}
			}
			if got := mustJoin(t, itemsOf(x), f); !sameState(got, want) {
				t.Errorf("%v with a Floor of %d: %v", x, floor, got)
			}
			if got := mustJoin(t, f, itemsOf(x)); !sameState(got, want) {
				t.Errorf("a Floor of %d with %v: %v", floor, x, got)
			}
		}
	}
	// The Floor of the one is above the Item of the other, though each is above its own.
	low := impl.State{Items: []impl.Item{itemOf(0, 3)}, Floors: []impl.Floor{{Id: 0, Inc: 2}}}
	high := impl.State{Items: []impl.Item{itemOf(1, 1)}, Floors: []impl.Floor{{Id: 0, Inc: 3}}}
	want := impl.State{Items: []impl.Item{itemOf(1, 1)}, Floors: []impl.Floor{{Id: 0, Inc: 3}}}
	if got := mustJoin(t, low, high); !sameState(got, want) {
		t.Error(got)
	}
	if got := mustJoin(t, high, low); !sameState(got, want) {
		t.Error(got)
	}
	// What was over does not come back by being joined late, but one Inc more does.
	if got := mustJoin(t, mustJoin(t, low, high), low); !sameState(got, want) {
		t.Error("over, and joined again:", got)
	}
	want.Items = []impl.Item{itemOf(0, 4), itemOf(1, 1)}
	if got := mustJoin(t, mustJoin(t, low, high), itemsOf(itemOf(0, 4))); !sameState(got, want) {
		t.Error("come anew:", got)
	}
}

func TestTheGreaterFloor(t *testing.T) {
	a := floorsOf(impl.Floor{Id: 0, Inc: 9}, impl.Floor{Id: 1, Inc: 1}, impl.Floor{Id: 2, Inc: 5})
	b := floorsOf(impl.Floor{Id: 0, Inc: 10}, impl.Floor{Id: 2, Inc: 4}, impl.Floor{Id: 4, Inc: impl.MaxInc})
	want := floorsOf(
		impl.Floor{Id: 0, Inc: 10}, impl.Floor{Id: 1, Inc: 1}, impl.Floor{Id: 2, Inc: 5}, impl.Floor{Id: 4, Inc: impl.MaxInc})
	if got := mustJoin(t, a, b); !sameState(got, want) {
		t.Error(got)
	}
	if got := mustJoin(t, b, a); !sameState(got, want) {
		t.Error(got)
	}
}

func TestJoinOfWrongStates(t *testing.T) {
	for why, bad := range wrongStates() {
		for _, s := range append(ordinaryStates(), bad) {
			if got, ok := impl.StateJoin(bad, s); ok || !isZeroState(got) {
				t.Errorf("%s, the first: %v, %v", why, got, ok)
			}
			if got, ok := impl.StateJoin(s, bad); ok || !isZeroState(got) {
				t.Errorf("%s, the second: %v, %v", why, got, ok)
			}
		}
	}
}

func TestEntryOf(t *testing.T) {
	twice := itemsOf(itemOf(4, 2), itemOf(-7, 3), itemOf(4, 9), impl.Item{Id: math.MaxInt})
	for _, c := range []struct {
		s    impl.State
		id   int
		want impl.Entry
		ok   bool
	}{
		{impl.State{}, 0, impl.Entry{}, false},
		{itemsOf(itemOf(0, 1), itemOf(3, 2)), 0, entryAt(1, 1), true},
		{itemsOf(itemOf(0, 1), itemOf(3, 2)), 3, entryAt(2, 1), true},
		{itemsOf(itemOf(0, 1), itemOf(3, 2)), 1, impl.Entry{}, false},
		{itemsOf(itemOf(0, 1), itemOf(3, 2)), 4, impl.Entry{}, false},
		{itemsOf(itemOf(0, 1), itemOf(3, 2)), -1, impl.Entry{}, false},
		{floorsOf(impl.Floor{Id: 2, Inc: 2}), 2, impl.Entry{}, false},
		{twice, 4, entryAt(2, 1), true},
		{twice, -7, entryAt(3, 1), true},
		{twice, math.MaxInt, impl.Entry{}, true},
		{twice, math.MinInt, impl.Entry{}, false},
		{itemsOf(itemOf(1, 9), itemOf(1, 2)), 1, entryAt(9, 1), true},
		{wrongStates()["Item below its Floor"], 3, entryAt(6, 1), true},
	} {
		if got, ok := impl.EntryOf(c.s, c.id); got != c.want || ok != c.ok {
			t.Errorf("EntryOf(%v, %d) = %v, %v", c.s, c.id, got, ok)
		}
	}
}

func TestFloorOf(t *testing.T) {
	twice := floorsOf(
		impl.Floor{Id: 4, Inc: 2}, impl.Floor{Id: -7, Inc: 3}, impl.Floor{Id: 4, Inc: 9}, impl.Floor{Id: math.MinInt, Inc: math.MinInt})
	two := floorsOf(impl.Floor{Id: 0, Inc: 1}, impl.Floor{Id: 3, Inc: 1000})
	for _, c := range []struct {
		s    impl.State
		id   int
		want int
	}{
		{impl.State{}, 0, 0},
		{two, 0, 1},
		{two, 3, 1000},
		{two, 1, 0},
		{two, 4, 0},
		{two, -1, 0},
		{itemsOf(itemOf(2, 2)), 2, 0},
		{twice, 4, 2},
		{twice, -7, 3},
		{twice, math.MinInt, math.MinInt},
		{twice, math.MaxInt, 0},
		{floorsOf(impl.Floor{Id: 1, Inc: 9}, impl.Floor{Id: 1, Inc: 2}), 1, 9},
		{floorsOf(impl.Floor{Id: 1, Inc: 1001}), 1, 1001},
	} {
		if got := impl.FloorOf(c.s, c.id); got != c.want {
			t.Errorf("FloorOf(%v, %d) = %d", c.s, c.id, got)
		}
	}
}

func TestStateSame(t *testing.T) {
	all := append(ordinaryStates(), smallStates()...)
	for _, s := range wrongStates() {
		all = append(all, s)
	}
	for _, a := range all {
		for _, b := range all {
			if got := impl.StateSame(a, b); got != sameState(a, b) {
				t.Fatalf("StateSame(%v, %v) = %v", a, b, got)
			}
		}
	}
	none := impl.State{Items: []impl.Item{}, Floors: []impl.Floor{}}
	if !impl.StateSame(none, impl.State{}) || !impl.StateSame(impl.State{}, none) {
		t.Error("an empty list and nil differ")
	}
}

// One thing alone that is another one makes another state.
func TestStatesThatDiffer(t *testing.T) {
	whole := func() impl.State {
		return impl.State{
			Items:  []impl.Item{itemOf(0, 5), itemOf(2, 5)},
			Floors: []impl.Floor{{Id: 0, Inc: 1}, {Id: 4, Inc: 2}},
		}
	}
	if !impl.StateSame(whole(), whole()) {
		t.Error("the same, in other memory")
	}
	for i, turn := range []func(s *impl.State){
		func(s *impl.State) { s.Items[1].Id = 3 },
		func(s *impl.State) { s.Items[1].Entry.Inc++ },
		func(s *impl.State) { s.Items[1].Entry.Rank = impl.RkGone },
		func(s *impl.State) { s.Items[1].Entry.Beat++ },
		func(s *impl.State) { s.Items[1].Entry.Ver++ },
		func(s *impl.State) { s.Items[1].Entry.Data = "e" },
		func(s *impl.State) { s.Items[0], s.Items[1] = s.Items[1], s.Items[0] },
		func(s *impl.State) { s.Items = s.Items[:1] },
		func(s *impl.State) { s.Items = nil },
		func(s *impl.State) { s.Items = append(s.Items, itemOf(3, 1)) },
		func(s *impl.State) { s.Floors[1].Id = 3 },
		func(s *impl.State) { s.Floors[1].Inc++ },
		func(s *impl.State) { s.Floors[0], s.Floors[1] = s.Floors[1], s.Floors[0] },
		func(s *impl.State) { s.Floors = s.Floors[:1] },
		func(s *impl.State) { s.Floors = nil },
	} {
		s := whole()
		turn(&s)
		if impl.StateSame(s, whole()) || impl.StateSame(whole(), s) {
			t.Errorf("turn %d is not told", i)
		}
	}
}

func TestSingle(t *testing.T) {
	long := strings.Repeat("d", impl.MaxData)
	most := impl.Entry{Inc: impl.MaxInc, Rank: impl.RkGone, Beat: impl.MaxBeat, Ver: impl.MaxVer, Data: long}
	for id := -2; id <= impl.MaxNodes+1; id++ {
		for _, e := range []impl.Entry{{Inc: 1}, most} {
			got, ok := impl.Single(id, e)
			if id < 0 || id >= impl.MaxNodes {
				if ok || !isZeroState(got) {
					t.Errorf("Single(%d, %v) = %v, %v", id, e, got, ok)
				}
				continue
			}
			if !ok || !sameState(got, itemsOf(impl.Item{Id: id, Entry: e})) {
				t.Errorf("Single(%d, %v) = %v, %v", id, e, got, ok)
			}
		}
	}
	for _, id := range []int{math.MinInt, math.MaxInt} {
		if got, ok := impl.Single(id, impl.Entry{Inc: 1}); ok || !isZeroState(got) {
			t.Errorf("Single(%d) = %v, %v", id, got, ok)
		}
	}
	for _, e := range []impl.Entry{
		{}, {Inc: -1}, {Inc: impl.MaxInc + 1}, {Inc: 1, Rank: 2}, {Inc: 1, Rank: -1}, {Inc: 1, Beat: -1},
		{Inc: 1, Beat: impl.MaxBeat + 1}, {Inc: 1, Ver: -1}, {Inc: 1, Ver: impl.MaxVer + 1}, {Inc: 1, Data: long + "d"},
	} {
		if got, ok := impl.Single(0, e); ok || !isZeroState(got) {
			t.Errorf("Single(0, %v) = %v, %v", e, got, ok)
		}
	}
}

func TestStateText(t *testing.T) {
	items := []impl.Item{
		{Id: 0, Entry: impl.Entry{Inc: 2}},
		{Id: 3, Entry: impl.Entry{Inc: 1, Rank: impl.RkGone, Beat: 90, Ver: 4, Data: "a b"}},
	}
	floors := []impl.Floor{{Id: 0, Inc: 1}, {Id: 4, Inc: 1000}}
	for _, c := range []struct {
		s    impl.State
		want string
	}{
		{impl.State{}, ""},
		{impl.State{Items: []impl.Item{}, Floors: []impl.Floor{}}, ""},
		{itemsOf(items[:1]...), "0=2u0.0:"},
		{itemsOf(items...), "0=2u0.0: 3=1g90.4:a b"},
		{floorsOf(floors[1:]...), "-4<1000"},
		{floorsOf(floors...), "-0<1 -4<1000"},
		{impl.State{Items: items[:1], Floors: floors[:1]}, "0=2u0.0: -0<1"},
		{impl.State{Items: items, Floors: floors}, "0=2u0.0: 3=1g90.4:a b -0<1 -4<1000"},
		{itemsOf(impl.Item{Id: 9, Entry: impl.Entry{Rank: 7}}, impl.Item{Id: -1}), "9=0?0.0: -1=0u0.0:"},
		{floorsOf(impl.Floor{Id: -2, Inc: -3}, impl.Floor{Id: 1, Inc: 5}, impl.Floor{Id: 1, Inc: 0}), "--2<-3 -1<5 -1<0"},
		{
			impl.State{Items: []impl.Item{{Id: math.MaxInt}}, Floors: []impl.Floor{{Id: math.MinInt, Inc: math.MinInt}}},
			"9223372036854775807=0u0.0: --9223372036854775808<-9223372036854775808",
		},
	} {
		if got := impl.StateText(c.s); got != c.want {
			t.Errorf("StateText(%v) = %q, not %q", c.s, got, c.want)
		}
	}
}

// roomy: s with spare room behind both lists, and that room: what is written there shows in it.
func roomy(s impl.State) (impl.State, impl.State) {
	items := append(slices.Clone(s.Items), itemOf(91, 91), itemOf(92, 92))
	floors := append(slices.Clone(s.Floors), impl.Floor{Id: 91, Inc: 91}, impl.Floor{Id: 92, Inc: 92})
	return impl.State{Items: items[:len(s.Items)], Floors: floors[:len(s.Floors)]}, impl.State{Items: items, Floors: floors}
}

func cloneState(s impl.State) impl.State {
	return impl.State{Items: slices.Clone(s.Items), Floors: slices.Clone(s.Floors)}
}

func callAll(a impl.State, b impl.State) {
	impl.StateOk(a)
	impl.StateJoin(a, b)
	impl.StateJoin(b, a)
	impl.StateSame(a, b)
	impl.StateText(a)
	for id := -1; id <= impl.MaxNodes; id++ {
		impl.EntryOf(a, id)
		impl.FloorOf(a, id)
	}
}

// checkNothingWritten calls with each two of these states, and the wrong ones, and looks at them and the room behind them.
func checkNothingWritten(t *testing.T, all []impl.State, call func(a impl.State, b impl.State)) {
	t.Helper()
	for _, s := range wrongStates() {
		all = append(all, s)
	}
	for _, x := range all {
		for _, y := range all {
			a, roomA := roomy(x)
			b, roomB := roomy(y)
			wasA, wasB := cloneState(roomA), cloneState(roomB)
			call(a, b)
			call(a, a)
			if !sameState(roomA, wasA) || !sameState(roomB, wasB) {
				t.Fatalf("%v, %v became %v, %v", wasA, wasB, roomA, roomB)
			}
		}
	}
}

func TestNothingIsWrittenIntoStates(t *testing.T) { checkNothingWritten(t, ordinaryStates(), callAll) }

// scribble turns all that a state holds, and the spare room behind it.
func scribble(s impl.State) {
	items, floors := s.Items[:cap(s.Items)], s.Floors[:cap(s.Floors)]
	for i := range items {
		items[i] = impl.Item{Id: 77, Entry: impl.Entry{Inc: 77, Data: "77"}}
	}
	for i := range floors {
		floors[i] = impl.Floor{Id: 77, Inc: 77}
	}
}

func TestJoinIsNewMemory(t *testing.T) {
	for _, x := range ordinaryStates() {
		for _, y := range ordinaryStates() {
			a, roomA := roomy(x)
			b, roomB := roomy(y)
			wasA, wasB := cloneState(roomA), cloneState(roomB)
			got, again := mustJoin(t, a, b), mustJoin(t, a, b)
			want := cloneState(got)
			scribble(got)
			if !sameState(roomA, wasA) || !sameState(roomB, wasB) || !sameState(again, want) {
				t.Fatalf("%v, %v or an earlier answer turned with the answer", x, y)
			}
			scribble(a)
			scribble(b)
			if !sameState(again, want) {
				t.Fatalf("the answer turned with %v, %v", x, y)
			}
		}
	}
}

// Nobody can write into a text, but its bytes are memory too.
func TestTextsOfStatesAreNewMemory(t *testing.T) {
	e := impl.Entry{Inc: 1, Data: strings.Repeat("a", 8)}
	shared := func(x impl.Entry) bool { return unsafe.StringData(x.Data) == unsafe.StringData(e.Data) }
	one, _ := impl.Single(1, e)
	if shared(one.Items[0].Entry) {
		t.Error("Single")
	}
	s := itemsOf(impl.Item{Id: 1, Entry: e}, impl.Item{Id: 2, Entry: e})
	if got, _ := impl.EntryOf(s, 1); shared(got) {
		t.Error("EntryOf")
	}
	for _, got := range []impl.State{mustJoin(t, s, impl.State{}), mustJoin(t, impl.State{}, s), mustJoin(t, s, s)} {
		if shared(got.Items[0].Entry) || shared(got.Items[1].Entry) {
			t.Error("StateJoin")
		}
	}
}
