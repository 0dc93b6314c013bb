package tests

import (
	"math"
	"slices"
	"strings"
	"testing"
	"unsafe"

	"loop.example/g00487/impl"
)

func goneOf(id int, inc int) impl.Item {
	return impl.Item{Id: id, Entry: impl.Entry{Inc: inc, Rank: impl.RkGone, Beat: 2, Data: "g"}}
}

// mixedState: node 0 is up, 1 is gone, 2 has a Floor alone, 3 is up above a Floor; of 4 nothing is known.
func mixedState() impl.State {
	return impl.State{
		Items:  []impl.Item{itemOf(0, 1), goneOf(1, 4), itemOf(3, 9)},
		Floors: []impl.Floor{{Id: 1, Inc: 2}, {Id: 2, Inc: 7}, {Id: 3, Inc: 5}},
	}
}

// rightStates: the ordinary ones, the small ones, and those where some are up and some are gone.
func rightStates() []impl.State {
	out := append(ordinaryStates(),
		mixedState(),
		itemsOf(goneOf(0, 1)),
		itemsOf(goneOf(0, 3), goneOf(1, impl.MaxInc), goneOf(4, 1)),
		itemsOf(itemOf(0, 4), goneOf(1, 1), itemOf(2, 3), goneOf(3, 2), itemOf(4, 1)),
		impl.State{Items: []impl.Item{goneOf(2, 6), itemOf(4, impl.MaxInc)}, Floors: []impl.Floor{{Id: 2, Inc: 5}, {Id: 4, Inc: impl.MaxInc - 1}}},
	)
	return append(out, smallStates()...)
}

// probedIds: all nodes, and who is none.
func probedIds() []int {
	return []int{math.MinInt, -1, 0, 1, 2, 3, impl.MaxNodes - 1, impl.MaxNodes, math.MaxInt}
}

func isNodeId(id int) bool { return id >= 0 && id < impl.MaxNodes }

// seenBySlots: the Items that are up, node by node.
func seenBySlots(s impl.State) []impl.Item {
	var out []impl.Item
	for id, x := range slotsOf(s) {
		if x.entry.Inc > 0 && x.entry.Rank == 0 {
			out = append(out, impl.Item{Id: id, Entry: x.entry})
		}
	}
	return out
}

// goneBySlots: the greatest Inc of that node that is over.
func goneBySlots(s impl.State, id int) int {
	if !isNodeId(id) {
		return 0
	}
	x := slotsOf(s)[id]
	switch {
	case x.entry.Inc == 0:
		return x.floor
	case x.entry.Rank == 1:
		return x.entry.Inc
	}
	return x.entry.Inc - 1
}

// lackedBySlots: what the second has and the first lacks, node by node.
func lackedBySlots(a impl.State, b impl.State) impl.State {
	x, y := slotsOf(a), slotsOf(b)
	for id := range y {
		if byFields(y[id].entry, x[id].entry) <= 0 || y[id].entry.Inc <= x[id].floor {
			y[id].entry = impl.Entry{}
		}
		if y[id].floor <= x[id].floor {
			y[id].floor = 0
		}
	}
	return stateOf(y)
}

func TestViewTellsWhoIsUp(t *testing.T) {
	for _, c := range []struct {
		s    impl.State
		want []impl.Item
		text string
	}{
		{impl.State{}, nil, ""},
		{impl.State{Items: []impl.Item{}, Floors: []impl.Floor{}}, nil, ""},
		{itemsOf(itemOf(2, 3)), []impl.Item{itemOf(2, 3)}, "2=3u1.1:d1"},
		{itemsOf(goneOf(2, 3)), nil, ""},
		{floorsOf(impl.Floor{Id: 0, Inc: 1}), nil, ""},
		{mixedState(), []impl.Item{itemOf(0, 1), itemOf(3, 9)}, "0=1u1.1:d1 3=9u1.1:d1"},
		{itemsOf(goneOf(0, 1), itemOf(1, 1), goneOf(2, 1)), []impl.Item{itemOf(1, 1)}, "1=1u1.1:d1"},
		{itemsOf(itemOf(0, 1), goneOf(1, 1), itemOf(4, impl.MaxInc)), []impl.Item{itemOf(0, 1), itemOf(4, impl.MaxInc)}, "0=1u1.1:d1 4=1000u1.1:d1"},
	} {
		if got := impl.View(c.s); !slices.Equal(got, c.want) {
			t.Errorf("View(%v) = %v, not %v", c.s, got, c.want)
		}
		if got := impl.ViewText(c.s); got != c.text {
			t.Errorf("ViewText(%v) = %q, not %q", c.s, got, c.text)
		}
	}
	for _, s := range rightStates() {
		want := seenBySlots(s)
		if got := impl.View(s); !slices.Equal(got, want) {
			t.Fatalf("View(%v) = %v, not %v", s, got, want)
		}
		if got := impl.ViewText(s); got != impl.StateText(itemsOf(want...)) {
			t.Fatalf("ViewText(%v) = %q", s, got)
		}
	}
}

func TestLookup(t *testing.T) {
	s := mixedState()
	for id, want := range map[int]impl.Entry{0: entryAt(1, 1), 3: entryAt(9, 1)} {
		if got, ok := impl.Lookup(s, id); !ok || got != want {
			t.Errorf("Lookup of %d, who is up: %v, %v", id, got, ok)
		}
	}
	for id, why := range map[int]string{1: "gone", 2: "a Floor alone", 4: "not known", -1: "no node", impl.MaxNodes: "no node"} {
		if got, ok := impl.Lookup(s, id); ok || got != (impl.Entry{}) {
			t.Errorf("Lookup of %d, %s: %v, %v", id, why, got, ok)
		}
	}
	for _, s := range rightStates() {
		for _, id := range probedIds() {
			var want impl.Entry
			found := false
			for _, x := range seenBySlots(s) {
				if x.Id == id {
					want, found = x.Entry, true
				}
			}
			if got, ok := impl.Lookup(s, id); got != want || ok != found {
				t.Fatalf("Lookup(%v, %d) = %v, %v", s, id, got, ok)
			}
		}
	}
}

func TestGoneAt(t *testing.T) {
	with := func(x impl.Item, floor int) impl.State {
		return impl.State{Items: []impl.Item{x}, Floors: []impl.Floor{{Id: x.Id, Inc: floor}}}
	}
	for _, c := range []struct {
		why  string
		s    impl.State
		id   int
		want int
	}{
		{"nothing", impl.State{}, 0, 0},
		{"gone", itemsOf(goneOf(1, 4)), 1, 4},
		{"gone at once", itemsOf(goneOf(0, 1)), 0, 1},
		{"gone as often as can be", itemsOf(goneOf(4, impl.MaxInc)), 4, impl.MaxInc},
		{"gone above a Floor", with(goneOf(1, 4), 2), 1, 4},
		{"gone right above a Floor", with(goneOf(1, 4), 3), 1, 4},
		{"up", itemsOf(itemOf(3, 9)), 3, 8},
		{"up for the first time", itemsOf(itemOf(3, 1)), 3, 0},
		{"up for the last time", itemsOf(itemOf(3, impl.MaxInc)), 3, impl.MaxInc - 1},
		{"up far above a Floor", with(itemOf(3, 9), 5), 3, 8},
		{"up right above a Floor", with(itemOf(3, 9), 8), 3, 8},
		{"up, the Floor of another one", impl.State{Items: []impl.Item{itemOf(3, 1)}, Floors: []impl.Floor{{Id: 2, Inc: 7}}}, 3, 0},
		{"a Floor alone", floorsOf(impl.Floor{Id: 2, Inc: 7}), 2, 7},
		{"the greatest Floor", floorsOf(impl.Floor{Id: 4, Inc: impl.MaxInc}), 4, impl.MaxInc},
		{"neither, beside others", mixedState(), 4, 0},
		{"below all nodes", mixedState(), -1, 0},
		{"above all nodes", mixedState(), impl.MaxNodes, 0},
	} {
		if got := impl.GoneAt(c.s, c.id); got != c.want {
			t.Errorf("%s: GoneAt(%v, %d) = %d, not %d", c.why, c.s, c.id, got, c.want)
		}
	}
	for _, s := range rightStates() {
		for _, id := range probedIds() {
			if got := impl.GoneAt(s, id); got != goneBySlots(s, id) {
				t.Fatalf("GoneAt(%v, %d) = %d", s, id, got)
			}
		}
	}
}

func TestWhatIsOverStaysOver(t *testing.T) {
	all := rightStates()
	for _, a := range all {
		for _, b := range all {
			both := mustJoin(t, a, b)
			for id := range impl.MaxNodes {
				over := impl.GoneAt(a, id)
				if got := impl.GoneAt(both, id); got < over || got < impl.GoneAt(b, id) {
					t.Fatalf("of %d is over %d in %v, but %d in %v", id, over, a, got, both)
				}
				if e, ok := impl.Lookup(both, id); ok && e.Inc <= over {
					t.Fatalf("%d, over up to %d in %v, is seen with %d in %v", id, over, a, e.Inc, both)
				}
			}
		}
	}
}

// Who has gone is not seen again by an Entry of that count or less, but by one of more.
func TestWhoHasGoneComesBackByJoiningAnewAlone(t *testing.T) {
	for _, gone := range []impl.State{itemsOf(goneOf(2, 5)), floorsOf(impl.Floor{Id: 2, Inc: 5}), itemsOf(itemOf(2, 6))} {
		for inc := 1; inc <= 10; inc++ {
			late := itemsOf(impl.Item{Id: 2, Entry: impl.Entry{Inc: inc, Beat: impl.MaxBeat, Ver: impl.MaxVer, Data: "zzzzzzzz"}})
			both := mustJoin(t, gone, late)
			if e, ok := impl.Lookup(both, 2); ok && e.Inc <= 5 || !ok && inc > 5 {
				t.Errorf("%v joined with %v: %v, %v is seen", gone, late, e, ok)
			}
			if got := impl.GoneAt(both, 2); got != max(5, inc-1) {
				t.Errorf("%v joined with %v: over up to %d", gone, late, got)
			}
		}
	}
}

func TestStateLeqOfTwo(t *testing.T) {
	all := rightStates()
	for _, a := range all {
		if !impl.StateLeq(a, a) || !impl.StateLeq(impl.State{}, a) {
			t.Fatalf("%v is not above itself or nothing", a)
		}
		if impl.StateLeq(a, impl.State{}) != isZeroState(a) {
			t.Fatalf("%v and nothing", a)
		}
		for _, b := range all {
			both := mustJoin(t, a, b)
			if !impl.StateLeq(a, both) || !impl.StateLeq(b, both) {
				t.Fatalf("%v, %v and both joined", a, b)
			}
			if got := impl.StateLeq(a, b); got != sameState(joinBySlots(a, b), b) {
				t.Fatalf("StateLeq(%v, %v) = %v", a, b, got)
			}
			if impl.StateLeq(a, b) && impl.StateLeq(b, a) && !sameState(a, b) {
				t.Fatalf("%v and %v are beneath each other", a, b)
			}
		}
	}
}

func TestStatesThatAreNotBeneathEachOther(t *testing.T) {
	for _, two := range [][2]impl.State{
		{itemsOf(itemOf(0, 1)), itemsOf(itemOf(1, 1))},
		{itemsOf(itemOf(0, 2), itemOf(1, 1)), itemsOf(itemOf(0, 1), itemOf(1, 2))},
		{itemsOf(itemOf(0, 5)), floorsOf(impl.Floor{Id: 0, Inc: 4})},
		{itemsOf(itemOf(0, 5)), floorsOf(impl.Floor{Id: 1, Inc: 1})},
		{floorsOf(impl.Floor{Id: 0, Inc: 2}, impl.Floor{Id: 1, Inc: 1}), floorsOf(impl.Floor{Id: 0, Inc: 1}, impl.Floor{Id: 1, Inc: 2})},
	} {
		if impl.StateLeq(two[0], two[1]) || impl.StateLeq(two[1], two[0]) {
			t.Errorf("%v and %v", two[0], two[1])
		}
	}
	for _, two := range [][2]impl.State{
		{itemsOf(itemOf(0, 1)), itemsOf(itemOf(0, 2))},
		{itemsOf(itemOf(0, 1)), itemsOf(goneOf(0, 1))},
		{itemsOf(itemOf(0, 1)), itemsOf(itemOf(0, 1), itemOf(1, 1))},
		{itemsOf(itemOf(0, 5)), floorsOf(impl.Floor{Id: 0, Inc: 5})},
		{floorsOf(impl.Floor{Id: 0, Inc: 1}), floorsOf(impl.Floor{Id: 0, Inc: 2})},
	} {
		if !impl.StateLeq(two[0], two[1]) || impl.StateLeq(two[1], two[0]) {
			t.Errorf("%v is beneath %v alone", two[0], two[1])
		}
	}
}

func TestThreeBeneathEachOther(t *testing.T) {
	all := smallStates()
	leq := make([][]bool, len(all))
	for i, a := range all {
		for _, b := range all {
			leq[i] = append(leq[i], impl.StateLeq(a, b))
		}
	}
	for i := range all {
		for j := range all {
			for k := range all {
				if leq[i][j] && leq[j][k] && !leq[i][k] {
					t.Fatalf("%v, %v, %v", all[i], all[j], all[k])
				}
			}
		}
	}
	some := ordinaryStates()
	for _, a := range some {
		for _, b := range some {
			for _, c := range some {
				two := mustJoin(t, a, b)
				three := mustJoin(t, two, c)
				if !impl.StateLeq(a, two) || !impl.StateLeq(two, three) || !impl.StateLeq(a, three) {
					t.Fatalf("%v, %v, %v in a row", a, two, three)
				}
			}
		}
	}
}

func TestLacksOfOneNode(t *testing.T) {
	up := func(inc int, beat int) impl.State { return itemsOf(impl.Item{Id: 2, Entry: entryAt(inc, beat)}) }
	floor := func(inc int) impl.State { return floorsOf(impl.Floor{Id: 2, Inc: inc}) }
	for _, c := range []struct {
		why  string
		a, b impl.State
		want impl.State
	}{
		{"neither has anything", impl.State{}, impl.State{}, impl.State{}},
		{"missing in a", impl.State{}, up(1, 3), up(1, 3)},
		{"missing in b", up(1, 3), impl.State{}, impl.State{}},
		{"the same in both", up(1, 3), up(1, 3), impl.State{}},
		{"newer in b", up(1, 3), up(1, 4), up(1, 4)},
		{"newer in a", up(1, 4), up(1, 3), impl.State{}},
		{"newer in b by Inc", up(1, 9), up(2, 0), up(2, 0)},
		{"gone in b", up(1, 9), itemsOf(goneOf(2, 1)), itemsOf(goneOf(2, 1))},
		{"gone in a", itemsOf(goneOf(2, 1)), up(1, 9), impl.State{}},
		{"one below a's Floor", floor(5), up(4, 3), impl.State{}},
		{"exactly a's Floor", floor(5), up(5, 3), impl.State{}},
		{"one above a's Floor", floor(5), up(6, 3), up(6, 3)},
		{"gone, exactly a's Floor", floor(5), itemsOf(goneOf(2, 5)), impl.State{}},
		{"gone, one above a's Floor", floor(5), itemsOf(goneOf(2, 6)), itemsOf(goneOf(2, 6))},
		{"a's Floor of another one", floorsOf(impl.Floor{Id: 1, Inc: 9}), up(4, 3), up(4, 3)},
		{"Floor missing in a", impl.State{}, floor(5), floor(5)},
		{"Floor missing in b", floor(5), impl.State{}, impl.State{}},
		{"Floor less in b", floor(5), floor(4), impl.State{}},
		{"the same Floor", floor(5), floor(5), impl.State{}},
		{"Floor greater in b", floor(5), floor(6), floor(6)},
		{"Floor of b beneath a's Item", up(6, 3), floor(5), floor(5)},
		{"Floor of b at a's Item", up(6, 3), floor(6), floor(6)},
	} {
		if got := impl.Lacks(c.a, c.b); !sameState(got, c.want) {
			t.Errorf("%s: Lacks(%v, %v) = %v, not %v", c.why, c.a, c.b, got, c.want)
		}
	}
}

func TestLacksOfManyNodes(t *testing.T) {
	a := impl.State{
		Items:  []impl.Item{itemOf(0, 2), itemOf(1, 3), itemOf(3, 1)},
		Floors: []impl.Floor{{Id: 1, Inc: 1}, {Id: 2, Inc: 4}, {Id: 4, Inc: 2}},
	}
	b := impl.State{
		Items:  []impl.Item{itemOf(0, 1), goneOf(1, 3), itemOf(2, 5), itemOf(3, 1), itemOf(4, 2)},
		Floors: []impl.Floor{{Id: 1, Inc: 2}, {Id: 2, Inc: 3}, {Id: 4, Inc: 1}},
	}
	want := impl.State{Items: []impl.Item{goneOf(1, 3), itemOf(2, 5)}, Floors: []impl.Floor{{Id: 1, Inc: 2}}}
	if got := impl.Lacks(a, b); !sameState(got, want) {
		t.Errorf("a lacks %v, not %v", got, want)
	}
	want = impl.State{Items: []impl.Item{itemOf(0, 2)}, Floors: []impl.Floor{{Id: 2, Inc: 4}, {Id: 4, Inc: 2}}}
	if got := impl.Lacks(b, a); !sameState(got, want) {
		t.Errorf("b lacks %v, not %v", got, want)
	}
}

func TestWithWhatItLacksAStateIsBothJoined(t *testing.T) {
	all := rightStates()
	for _, a := range all {
		for _, b := range all {
			d := impl.Lacks(a, b)
			if want := lackedBySlots(a, b); !sameState(d, want) {
				t.Fatalf("Lacks(%v, %v) = %v, not %v", a, b, d, want)
			}
			both := mustJoin(t, a, b)
			if got := mustJoin(t, a, d); !sameState(got, both) {
				t.Fatalf("%v with %v, which it lacks of %v: %v, not %v", a, d, b, got, both)
			}
			if isZeroState(d) != impl.StateLeq(b, a) {
				t.Fatalf("%v lacks %v of %v", a, d, b)
			}
			if !isZeroState(impl.Lacks(both, a)) || !isZeroState(impl.Lacks(both, b)) {
				t.Fatalf("%v lacks some of %v, %v", both, a, b)
			}
		}
	}
}

func TestViewsOfWrongStates(t *testing.T) {
	wrong := wrongStates()
	wrong["the last of many is wrong"] = itemsOf(itemOf(0, 1), goneOf(1, 1), itemOf(2, 1), itemOf(4, impl.MaxInc+1))
	wrong["a wrong Floor behind right Items"] = impl.State{Items: mixedState().Items, Floors: []impl.Floor{{Id: 4, Inc: 0}}}
	for why, bad := range wrong {
		if got := impl.View(bad); len(got) != 0 {
			t.Errorf("%s: View = %v", why, got)
		}
		if got := impl.ViewText(bad); got != "" {
			t.Errorf("%s: ViewText = %q", why, got)
		}
		for _, id := range append(probedIds(), 91) {
			if got, ok := impl.Lookup(bad, id); ok || got != (impl.Entry{}) {
				t.Errorf("%s: Lookup of %d = %v, %v", why, id, got, ok)
			}
			if got := impl.GoneAt(bad, id); got != 0 {
				t.Errorf("%s: GoneAt of %d = %d", why, id, got)
			}
		}
		for _, s := range append(ordinaryStates(), mixedState(), bad) {
			if impl.StateLeq(bad, s) || impl.StateLeq(s, bad) {
				t.Errorf("%s: StateLeq with %v", why, s)
			}
			if !isZeroState(impl.Lacks(bad, s)) || !isZeroState(impl.Lacks(s, bad)) {
				t.Errorf("%s: Lacks with %v", why, s)
			}
		}
	}
}

func callViews(a impl.State, b impl.State) {
	impl.View(a)
	impl.ViewText(a)
	impl.StateLeq(a, b)
	impl.Lacks(a, b)
	for _, id := range probedIds() {
		impl.Lookup(a, id)
		impl.GoneAt(a, id)
	}
}

func TestNothingIsWrittenIntoWhatIsSeen(t *testing.T) {
	checkNothingWritten(t, append(ordinaryStates(), mixedState()), callViews)
}

func TestViewsAreNewMemory(t *testing.T) {
	all := append(ordinaryStates(), mixedState())
	for _, x := range all {
		for _, y := range all {
			a, roomA := roomy(x)
			b, roomB := roomy(y)
			wasA, wasB := cloneState(roomA), cloneState(roomB)
			seen, lacked := itemsOf(impl.View(b)...), impl.Lacks(a, b)
			wasSeen, wasLacked := cloneState(seen), cloneState(lacked)
			scribble(itemsOf(impl.View(b)...))
			scribble(impl.Lacks(a, b))
			if !sameState(roomA, wasA) || !sameState(roomB, wasB) {
				t.Fatalf("%v or %v turned with the answer", x, y)
			}
			scribble(a)
			scribble(b)
			if !sameState(seen, wasSeen) || !sameState(lacked, wasLacked) {
				t.Fatalf("an answer turned with %v, %v or another answer", x, y)
			}
		}
	}
}

func TestTextsOfViewsAreNewMemory(t *testing.T) {
	e := impl.Entry{Inc: 2, Data: strings.Repeat("a", impl.MaxData)}
	shared := func(x impl.Entry) bool { return unsafe.StringData(x.Data) == unsafe.StringData(e.Data) }
	s := itemsOf(impl.Item{Id: 1, Entry: e}, impl.Item{Id: 2, Entry: e})
	if got, _ := impl.Lookup(s, 2); shared(got) {
		t.Error("Lookup")
	}
	for _, x := range append(impl.View(s), impl.Lacks(impl.State{}, s).Items...) {
		if shared(x.Entry) {
			t.Error("View or Lacks", x.Id)
		}
	}
}
