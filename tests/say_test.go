package tests

import (
	"slices"
	"strings"
	"testing"
	"unsafe"

	"loop.example/g00487/impl"
)

// saying: one of the four functions, and by the document what is said of a node of which that is known, and the code.
type saying struct {
	name string
	say  func(s impl.State, id int) (impl.State, int)
	want func(x slot) (impl.Entry, int)
}

func isUp(x slot) bool { return x.entry.Inc > 0 && x.entry.Rank == impl.RkUp }

func wantJoin(x slot) (impl.Entry, int) {
	known := max(x.entry.Inc, x.floor)
	switch {
	case isUp(x):
		return impl.Entry{}, impl.SyThere
	case known == impl.MaxInc:
		return impl.Entry{}, impl.SyMost
	}
	return impl.Entry{Inc: known + 1}, impl.SyOk
}

func wantBeat(x slot) (impl.Entry, int) {
	switch e := x.entry; {
	case !isUp(x):
		return impl.Entry{}, impl.SyNone
	case e.Beat == impl.MaxBeat:
		return impl.Entry{}, impl.SyMost
	default:
		return impl.Entry{Inc: e.Inc, Beat: e.Beat + 1, Ver: e.Ver, Data: e.Data}, impl.SyOk
	}
}

func wantSet(x slot, data string) (impl.Entry, int) {
	switch e := x.entry; {
	case !isUp(x):
		return impl.Entry{}, impl.SyNone
	case e.Ver == impl.MaxVer, len(data) > impl.MaxData:
		return impl.Entry{}, impl.SyMost
	default:
		return impl.Entry{Inc: e.Inc, Beat: e.Beat, Ver: e.Ver + 1, Data: data}, impl.SyOk
	}
}

func wantGone(x slot) (impl.Entry, int) {
	if !isUp(x) {
		return impl.Entry{}, impl.SyNone
	}
	e := x.entry
	return impl.Entry{Inc: e.Inc, Rank: impl.RkGone, Beat: e.Beat, Ver: e.Ver, Data: e.Data}, impl.SyOk
}

// saidData: none, what the states hold already, what is longest and one less, what is no text, and what is too long.
func saidData() []string {
	long := strings.Repeat("d", impl.MaxData)
	return []string{"", "d1", "x", "\x00\n\xff ", long[1:], long, long + "d", strings.Repeat("d", 1000)}
}

// sayings: all four, SaySet with each of saidData.
func sayings() []saying {
	out := []saying{
		{"SayJoin", impl.SayJoin, wantJoin},
		{"SayBeat", impl.SayBeat, wantBeat},
		{"SayGone", impl.SayGone, wantGone},
	}
	for _, data := range saidData() {
		out = append(out, saying{
			"SaySet of " + data,
			func(s impl.State, id int) (impl.State, int) { return impl.SaySet(s, id, data) },
			func(x slot) (impl.Entry, int) { return wantSet(x, data) },
		})
	}
	return out
}

// edgeSlots: what can be known of one node, each number at its least, its greatest, and one beneath that.
func edgeSlots() []slot {
	out := []slot{{}, {floor: 1}, {floor: 7}, {floor: impl.MaxInc - 1}, {floor: impl.MaxInc}}
	for _, inc := range []int{1, 2, impl.MaxInc - 1, impl.MaxInc} {
		for _, rank := range []int{impl.RkUp, impl.RkGone} {
			for _, beat := range []int{0, 1, impl.MaxBeat - 1, impl.MaxBeat} {
				for _, ver := range []int{0, 1, impl.MaxVer - 1, impl.MaxVer} {
					e := impl.Entry{Inc: inc, Rank: rank, Beat: beat, Ver: ver, Data: "d1"}
					out = append(out, slot{entry: e}, slot{entry: e, floor: inc - 1})
				}
			}
		}
	}
	return out
}

// among: the mixed state, with that for this node.
func among(id int, x slot) impl.State {
	all := slotsOf(mixedState())
	all[id] = x
	return stateOf(all)
}

// alone: that for this node, and nothing of others.
func alone(id int, x slot) impl.State {
	var all [impl.MaxNodes]slot
	all[id] = x
	return stateOf(all)
}

func saidOf(id int, e impl.Entry) impl.State { return itemsOf(impl.Item{Id: id, Entry: e}) }

func TestCodesOfSaying(t *testing.T) {
	codes := []int{impl.SyOk, impl.SyBad, impl.SyThere, impl.SyNone, impl.SyMost}
	if !slices.Equal(codes, []int{0, 1, 2, 3, 4}) {
		t.Error(codes)
	}
}

// checkSaid holds an answer against the document's words, and what it says against what was.
func checkSaid(t *testing.T, x saying, s impl.State, id int) {
	t.Helper()
	got, how := x.say(s, id)
	e, code := x.want(slotsOf(s)[id])
	if how != code {
		t.Fatalf("%q of %d to %v: code %d, not %d", x.name, id, s, how, code)
	}
	if code != impl.SyOk {
		if !isZeroState(got) {
			t.Fatalf("%q of %d to %v: %v beside code %d", x.name, id, s, got, how)
		}
		return
	}
	if !sameState(got, saidOf(id, e)) || !impl.StateOk(got) {
		t.Fatalf("%q of %d to %v: %v, not %v", x.name, id, s, got, saidOf(id, e))
	}
	checkNews(t, s, id, got)
}

// checkNews: joined, it turns that node to what is said and nobody else.
func checkNews(t *testing.T, s impl.State, id int, said impl.State) {
	t.Helper()
	if impl.StateLeq(said, s) {
		t.Fatalf("%v is no news to %v", said, s)
	}
	want := slotsOf(s)
	want[id].entry = said.Items[0].Entry
	for _, both := range []impl.State{mustJoin(t, s, said), mustJoin(t, said, s)} {
		if !sameState(both, stateOf(want)) {
			t.Fatalf("%v joined to %v: %v, not %v", said, s, both, stateOf(want))
		}
		if !impl.StateLeq(s, both) || impl.StateLeq(both, s) {
			t.Fatalf("%v is not above %v", both, s)
		}
		if lacked := impl.Lacks(s, both); !sameState(lacked, said) {
			t.Fatalf("%v lacks %v of %v, not %v", s, lacked, both, said)
		}
	}
}

func TestWhatIsSaidIsNews(t *testing.T) {
	for _, x := range sayings() {
		for _, s := range rightStates() {
			for id := range impl.MaxNodes {
				checkSaid(t, x, s, id)
			}
		}
	}
}

func TestWhatIsSaidAtTheEdges(t *testing.T) {
	for _, x := range sayings() {
		for _, known := range edgeSlots() {
			for id := range impl.MaxNodes {
				checkSaid(t, x, among(id, known), id)
				checkSaid(t, x, alone(id, known), id)
			}
		}
	}
}

// What is seen behind each change: who joins is there, who goes is not, who beats or sets is there with one more.
func TestWhatIsSeenBehindWhatIsSaid(t *testing.T) {
	for _, s := range rightStates() {
		for id := range impl.MaxNodes {
			if e, there := impl.Lookup(s, id); there {
				checkSeenOfWhoIsThere(t, s, id, e)
			} else if impl.GoneAt(s, id) < impl.MaxInc {
				checkSeenOfWhoJoins(t, s, id)
			}
		}
	}
}

// behind: s with what was said to it.
func behind(t *testing.T, s impl.State, said impl.State, how int) impl.State {
	t.Helper()
	if how != impl.SyOk {
		t.Fatalf("to %v: code %d", s, how)
	}
	return mustJoin(t, s, said)
}

func checkSeenOfWhoJoins(t *testing.T, s impl.State, id int) {
	t.Helper()
	said, how := impl.SayJoin(s, id)
	if now, ok := impl.Lookup(behind(t, s, said, how), id); !ok || now != (impl.Entry{Inc: impl.GoneAt(s, id) + 1}) {
		t.Fatalf("%d joined to %v: %v, %v", id, s, now, ok)
	}
}

func checkSeenOfWhoIsThere(t *testing.T, s impl.State, id int, was impl.Entry) {
	t.Helper()
	said, how := impl.SayBeat(s, id)
	if now, ok := impl.Lookup(behind(t, s, said, how), id); !ok || now.Beat != was.Beat+1 || now.Ver != was.Ver || now.Data != was.Data {
		t.Fatalf("%d beats in %v: %v, %v", id, s, now, ok)
	}
	said, how = impl.SaySet(s, id, "new")
	if now, ok := impl.Lookup(behind(t, s, said, how), id); !ok || now.Beat != was.Beat || now.Ver != was.Ver+1 || now.Data != "new" {
		t.Fatalf("%d sets in %v: %v, %v", id, s, now, ok)
	}
	said, how = impl.SayGone(s, id)
	gone := behind(t, s, said, how)
	if _, ok := impl.Lookup(gone, id); ok || impl.GoneAt(gone, id) != was.Inc {
		t.Fatalf("%d goes from %v: %v", id, s, gone)
	}
}

func TestALifeInSayings(t *testing.T) {
	set := func(data string) func(impl.State, int) (impl.State, int) {
		return func(s impl.State, id int) (impl.State, int) { return impl.SaySet(s, id, data) }
	}
	s := mixedState()
	for i, c := range []struct {
		say  func(impl.State, int) (impl.State, int)
		how  int
		said string
	}{
		{impl.SayBeat, impl.SyNone, ""},
		{impl.SayGone, impl.SyNone, ""},
		{impl.SayJoin, impl.SyOk, "2=8u0.0:"},
		{impl.SayJoin, impl.SyThere, ""},
		{impl.SayBeat, impl.SyOk, "2=8u1.0:"},
		{set("hi"), impl.SyOk, "2=8u1.1:hi"},
		{set("hi"), impl.SyOk, "2=8u1.2:hi"},
		{set(""), impl.SyOk, "2=8u1.3:"},
		{set("123456789"), impl.SyMost, ""},
		{impl.SayBeat, impl.SyOk, "2=8u2.3:"},
		{impl.SayGone, impl.SyOk, "2=8g2.3:"},
		{impl.SayGone, impl.SyNone, ""},
		{impl.SayBeat, impl.SyNone, ""},
		{set("hi"), impl.SyNone, ""},
		{impl.SayJoin, impl.SyOk, "2=9u0.0:"},
	} {
		said, how := c.say(s, 2)
		if how != c.how || impl.StateText(said) != c.said {
			t.Fatalf("line %d: %q, %d, not %q, %d", i, impl.StateText(said), how, c.said, c.how)
		}
		s = mustJoin(t, s, said)
	}
}

func TestSayJoinOneAboveAllThatIsKnown(t *testing.T) {
	gone := func(inc int, floor int) slot {
		return slot{entry: impl.Entry{Inc: inc, Rank: impl.RkGone, Beat: 5, Ver: 6, Data: "old"}, floor: floor}
	}
	for _, c := range []struct {
		why   string
		known slot
		inc   int
		how   int
	}{
		{"nothing", slot{}, 1, impl.SyOk},
		{"gone", gone(1, 0), 2, impl.SyOk},
		{"gone far above a Floor", gone(9, 3), 10, impl.SyOk},
		{"gone right above a Floor", gone(9, 8), 10, impl.SyOk},
		{"a Floor", slot{floor: 7}, 8, impl.SyOk},
		{"gone one beneath the most", gone(impl.MaxInc-1, 0), impl.MaxInc, impl.SyOk},
		{"gone at the most", gone(impl.MaxInc, 0), 0, impl.SyMost},
		{"gone at the most above a Floor", gone(impl.MaxInc, impl.MaxInc-1), 0, impl.SyMost},
		{"a Floor one beneath the most", slot{floor: impl.MaxInc - 1}, impl.MaxInc, impl.SyOk},
		{"a Floor at the most", slot{floor: impl.MaxInc}, 0, impl.SyMost},
		{"up", slot{entry: impl.Entry{Inc: 1}}, 0, impl.SyThere},
		{"up at the most", slot{entry: impl.Entry{Inc: impl.MaxInc}}, 0, impl.SyThere},
		{"up at the most above a Floor", slot{entry: impl.Entry{Inc: impl.MaxInc}, floor: impl.MaxInc - 1}, 0, impl.SyThere},
	} {
		var want impl.State
		if c.how == impl.SyOk {
			want = saidOf(3, impl.Entry{Inc: c.inc})
		}
		if got, how := impl.SayJoin(among(3, c.known), 3); how != c.how || !sameState(got, want) {
			t.Errorf("%s: %v, %d, not %v, %d", c.why, got, how, want, c.how)
		}
	}
}

func TestSayBeatUpToTheMost(t *testing.T) {
	for beat, how := range map[int]int{0: impl.SyOk, impl.MaxBeat - 1: impl.SyOk, impl.MaxBeat: impl.SyMost} {
		e := impl.Entry{Inc: impl.MaxInc, Beat: beat, Ver: impl.MaxVer, Data: "12345678"}
		var want impl.State
		if how == impl.SyOk {
			want = saidOf(0, impl.Entry{Inc: impl.MaxInc, Beat: beat + 1, Ver: impl.MaxVer, Data: "12345678"})
		}
		if got, code := impl.SayBeat(among(0, slot{entry: e}), 0); code != how || !sameState(got, want) {
			t.Errorf("Beat %d: %v, %d", beat, got, code)
		}
	}
	e := impl.Entry{Inc: 1, Rank: impl.RkGone, Beat: impl.MaxBeat}
	if got, how := impl.SayBeat(saidOf(0, e), 0); how != impl.SyNone || !isZeroState(got) {
		t.Errorf("gone with the most Beats: %v, %d", got, how)
	}
}

func TestSaySetUpToTheMost(t *testing.T) {
	for _, data := range saidData() {
		for _, ver := range []int{0, impl.MaxVer - 1, impl.MaxVer} {
			e := impl.Entry{Inc: 2, Beat: impl.MaxBeat, Ver: ver, Data: "old"}
			want, code := impl.State{}, impl.SyMost
			if ver < impl.MaxVer && len(data) <= impl.MaxData {
				want, code = saidOf(4, impl.Entry{Inc: 2, Beat: impl.MaxBeat, Ver: ver + 1, Data: data}), impl.SyOk
			}
			if got, how := impl.SaySet(among(4, slot{entry: e}), 4, data); how != code || !sameState(got, want) {
				t.Errorf("Ver %d, data %q: %v, %d", ver, data, got, how)
			}
		}
	}
	// Who is not there counts ahead of what is too much.
	full := impl.Entry{Inc: 2, Rank: impl.RkGone, Ver: impl.MaxVer}
	for _, known := range []slot{{}, {floor: 3}, {entry: full}, {entry: full, floor: 1}} {
		for _, data := range saidData() {
			if got, how := impl.SaySet(among(4, known), 4, data); how != impl.SyNone || !isZeroState(got) {
				t.Errorf("%v, data %q: %v, %d", known, data, got, how)
			}
		}
	}
}

func TestSayGoneAtWhatever(t *testing.T) {
	for _, inc := range []int{1, impl.MaxInc} {
		for _, beat := range []int{0, impl.MaxBeat} {
			for _, ver := range []int{0, impl.MaxVer} {
				e := impl.Entry{Inc: inc, Beat: beat, Ver: ver, Data: "12345678"}
				want := e
				want.Rank = impl.RkGone
				if got, how := impl.SayGone(among(1, slot{entry: e}), 1); how != impl.SyOk || !sameState(got, saidOf(1, want)) {
					t.Errorf("%v: %v, %d", e, got, how)
				}
			}
		}
	}
}

func TestNothingIsSaidOfWhoIsNoNode(t *testing.T) {
	for _, x := range sayings() {
		for _, s := range append(rightStates(), among(0, slot{floor: impl.MaxInc})) {
			for _, id := range probedIds() {
				got, how := x.say(s, id)
				if (how == impl.SyBad) == isNodeId(id) || how == impl.SyBad && !isZeroState(got) {
					t.Fatalf("%q of %d to %v: %v, %d", x.name, id, s, got, how)
				}
			}
		}
	}
}

// Whoever it is said of: also who is up, gone, or without a thing to say in the wrong state, and who is no node.
func TestNothingIsSaidToWrongStates(t *testing.T) {
	wrong := wrongStates()
	wrong["a wrong Item behind right ones"] = itemsOf(itemOf(0, 1), goneOf(1, 1), itemOf(4, impl.MaxInc+1))
	wrong["a wrong Floor behind right Items"] = impl.State{Items: mixedState().Items, Floors: []impl.Floor{{Id: 4, Inc: 0}}}
	wrong["the most, and wrong"] = impl.State{Items: []impl.Item{itemOf(0, impl.MaxInc)}, Floors: []impl.Floor{{Id: 0, Inc: impl.MaxInc}}}
	for why, s := range wrong {
		for _, x := range sayings() {
			for _, id := range append(probedIds(), 91) {
				if got, how := x.say(s, id); how != impl.SyBad || !isZeroState(got) {
					t.Errorf("%s: %q of %d: %v, %d", why, x.name, id, got, how)
				}
			}
		}
	}
}

func TestNothingIsWrittenIntoWhatIsSaidTo(t *testing.T) {
	all := sayings()
	checkNothingWritten(t, append(ordinaryStates(), mixedState()), func(a impl.State, b impl.State) {
		for _, x := range all {
			for id := -1; id <= impl.MaxNodes; id++ {
				x.say(a, id)
			}
		}
	})
}

func TestWhatIsSaidIsNewMemory(t *testing.T) {
	for _, x := range sayings() {
		for _, s := range append(ordinaryStates(), mixedState()) {
			for id := range impl.MaxNodes {
				a, room := roomy(s)
				was := cloneState(room)
				got, _ := x.say(a, id)
				again, _ := x.say(a, id)
				want := cloneState(again)
				scribble(got)
				if !sameState(room, was) || !sameState(again, want) {
					t.Fatalf("%q: %v or another answer turned with the answer", x.name, s)
				}
				scribble(room)
				if !sameState(again, want) {
					t.Fatalf("%q: the answer turned with %v", x.name, s)
				}
			}
		}
	}
}

func TestTextsOfWhatIsSaidAreNewMemory(t *testing.T) {
	old, data := strings.Repeat("a", impl.MaxData), strings.Repeat("b", impl.MaxData)
	s := saidOf(1, impl.Entry{Inc: 2, Data: old})
	check := func(why string, from string, got impl.State, how int) {
		t.Helper()
		if how != impl.SyOk || got.Items[0].Entry.Data != from {
			t.Fatalf("%s: %v, %d", why, got, how)
		}
		if unsafe.StringData(got.Items[0].Entry.Data) == unsafe.StringData(from) {
			t.Errorf("%s shares a text", why)
		}
	}
	beat, how := impl.SayBeat(s, 1)
	check("SayBeat", old, beat, how)
	set, how := impl.SaySet(s, 1, data)
	check("SaySet", data, set, how)
	gone, how := impl.SayGone(s, 1)
	check("SayGone", old, gone, how)
}
