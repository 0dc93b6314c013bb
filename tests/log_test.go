package tests

import (
	"fmt"
	"math"
	"slices"
	"strings"
	"testing"
	"unsafe"

	"loop.example/g00487/impl"
)

// history: the change of each number.
type history func(number int) impl.State

// eachItsOwn: of ten changes that follow each other no one has what another one has, so that each one that is left away shows.
func eachItsOwn(number int) impl.State {
	id := number % impl.MaxNodes
	if number%(2*impl.MaxNodes) < impl.MaxNodes {
		return saidOf(id, entryAt(500, number))
	}
	return floorsOf(impl.Floor{Id: id, Inc: 1 + number%400})
}

// rising: the last change covers all that were ahead of it. falling: the first one covers all behind it.
func rising(number int) impl.State { return saidOf(2, impl.Entry{Inc: 1, Beat: number}) }
func falling(number int) impl.State {
	return saidOf(2, impl.Entry{Inc: 1, Beat: impl.MaxBeat - number})
}

// comingAndGoing: one joins, goes, and is cleared away, again and again.
func comingAndGoing(number int) impl.State {
	inc := 1 + number/3%impl.MaxInc
	switch number % 3 {
	case 0:
		return itemsOf(itemOf(1, inc))
	case 1:
		return itemsOf(goneOf(1, inc))
	}
	return floorsOf(impl.Floor{Id: 1, Inc: inc})
}

func histories() []history {
	some := rightStates()[:12]
	inTurn := func(number int) impl.State { return some[number%len(some)] }
	return []history{eachItsOwn, inTurn, rising, falling, comingAndGoing}
}

// changes: those of the numbers from one above from to upTo.
func (of history) changes(from int, upTo int) []impl.State {
	var out []impl.State
	for number := from + 1; number <= upTo; number++ {
		out = append(out, cloneState(of(number)))
	}
	return out
}

func (of history) log(room int, from int, size int) impl.Log {
	return impl.Log{Cap: room, From: from, List: of.changes(from, from+size)}
}

// joinedByHand: the states joined node by node, without the program.
func joinedByHand(list []impl.State) impl.State {
	var out impl.State
	for _, s := range list {
		out = joinBySlots(out, s)
	}
	return out
}

func sameLog(a impl.Log, b impl.Log) bool {
	return a.Cap == b.Cap && a.From == b.From && slices.EqualFunc(a.List, b.List, sameState)
}

func cloneStates(list []impl.State) []impl.State {
	var out []impl.State
	for _, s := range list {
		out = append(out, cloneState(s))
	}
	return out
}

func cloneLog(l impl.Log) impl.Log {
	return impl.Log{Cap: l.Cap, From: l.From, List: cloneStates(l.List)}
}

// rightLogs: each Cap with each number of changes, from the least number to the greatest.
func rightLogs(of history) []impl.Log {
	var out []impl.Log
	for room := 1; room <= impl.MaxLog; room++ {
		for size := 0; size <= room; size++ {
			for _, from := range []int{0, 1, 7, impl.MaxSeq / 2, impl.MaxSeq - size - 1, impl.MaxSeq - size} {
				out = append(out, of.log(room, from, size))
			}
		}
	}
	return out
}

// wrongLogs: logs that are not LogOk, by why.
func wrongLogs() map[string]impl.Log {
	of := history(eachItsOwn)
	out := map[string]impl.Log{
		"zero":                             {},
		"Cap 0":                            of.log(0, 3, 0),
		"Cap 0 and one":                    of.log(0, 3, 1),
		"Cap below 0":                      of.log(-1, 3, 0),
		"Cap below 0 and some":             of.log(-1, 3, 3),
		"Cap far below 0":                  of.log(math.MinInt, 0, 1),
		"Cap too great":                    of.log(impl.MaxLog+1, 0, 0),
		"Cap too great and some":           of.log(impl.MaxLog+1, 0, 3),
		"Cap too great and full":           of.log(impl.MaxLog+1, 0, impl.MaxLog+1),
		"Cap far too great":                of.log(math.MaxInt, 0, 2),
		"one more than Cap 1":              of.log(1, 0, 2),
		"one more than Cap":                of.log(3, 5, 4),
		"one more than the greatest Cap":   of.log(impl.MaxLog, 5, impl.MaxLog+1),
		"many more than Cap":               of.log(2, 0, 100),
		"From below 0":                     of.log(4, -1, 0),
		"From below 0 and some":            of.log(4, -1, 3),
		"From far below 0":                 {Cap: 4, From: math.MinInt, List: of.changes(0, 2)},
		"From too great":                   of.log(4, impl.MaxSeq+1, 0),
		"From far too great":               {Cap: 4, From: math.MaxInt, List: nil},
		"From that wraps round":            {Cap: 4, From: math.MaxInt, List: of.changes(0, 2)},
		"the greatest From and one":        {Cap: 4, From: impl.MaxSeq, List: of.changes(0, 1)},
		"one above the greatest number":    {Cap: 4, From: impl.MaxSeq - 2, List: of.changes(0, 3)},
		"full above the greatest number":   {Cap: 4, From: impl.MaxSeq - 3, List: of.changes(0, 4)},
		"many above the greatest number":   {Cap: impl.MaxLog, From: impl.MaxSeq, List: of.changes(0, impl.MaxLog)},
		"wrong in all":                     {Cap: -1, From: -1, List: []impl.State{itemsOf(itemOf(9, 9))}},
		"lists that are empty and not nil": {Cap: 0, From: 1, List: []impl.State{{Items: []impl.Item{}, Floors: []impl.Floor{}}}},
	}
	for why, s := range moreWrongStates() {
		first, middle, last, alone := of.log(5, 2, 4), of.log(5, 2, 4), of.log(4, 2, 4), of.log(1, 2, 1)
		first.List[0], middle.List[2], last.List[3], alone.List[0] = s, s, s, s
		out["the first change: "+why] = first
		out["a middle change: "+why] = middle
		out["the last change: "+why] = last
		out["the only change: "+why] = alone
	}
	return out
}

// probedNumbers: all about what a log could have, and what is far off.
func probedNumbers(l impl.Log) []int {
	out := []int{math.MinInt, -1, 0, 1, impl.MaxSeq, impl.MaxSeq + 1, math.MaxInt}
	for d := -3; d <= len(l.List)+3; d++ {
		out = append(out, l.From+d)
	}
	return out
}

func TestLimitsOfTheLog(t *testing.T) {
	if impl.MaxLog != 8 || impl.MaxSeq != 100000 {
		t.Error(impl.MaxLog, impl.MaxSeq)
	}
}

func TestLogOkAtTheEdges(t *testing.T) {
	three := history(eachItsOwn).changes(0, 3)
	nine := history(eachItsOwn).changes(0, 9)
	for _, c := range []struct {
		why  string
		l    impl.Log
		want bool
	}{
		{"Cap below 0", impl.Log{Cap: -1}, false},
		{"Cap 0", impl.Log{Cap: 0}, false},
		{"Cap 1", impl.Log{Cap: 1}, true},
		{"Cap 8", impl.Log{Cap: 8}, true},
		{"Cap 9", impl.Log{Cap: 9}, false},
		{"fewer than Cap", impl.Log{Cap: 4, List: three}, true},
		{"Cap of them", impl.Log{Cap: 3, List: three}, true},
		{"more than Cap", impl.Log{Cap: 2, List: three}, false},
		{"the most of all", impl.Log{Cap: 8, List: nine[:8]}, true},
		{"one more than the most", impl.Log{Cap: 8, List: nine}, false},
		{"From below 0", impl.Log{Cap: 4, From: -1, List: three}, false},
		{"From 0", impl.Log{Cap: 4, From: 0, List: three}, true},
		{"the greatest From", impl.Log{Cap: 4, From: 100000}, true},
		{"From too great", impl.Log{Cap: 4, From: 100001}, false},
		{"up to the greatest number", impl.Log{Cap: 4, From: 99997, List: three}, true},
		{"above the greatest number", impl.Log{Cap: 4, From: 99998, List: three}, false},
		{"an empty list", impl.Log{Cap: 1, List: []impl.State{}}, true},
		{"changes that say nothing", impl.Log{Cap: 2, List: make([]impl.State, 2)}, true},
	} {
		if got := impl.LogOk(c.l); got != c.want {
			t.Errorf("%s: %v", c.why, got)
		}
	}
}

func TestLogOkOfEachCapAndFromAndSize(t *testing.T) {
	caps := []int{math.MinInt, -2, -1, 0, 1, 2, 3, 4, 5, 6, 7, 8, 9, 10, math.MaxInt}
	for _, room := range caps {
		for size := 0; size <= 11; size++ {
			list := history(eachItsOwn).changes(0, size)
			froms := []int{math.MinInt, -size - 1, -size, -1, 0, 1, 99999, 100000, 100001, math.MaxInt - size, math.MaxInt}
			for near := 99985; near <= 100003; near++ {
				froms = append(froms, near)
			}
			for _, from := range froms {
				want := 1 <= room && room <= 8 && size <= room && 0 <= from && from <= 100000-size
				l := impl.Log{Cap: room, From: from, List: list}
				if got := impl.LogOk(l); got != want {
					t.Errorf("Cap %d, From %d, %d changes: %v", room, from, size, got)
				}
			}
		}
	}
}

func TestLogOkOfRightAndWrongLogs(t *testing.T) {
	for _, of := range histories() {
		for _, l := range rightLogs(of) {
			if !impl.LogOk(l) {
				t.Fatalf("%v is refused", l)
			}
		}
	}
	for why, l := range wrongLogs() {
		if impl.LogOk(l) {
			t.Errorf("%s is accepted", why)
		}
	}
}

func TestLogOkWithAWrongChangeAtEachPlace(t *testing.T) {
	for why, s := range moreWrongStates() {
		for size := 1; size <= impl.MaxLog; size++ {
			for at := range size {
				l := history(eachItsOwn).log(impl.MaxLog, 5, size)
				l.List[at] = s
				if impl.LogOk(l) {
					t.Errorf("%s at place %d of %d is accepted", why, at, size)
				}
			}
		}
	}
}

func TestLogSeq(t *testing.T) {
	for _, of := range histories() {
		for _, l := range rightLogs(of) {
			if got := impl.LogSeq(l); got != l.From+len(l.List) {
				t.Fatalf("LogSeq(%v) = %d", l, got)
			}
		}
	}
	for why, l := range wrongLogs() {
		if got := impl.LogSeq(l); got != 0 {
			t.Errorf("%s: %d", why, got)
		}
	}
}

// addedByHand: the log with d behind all, as the document words it; only where that may be.
func addedByHand(l impl.Log, d impl.State) impl.Log {
	out := cloneLog(l)
	out.List = append(out.List, d)
	if len(out.List) > out.Cap {
		out.List = out.List[1:]
		out.From++
	}
	return out
}

func TestLogAdd(t *testing.T) {
	news := append(rightStates()[:12], eachItsOwn(3), rising(impl.MaxBeat))
	for _, of := range histories() {
		for _, l := range rightLogs(of) {
			for _, d := range news {
				got, ok := impl.LogAdd(l, d)
				want, wantOk := addedByHand(l, d), true
				if l.From+len(l.List) == impl.MaxSeq {
					want, wantOk = l, false
				}
				if ok != wantOk || !sameLog(got, want) || !impl.LogOk(got) {
					t.Fatalf("LogAdd(%v, %v) = %v, %v, not %v, %v", l, d, got, ok, want, wantOk)
				}
			}
		}
	}
}

func TestWhichChangeGoes(t *testing.T) {
	a, b, c, d := rising(1), rising(2), rising(3), rising(4)
	for _, x := range []struct {
		why  string
		l    impl.Log
		want impl.Log
	}{
		{"into an empty log", impl.Log{Cap: 2}, impl.Log{Cap: 2, List: []impl.State{d}}},
		{"into an empty log of Cap 1", impl.Log{Cap: 1, From: 6}, impl.Log{Cap: 1, From: 6, List: []impl.State{d}}},
		{"into one with room", impl.Log{Cap: 3, From: 6, List: []impl.State{a, b}}, impl.Log{Cap: 3, From: 6, List: []impl.State{a, b, d}}},
		{"into a full one", impl.Log{Cap: 3, From: 6, List: []impl.State{a, b, c}}, impl.Log{Cap: 3, From: 7, List: []impl.State{b, c, d}}},
		{"into a full one of Cap 1", impl.Log{Cap: 1, From: 6, List: []impl.State{a}}, impl.Log{Cap: 1, From: 7, List: []impl.State{d}}},
		{"what is there already", impl.Log{Cap: 2, List: []impl.State{d, d}}, impl.Log{Cap: 2, From: 1, List: []impl.State{d, d}}},
	} {
		if got, ok := impl.LogAdd(x.l, d); !ok || !sameLog(got, x.want) {
			t.Errorf("%s: %v, %v", x.why, got, ok)
		}
	}
}

// Told again and again, a log has the newest changes, as many as it may, each under its number.
func TestLogAddAgainAndAgain(t *testing.T) {
	for _, of := range histories() {
		for room := 1; room <= impl.MaxLog; room++ {
			l := impl.Log{Cap: room}
			for number := 1; number <= 3*impl.MaxLog; number++ {
				next, ok := impl.LogAdd(l, of(number))
				size := min(number, room)
				if !ok || !sameLog(next, of.log(room, number-size, size)) || impl.LogSeq(next) != number {
					t.Fatalf("change %d in a log of %d: %v, %v", number, room, next, ok)
				}
				l = next
			}
		}
	}
}

func TestLogAddAtTheGreatestNumber(t *testing.T) {
	of := history(eachItsOwn)
	for room := 1; room <= impl.MaxLog; room++ {
		for ahead := 0; ahead <= impl.MaxLog+2; ahead++ {
			l := impl.Log{Cap: room, From: impl.MaxSeq - ahead}
			for number := impl.MaxSeq - ahead + 1; number <= impl.MaxSeq; number++ {
				next, ok := impl.LogAdd(l, of(number))
				if !ok || impl.LogSeq(next) != number {
					t.Fatalf("change %d in a log of %d: %v, %v", number, room, next, ok)
				}
				l = next
			}
			size := min(ahead, room)
			if !sameLog(l, of.log(room, impl.MaxSeq-size, size)) {
				t.Fatalf("a log of %d up to the greatest number: %v", room, l)
			}
			for range 2 {
				if got, ok := impl.LogAdd(l, of(1)); ok || !sameLog(got, l) {
					t.Fatalf("behind the greatest number in a log of %d: %v, %v", room, got, ok)
				}
			}
		}
	}
}

func TestLogAddOfWhatIsWrong(t *testing.T) {
	for why, bad := range moreWrongStates() {
		for _, l := range rightLogs(eachItsOwn) {
			if got, ok := impl.LogAdd(l, bad); ok || !sameLog(got, l) {
				t.Fatalf("%s into %v: %v, %v", why, l, got, ok)
			}
		}
	}
	for why, l := range wrongLogs() {
		for _, d := range []impl.State{{}, rising(3), mixedState(), wrongStates()["Floor twice"]} {
			if got, ok := impl.LogAdd(l, d); ok || !sameLog(got, l) {
				t.Errorf("%v into a log with %s: %v, %v", d, why, got, ok)
			}
		}
	}
}

func TestLogSinceEachNumber(t *testing.T) {
	for _, of := range histories() {
		for _, l := range rightLogs(of) {
			for _, seq := range probedNumbers(l) {
				var want impl.State
				wantOk := l.From <= seq && seq <= l.From+len(l.List)
				if wantOk {
					want = joinedByHand(l.List[seq-l.From:])
				}
				if got, ok := impl.LogSince(l, seq); ok != wantOk || !sameState(got, want) {
					t.Fatalf("LogSince(%v, %d) = %v, %v, not %v, %v", l, seq, got, ok, want, wantOk)
				}
			}
		}
	}
}

func TestLogSinceInWords(t *testing.T) {
	l := impl.Log{Cap: 5, From: 3, List: []impl.State{
		saidOf(0, impl.Entry{Inc: 2, Beat: 7}), saidOf(4, impl.Entry{Inc: 1, Data: "x"}), saidOf(0, impl.Entry{Inc: 2, Beat: 3}), floorsOf(impl.Floor{Id: 4, Inc: 1}),
	}}
	for _, c := range []struct {
		seq  int
		want string
		ok   bool
	}{
		{-1, "", false}, {0, "", false}, {2, "", false},
		{3, "0=2u7.0: -4<1", true},
		{4, "0=2u3.0: -4<1", true},
		{5, "0=2u3.0: -4<1", true},
		{6, "-4<1", true},
		{7, "", true},
		{8, "", false},
	} {
		if got, ok := impl.LogSince(l, c.seq); ok != c.ok || impl.StateText(got) != c.want {
			t.Errorf("since %d: %q, %v", c.seq, impl.StateText(got), ok)
		}
	}
}

// Each change has something of its own, so that each one shows that is left away, or told without being asked for.
func TestLogSinceHasEachChangeAboveAndNoneBeneath(t *testing.T) {
	for room := 1; room <= impl.MaxLog; room++ {
		for from := 0; from < 10; from++ {
			l := history(eachItsOwn).log(room, from, room)
			for seq := from; seq <= from+room; seq++ {
				got, _ := impl.LogSince(l, seq)
				for number := from + 1; number <= from+room; number++ {
					if beneath := impl.StateLeq(eachItsOwn(number), got); beneath != (number > seq) {
						t.Fatalf("change %d of %v since %d: %v", number, l, seq, got)
					}
				}
			}
		}
	}
}

func TestLogDrop(t *testing.T) {
	for _, of := range histories() {
		for _, l := range rightLogs(of) {
			for _, seq := range probedNumbers(l) {
				want := l
				if l.From <= seq && seq <= l.From+len(l.List) {
					want = impl.Log{Cap: l.Cap, From: seq, List: l.List[seq-l.From:]}
				}
				got := impl.LogDrop(l, seq)
				if !sameLog(got, want) || !impl.LogOk(got) || impl.LogSeq(got) != impl.LogSeq(l) {
					t.Fatalf("LogDrop(%v, %d) = %v, not %v", l, seq, got, want)
				}
			}
		}
	}
}

func TestWhatIsDroppedIsNotKept(t *testing.T) {
	for _, of := range histories() {
		for _, l := range rightLogs(of) {
			for seq := l.From; seq <= l.From+len(l.List); seq++ {
				left := impl.LogDrop(l, seq)
				for asked := l.From - 1; asked <= l.From+len(l.List)+1; asked++ {
					was, wasOk := impl.LogSince(l, asked)
					got, ok := impl.LogSince(left, asked)
					if asked < seq {
						was, wasOk = impl.State{}, false
					}
					if ok != wasOk || !sameState(got, was) {
						t.Fatalf("%v dropped up to %d, since %d: %v, %v", l, seq, asked, got, ok)
					}
				}
			}
		}
	}
}

func TestAnswersOfWrongLogs(t *testing.T) {
	for why, l := range wrongLogs() {
		for _, seq := range probedNumbers(l) {
			if got, ok := impl.LogSince(l, seq); ok || !isZeroState(got) {
				t.Errorf("%s: since %d: %v, %v", why, seq, got, ok)
			}
			if got := impl.LogDrop(l, seq); !sameLog(got, l) {
				t.Errorf("%s: dropped up to %d: %v", why, seq, got)
			}
		}
	}
}

// checkLog holds a log against all that was ever said: since each number from least on all of it is told, since any other one that it is not kept.
func checkLog(t *testing.T, l impl.Log, said []impl.State, least int) {
	t.Helper()
	if !impl.LogOk(l) || impl.LogSeq(l) != len(said) {
		t.Fatalf("%v behind %d changes", l, len(said))
	}
	all := joinedByHand(said)
	for seq := -1; seq <= len(said)+1; seq++ {
		since, ok := impl.LogSince(l, seq)
		if ok != (least <= seq && seq <= len(said)) {
			t.Fatalf("%v, of which the changes above %d are kept, since %d: %v", l, least, seq, ok)
		}
		if !ok {
			if !isZeroState(since) {
				t.Fatalf("%v since %d: %v beside a false", l, seq, since)
			}
			continue
		}
		if !sameState(since, joinedByHand(said[seq:])) {
			t.Fatalf("%v since %d: %v", l, seq, since)
		}
		if got := mustJoin(t, joinedByHand(said[:seq]), since); !sameState(got, all) {
			t.Fatalf("%v since %d, joined with what was said before: %v, not %v", l, seq, got, all)
		}
	}
}

func TestWhatWasSaidSinceIsToldOrItIsToldThatItIsNotKept(t *testing.T) {
	for _, of := range histories() {
		for room := 1; room <= impl.MaxLog; room++ {
			l, said := impl.Log{Cap: room}, []impl.State(nil)
			checkLog(t, l, said, 0)
			for number := 1; number <= 2*impl.MaxLog+3; number++ {
				l, _ = impl.LogAdd(l, of(number))
				said = append(said, of(number))
				checkLog(t, l, said, max(0, number-room))
			}
		}
	}
}

// Each order of some steps, each of which says something or drops up to some number, kept or not.
func TestEachOrderOfSayingAndDropping(t *testing.T) {
	for room := 1; room <= 3; room++ {
		goOn(t, eachItsOwn, impl.Log{Cap: room}, nil, 0, 6)
		goOn(t, comingAndGoing, impl.Log{Cap: room}, nil, 0, 5)
	}
}

func goOn(t *testing.T, of history, l impl.Log, said []impl.State, least int, steps int) {
	t.Helper()
	checkLog(t, l, said, least)
	if steps == 0 {
		return
	}
	d := of(len(said) + 1)
	more, ok := impl.LogAdd(l, d)
	if !ok {
		t.Fatalf("LogAdd(%v, %v) is false", l, d)
	}
	goOn(t, of, more, append(slices.Clip(said), d), max(least, len(said)+1-l.Cap), steps-1)
	for seq := least - 1; seq <= len(said)+1; seq++ {
		now := least
		if least <= seq && seq <= len(said) {
			now = seq
		}
		goOn(t, of, impl.LogDrop(l, seq), said, now, steps-1)
	}
}

// roomyLog: a log in memory of its own, with spare room behind its list and behind each list of each change.
type roomyLog struct {
	log   impl.Log
	list  []impl.State // with the spare room
	heads []impl.State // what stands in list, in other memory
	rooms []impl.State // of each in list its lists with their spare room
	was   []impl.State // what stands in rooms, in other memory
}

func newRoomyLog(l impl.Log) roomyLog {
	var out roomyLog
	for _, s := range append(cloneStates(l.List), mixedState(), rising(91)) {
		a, room := roomy(s)
		out.list = append(out.list, a)
		out.rooms = append(out.rooms, room)
	}
	out.heads, out.was = slices.Clone(out.list), cloneStates(out.rooms)
	out.log = impl.Log{Cap: l.Cap, From: l.From, List: out.list[:len(l.List)]}
	return out
}

// untouched: nothing was written into it, not even the same in other memory.
func (r roomyLog) untouched() bool {
	for i, s := range r.list {
		h := r.heads[i]
		if unsafe.SliceData(s.Items) != unsafe.SliceData(h.Items) || len(s.Items) != len(h.Items) ||
			unsafe.SliceData(s.Floors) != unsafe.SliceData(h.Floors) || len(s.Floors) != len(h.Floors) {
			return false
		}
	}
	return slices.EqualFunc(r.rooms, r.was, sameState)
}

// scribble turns all that it holds, and all spare room.
func (r roomyLog) scribble() {
	for i := range r.list {
		scribble(r.rooms[i])
		r.list[i] = impl.State{Floors: []impl.Floor{{Id: 77, Inc: 77}}}
	}
}

// memoryLogs: logs that are empty, full, with room, at the greatest number, and wrong in some ways.
func memoryLogs() []impl.Log {
	of := history(comingAndGoing)
	out := []impl.Log{{Cap: 1}, {Cap: 4, From: 9}, {Cap: 4, From: impl.MaxSeq}, {Cap: 3, List: []impl.State{{}, mixedState(), {}}}}
	for _, room := range []int{1, 3, impl.MaxLog} {
		out = append(out, of.log(room, 2, room), of.log(room, 2, room-1), of.log(room, impl.MaxSeq-room, room))
	}
	for _, why := range []string{"zero", "Cap 0 and one", "one more than Cap", "From below 0 and some", "From that wraps round",
		"one above the greatest number", "the first change: Item twice", "a middle change: Floor twice", "the last change: Item at its Floor"} {
		out = append(out, wrongLogs()[why])
	}
	return out
}

func TestNothingIsWrittenIntoLogs(t *testing.T) {
	for _, l := range memoryLogs() {
		for _, d := range []impl.State{{}, mixedState(), rising(4), wrongStates()["Items not ascending"]} {
			r := newRoomyLog(l)
			added, room := roomy(d)
			was := cloneState(room)
			impl.LogOk(r.log)
			impl.LogSeq(r.log)
			impl.LogAdd(r.log, added)
			for _, seq := range probedNumbers(l) {
				impl.LogSince(r.log, seq)
				impl.LogDrop(r.log, seq)
			}
			if !r.untouched() || !sameState(room, was) {
				t.Fatalf("%v or %v was written into", l, d)
			}
		}
	}
}

// What an answer holds turns with nothing that is written into the arguments later on, nor into another answer.
func TestLogsAreNewMemory(t *testing.T) {
	for _, l := range memoryLogs() {
		for _, d := range []impl.State{{}, mixedState(), wrongStates()["Items not ascending"]} {
			checkNewLog(t, l, d, func(l impl.Log, d impl.State) impl.Log {
				got, _ := impl.LogAdd(l, d)
				return got
			})
		}
		for _, seq := range probedNumbers(l) {
			checkNewLog(t, l, impl.State{}, func(l impl.Log, d impl.State) impl.Log { return impl.LogDrop(l, seq) })
			checkNewLog(t, l, impl.State{}, func(l impl.Log, d impl.State) impl.Log {
				got, _ := impl.LogSince(l, seq)
				return impl.Log{List: []impl.State{got}}
			})
		}
	}
}

func checkNewLog(t *testing.T, l impl.Log, d impl.State, call func(l impl.Log, d impl.State) impl.Log) {
	t.Helper()
	r := newRoomyLog(l)
	added, room := roomy(d)
	was := cloneState(room)
	got, again := call(r.log, added), call(r.log, added)
	want := cloneLog(call(cloneLog(l), cloneState(d)))
	if !sameLog(got, want) || !sameLog(again, want) {
		t.Fatalf("%v, %v: %v and %v, not %v as without room behind them", l, d, got, again, want)
	}
	for _, s := range got.List {
		scribble(s)
	}
	for i := range got.List[:cap(got.List)] {
		got.List[:cap(got.List)][i] = wrongStates()["Floor twice"]
	}
	if !r.untouched() || !sameState(room, was) || !sameLog(again, want) {
		t.Fatalf("%v, %v or another answer turned with the answer", l, d)
	}
	r.scribble()
	scribble(room)
	if !sameLog(again, want) {
		t.Fatalf("the answer turned with %v, %v", l, d)
	}
}

// span: a piece of memory, held by a pointer so that it stays where it is.
type span struct {
	at   unsafe.Pointer
	size uintptr
}

func spanOf[T any](list []T) span {
	var one T
	return span{unsafe.Pointer(unsafe.SliceData(list)), uintptr(cap(list)) * unsafe.Sizeof(one)}
}

func (a span) meets(b span) bool {
	x, y := uintptr(a.at), uintptr(b.at)
	return a.size > 0 && b.size > 0 && x < y+b.size && y < x+a.size
}

func listsOf(s impl.State) []span { return []span{spanOf(s.Items), spanOf(s.Floors)} }

func textsOf(s impl.State) []span {
	var out []span
	for _, x := range s.Items {
		out = append(out, span{unsafe.Pointer(unsafe.StringData(x.Entry.Data)), uintptr(len(x.Entry.Data))})
	}
	return out
}

func listsOfLog(l impl.Log) []span {
	out := []span{spanOf(l.List)}
	for _, s := range l.List {
		out = append(out, listsOf(s)...)
	}
	return out
}

func textsOfLog(l impl.Log) []span {
	var out []span
	for _, s := range l.List {
		out = append(out, textsOf(s)...)
	}
	return out
}

// checkSpansApart: no two lists of the answer share memory, and neither do its lists or texts and what was given.
func checkSpansApart(t *testing.T, why string, lists []span, texts []span, given []span) {
	t.Helper()
	for i, a := range lists {
		for _, b := range lists[:i] {
			if a.meets(b) {
				t.Errorf("%s: two lists of the answer share memory", why)
			}
		}
	}
	for _, a := range slices.Concat(lists, texts) {
		if slices.ContainsFunc(given, a.meets) {
			t.Errorf("%s: the answer shares memory with an argument", why)
		}
	}
}

func checkApart(t *testing.T, why string, answer impl.Log, given impl.Log, d impl.State) {
	t.Helper()
	theirs := slices.Concat(listsOfLog(given), textsOfLog(given), listsOf(d), textsOf(d))
	checkSpansApart(t, why, listsOfLog(answer), textsOfLog(answer), theirs)
}

// tangledLogs: logs whose changes share their lists with each other, or are pieces of one.
func tangledLogs() map[string]impl.Log {
	text := strings.Repeat("t", impl.MaxData)
	var items []impl.Item
	var floors []impl.Floor
	for id := range impl.MaxNodes {
		items = append(items, impl.Item{Id: id, Entry: impl.Entry{Inc: 9, Data: text}})
		floors = append(floors, impl.Floor{Id: id, Inc: 2})
	}
	whole := impl.State{Items: items, Floors: floors}
	var pieces []impl.State
	for id := range impl.MaxNodes {
		pieces = append(pieces, impl.State{Items: items[id : id+1], Floors: floors[:id]})
	}
	return map[string]impl.Log{
		"the same change again and again": {Cap: 4, From: 5, List: []impl.State{whole, whole, whole}},
		"the same, full":                  {Cap: 3, From: 5, List: []impl.State{whole, whole, whole}},
		"pieces of one list":              {Cap: impl.MaxLog, From: 5, List: pieces},
		"pieces of one list, full":        {Cap: impl.MaxNodes, From: 5, List: pieces},
		"at the greatest number":          {Cap: impl.MaxLog, From: impl.MaxSeq - 3, List: pieces[2:]},
		"not LogOk":                       {Cap: 2, From: 5, List: pieces},
		"not LogOk by a change":           {Cap: 4, From: 5, List: []impl.State{whole, itemsOf(items[3], items[1]), whole}},
	}
}

func TestNoTwoListsOfALogShareMemory(t *testing.T) {
	for why, l := range tangledLogs() {
		was := cloneLog(l)
		for i, d := range append(slices.Clone(l.List), mixedState(), impl.State{Items: l.List[0].Items[:0]}) {
			got, _ := impl.LogAdd(l, d)
			checkApart(t, fmt.Sprint(why, ", LogAdd of ", i), got, l, d)
		}
		for _, seq := range probedNumbers(l) {
			checkApart(t, fmt.Sprint(why, ", LogDrop of ", seq), impl.LogDrop(l, seq), l, impl.State{})
			got, _ := impl.LogSince(l, seq)
			checkApart(t, fmt.Sprint(why, ", LogSince of ", seq), impl.Log{List: []impl.State{got}}, l, impl.State{})
		}
		if !sameLog(l, was) {
			t.Errorf("%s: %v became %v", why, was, l)
		}
	}
}

// Two logs that grow out of one do not grow into each other.
func TestLogsThatGrowOutOfOne(t *testing.T) {
	for room := 1; room <= impl.MaxLog; room++ {
		for size := 0; size <= room; size++ {
			base := history(eachItsOwn).log(room, 3, size)
			l := impl.LogDrop(base, 3)
			one, _ := impl.LogAdd(l, rising(1))
			two, _ := impl.LogAdd(l, rising(2))
			three, _ := impl.LogAdd(impl.LogDrop(one, impl.LogSeq(one)), rising(3))
			if !sameLog(l, base) || !sameLog(one, addedByHand(base, rising(1))) || !sameLog(two, addedByHand(base, rising(2))) {
				t.Errorf("out of %v: %v and %v", base, one, two)
			}
			if !sameLog(three, impl.Log{Cap: room, From: 4 + size, List: []impl.State{rising(3)}}) {
				t.Errorf("out of %v: %v", one, three)
			}
		}
	}
}
