package tests

import (
	"math"
	"slices"
	"strings"
	"testing"
	"unsafe"

	"loop.example/g00487/impl"
)

// ranked: entries from the first to the last, each one behind all that stand above it. Each field that counts
// more turns while those that count less go back, so that it shows which part comes first.
var ranked = []impl.Entry{
	{Inc: math.MinInt, Rank: 9, Beat: 9, Ver: 9, Data: "z"},
	{Inc: -1, Rank: 9, Beat: 9, Ver: 9, Data: "z"},
	{Inc: 0, Rank: math.MaxInt, Beat: math.MaxInt, Ver: math.MaxInt, Data: "\xff"},
	{Inc: 1, Rank: math.MinInt, Beat: 100000, Ver: 1000, Data: "zzzzzzzz"},
	{Inc: 1, Rank: -1, Beat: 100000, Ver: 1000, Data: "zzzzzzzz"},
	{Inc: 1, Rank: impl.RkUp, Beat: math.MinInt, Ver: 1000, Data: "z"},
	{Inc: 1, Rank: impl.RkUp, Beat: -1, Ver: 1000, Data: "z"},
	{Inc: 1, Rank: impl.RkUp, Beat: 0, Ver: math.MinInt, Data: "z"},
	{Inc: 1, Rank: impl.RkUp, Beat: 0, Ver: -1, Data: "z"},
	{Inc: 1, Rank: impl.RkUp, Beat: 0, Ver: 0, Data: ""},
	{Inc: 1, Rank: impl.RkUp, Beat: 0, Ver: 0, Data: "\x00"},
	{Inc: 1, Rank: impl.RkUp, Beat: 0, Ver: 0, Data: "\x00\x00"},
	{Inc: 1, Rank: impl.RkUp, Beat: 0, Ver: 0, Data: "B"},
	{Inc: 1, Rank: impl.RkUp, Beat: 0, Ver: 0, Data: "a"},
	{Inc: 1, Rank: impl.RkUp, Beat: 0, Ver: 0, Data: "ab"},
	{Inc: 1, Rank: impl.RkUp, Beat: 0, Ver: 0, Data: "abc"},
	{Inc: 1, Rank: impl.RkUp, Beat: 0, Ver: 0, Data: "b"},
	{Inc: 1, Rank: impl.RkUp, Beat: 0, Ver: 0, Data: "b\x7f"},
	{Inc: 1, Rank: impl.RkUp, Beat: 0, Ver: 0, Data: "b\x80"},
	{Inc: 1, Rank: impl.RkUp, Beat: 0, Ver: 0, Data: "b\xff"},
	// As texts of runes these two would stand the other way round: the first is no rune at all.
	{Inc: 1, Rank: impl.RkUp, Beat: 0, Ver: 0, Data: "\xc0"},
	{Inc: 1, Rank: impl.RkUp, Beat: 0, Ver: 0, Data: "\xc3\xa9"},
	{Inc: 1, Rank: impl.RkUp, Beat: 0, Ver: 0, Data: "\xff"},
	{Inc: 1, Rank: impl.RkUp, Beat: 0, Ver: 1, Data: ""},
	{Inc: 1, Rank: impl.RkUp, Beat: 0, Ver: 9, Data: "y"},
	{Inc: 1, Rank: impl.RkUp, Beat: 0, Ver: 10, Data: "x"},
	{Inc: 1, Rank: impl.RkUp, Beat: 0, Ver: 1000, Data: ""},
	{Inc: 1, Rank: impl.RkUp, Beat: 0, Ver: math.MaxInt, Data: ""},
	{Inc: 1, Rank: impl.RkUp, Beat: 1, Ver: 0, Data: ""},
	{Inc: 1, Rank: impl.RkUp, Beat: 9, Ver: 5, Data: "y"},
	{Inc: 1, Rank: impl.RkUp, Beat: 10, Ver: 4, Data: "z"},
	{Inc: 1, Rank: impl.RkUp, Beat: 100000, Ver: 0, Data: ""},
	{Inc: 1, Rank: impl.RkUp, Beat: math.MaxInt, Ver: 0, Data: ""},
	{Inc: 1, Rank: impl.RkGone, Beat: 0, Ver: 0, Data: ""},
	{Inc: 1, Rank: impl.RkGone, Beat: 3, Ver: 0, Data: ""},
	{Inc: 1, Rank: 2, Beat: 0, Ver: 0, Data: ""},
	{Inc: 2, Rank: impl.RkUp, Beat: 0, Ver: 0, Data: ""},
	{Inc: 9, Rank: impl.RkGone, Beat: 9, Ver: 9, Data: "z"},
	{Inc: 10, Rank: impl.RkUp, Beat: 0, Ver: 0, Data: ""},
	{Inc: 1000, Rank: impl.RkUp, Beat: 0, Ver: 0, Data: ""},
	{Inc: 1001, Rank: impl.RkUp, Beat: 0, Ver: 0, Data: ""},
	{Inc: math.MaxInt, Rank: math.MinInt, Beat: math.MinInt, Ver: math.MinInt, Data: ""},
}

// smallEntries: every entry whose fields are each one of two or three.
func smallEntries() []impl.Entry {
	var out []impl.Entry
	for _, inc := range []int{1, 2} {
		for _, rank := range []int{impl.RkUp, impl.RkGone, 2} {
			for _, beat := range []int{0, 1} {
				for _, ver := range []int{0, 1} {
					for _, data := range []string{"", "a", "b"} {
						out = append(out, impl.Entry{Inc: inc, Rank: rank, Beat: beat, Ver: ver, Data: data})
					}
				}
			}
		}
	}
	return out
}

func checkPair(t *testing.T, a impl.Entry, b impl.Entry, want int) {
	t.Helper()
	if got := impl.EntryCmp(a, b); got != want {
		t.Errorf("EntryCmp(%q, %q) = %d, not %d", impl.EntryText(a), impl.EntryText(b), got, want)
	}
	if got := impl.Newer(a, b); got != (want == 1) {
		t.Errorf("Newer(%q, %q) = %v", impl.EntryText(a), impl.EntryText(b), got)
	}
	last := a
	if want == -1 {
		last = b
	}
	if got := impl.EntryMax(a, b); got != last {
		t.Errorf("EntryMax(%q, %q) = %#v", impl.EntryText(a), impl.EntryText(b), got)
	}
}

func TestRanksAreNumbered(t *testing.T) {
	if impl.RkUp != 0 || impl.RkGone != 1 {
		t.Error(impl.RkUp, impl.RkGone)
	}
	if impl.MaxInc != 1000 || impl.MaxBeat != 100000 || impl.MaxVer != 1000 || impl.MaxData != 8 {
		t.Error(impl.MaxInc, impl.MaxBeat, impl.MaxVer, impl.MaxData)
	}
}

func TestEntryOrder(t *testing.T) {
	for i, a := range ranked {
		for j, b := range ranked {
			want := 0
			if i < j {
				want = -1
			} else if i > j {
				want = 1
			}
			checkPair(t, a, b, want)
		}
	}
}

func TestOneFieldAlone(t *testing.T) {
	mid := impl.Entry{Inc: 5, Rank: impl.RkUp, Beat: 5, Ver: 5, Data: "m"}
	inc, rank, beat, ver, data := mid, mid, mid, mid, mid
	inc.Inc++
	rank.Rank = impl.RkGone
	beat.Beat++
	ver.Ver++
	data.Data = "n"
	for _, e := range []impl.Entry{inc, rank, beat, ver, data} {
		checkPair(t, mid, e, -1)
		checkPair(t, e, mid, 1)
		checkPair(t, e, e, 0)
	}
	// One step in a field counts more than one in any field named behind it.
	row := []impl.Entry{mid, data, ver, beat, rank, inc}
	for i, a := range row {
		for j := i + 1; j < len(row); j++ {
			checkPair(t, a, row[j], -1)
			checkPair(t, row[j], a, 1)
		}
	}
}

func TestTheSameByValue(t *testing.T) {
	a := impl.Entry{Inc: 3, Rank: impl.RkGone, Beat: 4, Ver: 5, Data: "abc"}
	b := impl.Entry{Inc: 3, Rank: impl.RkGone, Beat: 4, Ver: 5, Data: string([]byte{'a', 'b', 'c'})}
	checkPair(t, a, b, 0)
	checkPair(t, impl.Entry{}, impl.Entry{}, 0)
}

// byFields: the fields one by one, as lists that are held against each other.
func byFields(a impl.Entry, b impl.Entry) int {
	x := []int{a.Inc, a.Rank, a.Beat, a.Ver}
	y := []int{b.Inc, b.Rank, b.Beat, b.Ver}
	if c := slices.Compare(x, y); c != 0 {
		return c
	}
	return slices.Compare([]byte(a.Data), []byte(b.Data))
}

func TestAnyTwo(t *testing.T) {
	all := smallEntries()
	for _, a := range all {
		for _, b := range all {
			checkPair(t, a, b, byFields(a, b))
			if c := impl.EntryCmp(a, b); c != -impl.EntryCmp(b, a) || (c == 0) != (a == b) {
				t.Fatalf("%#v %#v: %d", a, b, c)
			}
			if impl.EntryMax(a, b) != impl.EntryMax(b, a) {
				t.Fatalf("%#v %#v: EntryMax hangs on the order", a, b)
			}
		}
	}
}

func TestAnyThree(t *testing.T) {
	all := smallEntries()
	for _, a := range all {
		for _, b := range all {
			for _, c := range all {
				if impl.Newer(a, b) && impl.Newer(b, c) && !impl.Newer(a, c) {
					t.Fatalf("%#v is behind %#v, that behind %#v", a, b, c)
				}
				if impl.EntryMax(impl.EntryMax(a, b), c) != impl.EntryMax(a, impl.EntryMax(b, c)) {
					t.Fatalf("EntryMax of %#v, %#v, %#v", a, b, c)
				}
			}
		}
	}
}

func TestEntryOkAtTheEdges(t *testing.T) {
	least := impl.Entry{Inc: 1}
	most := impl.Entry{Inc: impl.MaxInc, Rank: impl.RkGone, Beat: impl.MaxBeat, Ver: impl.MaxVer, Data: strings.Repeat("d", impl.MaxData)}
	type set struct {
		name string
		put  func(e *impl.Entry, n int)
		good []int
		bad  []int
	}
	sets := []set{
		{"Inc", func(e *impl.Entry, n int) { e.Inc = n }, []int{1, 2, 999, 1000}, []int{math.MinInt, -1, 0, 1001, math.MaxInt}},
		{"Rank", func(e *impl.Entry, n int) { e.Rank = n }, []int{0, 1}, []int{math.MinInt, -1, 2, 7, math.MaxInt}},
		{"Beat", func(e *impl.Entry, n int) { e.Beat = n }, []int{0, 1, 99999, 100000}, []int{math.MinInt, -1, 100001, math.MaxInt}},
		{"Ver", func(e *impl.Entry, n int) { e.Ver = n }, []int{0, 1, 999, 1000}, []int{math.MinInt, -1, 1001, math.MaxInt}},
		{"Data", func(e *impl.Entry, n int) { e.Data = strings.Repeat("\xff", n) }, []int{0, 1, 7, 8}, []int{9, 10, 256, 264, 65536}},
	}
	for _, whole := range []impl.Entry{least, most} {
		for _, s := range sets {
			for _, n := range s.good {
				e := whole
				if s.put(&e, n); !impl.EntryOk(e) {
					t.Errorf("%s %d is refused", s.name, n)
				}
			}
			for _, n := range s.bad {
				e := whole
				if s.put(&e, n); impl.EntryOk(e) {
					t.Errorf("%s %d is accepted", s.name, n)
				}
			}
		}
	}
	if impl.EntryOk(impl.Entry{}) {
		t.Error("the zero value is accepted")
	}
}

// The length of Data is in bytes: four of these runes fill it, five do not fit, though they are fewer than MaxData.
func TestDataIsCountedInBytes(t *testing.T) {
	if !impl.EntryOk(impl.Entry{Inc: 1, Data: "\u00e9\u00e9\u00e9\u00e9"}) {
		t.Error("eight bytes are refused")
	}
	if impl.EntryOk(impl.Entry{Inc: 1, Data: "\u00e9\u00e9\u00e9\u00e9\u00e9"}) {
		t.Error("ten bytes are accepted")
	}
}

func TestEntryText(t *testing.T) {
	for _, c := range []struct {
		e    impl.Entry
		want string
	}{
		{impl.Entry{Inc: 1, Beat: 90, Ver: 4, Data: "x"}, "1u90.4:x"},
		{impl.Entry{Inc: 1, Rank: impl.RkGone, Beat: 3}, "1g3.0:"},
		{impl.Entry{}, "0u0.0:"},
		{impl.Entry{Rank: 2}, "0?0.0:"},
		{impl.Entry{Rank: 7, Data: "?"}, "0?0.0:?"},
		{impl.Entry{Rank: -1}, "0?0.0:"},
		{impl.Entry{Rank: math.MaxInt}, "0?0.0:"},
		{impl.Entry{Inc: -1, Rank: impl.RkGone, Beat: -20, Ver: -300, Data: "a b"}, "-1g-20.-300:a b"},
		{impl.Entry{Inc: 1000, Rank: impl.RkUp, Beat: 100000, Ver: 1000, Data: "12345678"}, "1000u100000.1000:12345678"},
		{impl.Entry{Inc: 1001, Rank: impl.RkUp, Beat: 100001, Ver: 1001, Data: "123456789"}, "1001u100001.1001:123456789"},
		{impl.Entry{Inc: 1, Data: "\x00\x80\xff:."}, "1u0.0:\x00\x80\xff:."},
		{
			impl.Entry{Inc: math.MinInt, Rank: math.MinInt, Beat: math.MaxInt, Ver: math.MinInt},
			"-9223372036854775808?9223372036854775807.-9223372036854775808:",
		},
	} {
		if got := impl.EntryText(c.e); got != c.want {
			t.Errorf("EntryText(%#v) = %q, not %q", c.e, got, c.want)
		}
	}
}

func TestEntryMaxIsNewMemory(t *testing.T) {
	a := impl.Entry{Inc: 1, Data: strings.Repeat("a", 8)}
	b := impl.Entry{Inc: 2, Data: strings.Repeat("b", 8)}
	for _, got := range []impl.Entry{impl.EntryMax(a, b), impl.EntryMax(b, a), impl.EntryMax(b, b)} {
		if unsafe.StringData(got.Data) == unsafe.StringData(b.Data) {
			t.Error("Data is shared")
		}
	}
}
