package tests

import (
	"fmt"
	"math"
	"slices"
	"strings"
	"testing"
	"unsafe"

	"loop.example/g00487/impl"
)

func markOf(id int, inc int) impl.Mark { return impl.Mark{Id: id, Inc: inc} }

// marksAt: a Mark for each place at which there is a number above 0.
func marksAt(incs ...int) []impl.Mark {
	var out []impl.Mark
	for id, inc := range incs {
		if inc > 0 {
			out = append(out, markOf(id, inc))
		}
	}
	return out
}

// marksOkByHand holds each two of them against each other.
func marksOkByHand(list []impl.Mark) bool {
	for i, m := range list {
		if m.Id < 0 || m.Id > 4 || m.Inc < 1 || m.Inc > 1000 {
			return false
		}
		for _, behind := range list[i+1:] {
			if behind.Id <= m.Id {
				return false
			}
		}
	}
	return true
}

// wrongMarks: lists that are not MarksOk, by why.
func wrongMarks() map[string][]impl.Mark {
	return map[string][]impl.Mark{
		"a zero one":                       {{}},
		"of -1":                            {markOf(-1, 1)},
		"of far below 0":                   {markOf(math.MinInt, 1)},
		"of none":                          {markOf(impl.MaxNodes, 1)},
		"of far above":                     {markOf(math.MaxInt, 1)},
		"of -1 ahead of right ones":        {markOf(-1, 900), markOf(0, 900), markOf(1, 900)},
		"of none behind right ones":        {markOf(0, 900), markOf(4, 900), markOf(5, 900)},
		"Inc 0":                            {markOf(0, 0)},
		"Inc below 0":                      {markOf(0, -1)},
		"Inc too great":                    {markOf(0, impl.MaxInc+1)},
		"Inc far below 0":                  {markOf(2, math.MinInt)},
		"Inc far too great":                {markOf(2, math.MaxInt)},
		"Inc 0 ahead of right ones":        {markOf(0, 0), markOf(2, 900), markOf(4, 900)},
		"Inc 0 among right ones":           {markOf(0, 900), markOf(2, 0), markOf(4, 900)},
		"Inc 0 behind right ones":          {markOf(0, 900), markOf(2, 900), markOf(4, 0)},
		"Inc too great behind right ones":  {markOf(0, 900), markOf(2, 900), markOf(4, 1001)},
		"one node twice":                   {markOf(1, 900), markOf(1, 900)},
		"one node twice, less":             {markOf(1, 900), markOf(1, 899)},
		"one node twice, more":             {markOf(1, 899), markOf(1, 900)},
		"one node twice, not side by side": {markOf(1, 900), markOf(2, 900), markOf(1, 900)},
		"one node twice, at the end":       {markOf(0, 900), markOf(4, 900), markOf(4, 900)},
		"descending":                       {markOf(4, 900), markOf(3, 900)},
		"the last two descending":          {markOf(0, 900), markOf(3, 900), markOf(2, 900)},
		"the first two descending":         {markOf(3, 900), markOf(0, 900), markOf(4, 900)},
		"more than there are nodes":        append(marksAt(9, 9, 9, 9, 9), markOf(5, 9)),
	}
}

func TestMarksOkAtTheEdges(t *testing.T) {
	for why, list := range map[string][]impl.Mark{
		"nil":                nil,
		"an empty list":      {},
		"the first node":     {markOf(0, 7)},
		"the last node":      {markOf(4, 7)},
		"the least Inc":      {markOf(2, 1)},
		"the greatest Inc":   {markOf(2, 1000)},
		"side by side":       {markOf(1, 7), markOf(2, 7)},
		"first and last":     {markOf(0, 1000), markOf(4, 1)},
		"all":                marksAt(1, 1000, 1, 1000, 1),
		"all, one behind it": append(marksAt(5, 5, 5, 5, 5), markOf(9, 0))[:5],
	} {
		if !impl.MarksOk(list) {
			t.Errorf("%s: %v is not MarksOk", why, list)
		}
	}
	for why, list := range wrongMarks() {
		if impl.MarksOk(list) || marksOkByHand(list) {
			t.Errorf("%s: %v is MarksOk", why, list)
		}
	}
}

func TestMarksOkOfEachThree(t *testing.T) {
	var all []impl.Mark
	for id := -1; id <= impl.MaxNodes; id++ {
		for _, inc := range []int{-1, 0, 1, impl.MaxInc, impl.MaxInc + 1} {
			all = append(all, markOf(id, inc))
		}
	}
	for _, a := range all {
		for _, b := range all {
			for _, c := range all {
				whole := []impl.Mark{a, b, c}
				for size := range 4 {
					if got := impl.MarksOk(whole[:size]); got != marksOkByHand(whole[:size]) {
						t.Fatalf("MarksOk(%v) = %v", whole[:size], got)
					}
				}
			}
		}
	}
}

func TestMarksOfInWords(t *testing.T) {
	for _, c := range []struct {
		why  string
		s    impl.State
		want []impl.Mark
	}{
		{"nothing", impl.State{}, nil},
		{"empty lists", impl.State{Items: []impl.Item{}, Floors: []impl.Floor{}}, nil},
		{"a Floor", floorsOf(impl.Floor{Id: 4, Inc: 2}), marksAt(0, 0, 0, 0, 2)},
		{"the least and the greatest Floor", floorsOf(impl.Floor{Id: 0, Inc: 1}, impl.Floor{Id: 3, Inc: 1000}), marksAt(1, 0, 0, 1000)},
		{"Floors of all", floorsOf(impl.Floor{Id: 0, Inc: 5}, impl.Floor{Id: 1, Inc: 4}, impl.Floor{Id: 2, Inc: 3}, impl.Floor{Id: 3, Inc: 2}, impl.Floor{Id: 4, Inc: 1}), marksAt(5, 4, 3, 2, 1)},
		{"gone at 1", itemsOf(goneOf(1, 1)), marksAt(0, 1)},
		{"gone at the greatest", itemsOf(goneOf(0, impl.MaxInc)), marksAt(1000)},
		{"gone above a Floor", impl.State{Items: []impl.Item{goneOf(1, 4)}, Floors: []impl.Floor{{Id: 1, Inc: 2}}}, marksAt(0, 4)},
		{"gone right above a Floor", impl.State{Items: []impl.Item{goneOf(1, 4)}, Floors: []impl.Floor{{Id: 1, Inc: 3}}}, marksAt(0, 4)},
		{"up with Inc 1", itemsOf(itemOf(2, 1)), nil},
		{"up with Inc 2", itemsOf(itemOf(2, 2)), marksAt(0, 0, 1)},
		{"up with the greatest Inc", itemsOf(itemOf(2, impl.MaxInc)), marksAt(0, 0, 999)},
		{"up above a Floor", impl.State{Items: []impl.Item{itemOf(2, 9)}, Floors: []impl.Floor{{Id: 2, Inc: 5}}}, marksAt(0, 0, 8)},
		{"up right above a Floor", impl.State{Items: []impl.Item{itemOf(2, 9)}, Floors: []impl.Floor{{Id: 2, Inc: 8}}}, marksAt(0, 0, 8)},
		{"up with Inc 1, and a Floor of another one", impl.State{Items: []impl.Item{itemOf(2, 1)}, Floors: []impl.Floor{{Id: 3, Inc: 8}}}, marksAt(0, 0, 0, 8)},
		{"all ways", mixedState(), marksAt(0, 4, 7, 8)},
		{"up below its Floor", impl.State{Items: []impl.Item{itemOf(2, 4)}, Floors: []impl.Floor{{Id: 2, Inc: 5}}}, nil},
		{"gone at its Floor", impl.State{Items: []impl.Item{goneOf(2, 5)}, Floors: []impl.Floor{{Id: 2, Inc: 5}}}, nil},
	} {
		if got := impl.MarksOf(c.s); !slices.Equal(got, c.want) {
			t.Errorf("%s: %v, not %v", c.why, got, c.want)
		}
	}
}

// markStates: the right ones, and all that can be known of one node at the edges of each number.
func markStates() []impl.State {
	out := rightStates()
	for i, x := range edgeSlots() {
		id := i % impl.MaxNodes
		out = append(out, among(id, x), alone(id, x))
	}
	return out
}

func marksBySlots(s impl.State) []impl.Mark {
	var incs []int
	for id := range impl.MaxNodes {
		incs = append(incs, goneBySlots(s, id))
	}
	return marksAt(incs...)
}

func TestMarksOf(t *testing.T) {
	for _, s := range markStates() {
		got := impl.MarksOf(s)
		if !slices.Equal(got, marksBySlots(s)) || !impl.MarksOk(got) {
			t.Fatalf("MarksOf(%v) = %v", s, got)
		}
		for _, m := range got {
			if m.Inc != impl.GoneAt(s, m.Id) {
				t.Fatalf("MarksOf(%v) = %v", s, got)
			}
		}
	}
	for why, s := range moreWrongStates() {
		if got := impl.MarksOf(s); len(got) != 0 {
			t.Errorf("%s: MarksOf(%v) = %v", why, s, got)
		}
	}
}

func tableOf(n int, number int) [][]int {
	var out [][]int
	for range n {
		out = append(out, slices.Repeat([]int{number}, 5))
	}
	return out
}

func cloneTable(t [][]int) [][]int {
	var out [][]int
	for _, row := range t {
		out = append(out, slices.Clone(row))
	}
	return out
}

func sameTable(a [][]int, b [][]int) bool { return slices.EqualFunc(a, b, slices.Equal) }

// oddTables: right ones and wrong ones, with rows that are too short, too long, or none at all.
func oddTables() [][][]int {
	return [][][]int{
		nil,
		{},
		{nil},
		{{}, {}},
		{{7}},
		{{1, 2, 3, 4, 5}},
		{{5, 0, 3, 1000, 2}, {4, 1, 3, 999, 0}, {6, 2, 3, 1000, 1}},
		tableOf(5, 0),
		tableOf(5, impl.MaxInc),
		{{9, 8, 7, 6}, {3, 3, 3, 3, 3}, {1, 2, 3, 4, 5}},
		{{3, 3, 3, 3, 3}, {9}, {1, 2, 3, 4, 5}},
		{{3, 3, 3, 3, 3}, {1, 2, 3, 4, 5}, {}},
		{{3, 3, 3, 3, 3}, {1, 2, 3, 4, 5}, {2, 2, 2, 2}},
		{{9, 8, 7, 6, 5, 4, 3}, {1, 2, 3, 4, 5, 6}, {8, 7, 6, 5, 4, 3, 2, 1}},
		{{-1, 0, 2, -3, 4}, {5, -6, 7, -8, 9}},
		{{1001, math.MaxInt, math.MinInt, 0, 1}, {1002, math.MaxInt, 5, 0, 2}},
		{{math.MinInt, math.MinInt, math.MinInt, math.MinInt, math.MinInt}},
		append(tableOf(6, 4), []int{1, 2}, nil, []int{3, 2, 1, 0, 4, 8}),
	}
}

func TestTableOkOfEachSize(t *testing.T) {
	for _, n := range []int{math.MinInt, -5, -1, 0, 1, 2, 3, 4, 5, 6, 7, math.MaxInt} {
		for rows := range 9 {
			want := 1 <= n && n <= 5 && rows == n
			if got := impl.TableOk(tableOf(rows, 3), n); got != want {
				t.Errorf("%d rows for %d nodes: %v", rows, n, got)
			}
		}
		if impl.TableOk(nil, n) || impl.TableOk([][]int{}, n) {
			t.Errorf("none for %d nodes", n)
		}
	}
}

func TestTableOkWithOneRowOfEachLength(t *testing.T) {
	for n := 1; n <= impl.MaxNodes; n++ {
		for k := range n {
			for size := range 9 {
				table := tableOf(n, 3)
				table[k] = make([]int, size)
				if got := impl.TableOk(table, n); got != (size == 5) {
					t.Errorf("row %d of %d with %d numbers: %v", k, n, size, got)
				}
			}
			table := tableOf(n, 3)
			table[k] = nil
			if impl.TableOk(table, n) {
				t.Errorf("row %d of %d is nil", k, n)
			}
		}
	}
}

func TestTableOkWithEachNumberAtEachPlace(t *testing.T) {
	for n := 1; n <= impl.MaxNodes; n++ {
		for k := range n {
			for at := range impl.MaxNodes {
				for _, number := range []int{math.MinInt, -1000, -1, 0, 1, 999, 1000, 1001, math.MaxInt} {
					table := tableOf(n, 3)
					table[k][at] = number
					if got := impl.TableOk(table, n); got != (0 <= number && number <= 1000) {
						t.Errorf("%v for %d nodes: %v", table, n, got)
					}
				}
			}
		}
	}
}

func TestTableOkDoesNotLookBehindTheEnd(t *testing.T) {
	row := []int{1, 2, 3, 4, 5, -1}
	table := [][]int{row[:5], row[:4], row}
	if !impl.TableOk(table[:1], 1) || impl.TableOk(table[1:2], 1) || impl.TableOk(table[2:], 1) || impl.TableOk(table[:1], 3) {
		t.Error("what stands behind the end counts")
	}
}

func TestTableNew(t *testing.T) {
	for n := -1; n <= impl.MaxNodes+1; n++ {
		got := impl.TableNew(n)
		right := 1 <= n && n <= 5
		if right && !sameTable(got, tableOf(n, 0)) || !right && len(got) != 0 {
			t.Errorf("TableNew(%d) = %v", n, got)
		}
		if impl.TableOk(got, n) != right {
			t.Errorf("TableNew(%d) = %v, TableOk %v", n, got, !right)
		}
	}
	for _, n := range []int{math.MinInt, -1000, 7, 1000, math.MaxInt} {
		if got := impl.TableNew(n); len(got) != 0 {
			t.Errorf("TableNew(%d) = %v", n, got)
		}
	}
}

// addedToTable: what TableAdd should tell, place by place.
func addedToTable(t [][]int, k int, list []impl.Mark) [][]int {
	out := cloneTable(t)
	if k < 0 || k >= len(t) || len(t[k]) < 5 || !marksOkByHand(list) {
		return out
	}
	for at, there := range t[k] {
		for _, m := range list {
			if m.Id == at && m.Inc > there {
				out[k][at] = m.Inc
			}
		}
	}
	return out
}

func TestTableAddInWords(t *testing.T) {
	two := [][]int{{5, 0, 3, 1000, 2}, {4, 1, 3, 999, 0}}
	for _, c := range []struct {
		why  string
		t    [][]int
		k    int
		list []impl.Mark
		want [][]int
	}{
		{"to the first row", two, 0, marksAt(0, 9), [][]int{{5, 9, 3, 1000, 2}, {4, 1, 3, 999, 0}}},
		{"to the last row", two, 1, marksAt(0, 9), [][]int{{5, 0, 3, 1000, 2}, {4, 9, 3, 999, 0}}},
		{"one less", two, 0, marksAt(4), two},
		{"the same", two, 0, marksAt(5), two},
		{"one more", two, 0, marksAt(6), [][]int{{6, 0, 3, 1000, 2}, {4, 1, 3, 999, 0}}},
		{"at the last place", two, 0, marksAt(0, 0, 0, 0, 3), [][]int{{5, 0, 3, 1000, 3}, {4, 1, 3, 999, 0}}},
		{"less, the same and more", two, 1, marksAt(3, 1, 4, 1000, 1), [][]int{{5, 0, 3, 1000, 2}, {4, 1, 4, 1000, 1}}},
		{"nothing", two, 1, nil, two},
		{"ahead of all rows", two, -1, marksAt(900), two},
		{"behind all rows", two, 2, marksAt(900), two},
		{"to no table", nil, 0, marksAt(900), nil},
		{"to a row that is shorter", [][]int{{1, 2, 3, 4}}, 0, marksAt(900), [][]int{{1, 2, 3, 4}}},
		{"to a row that is longer", [][]int{{1, 2, 3, 4, 5, 6}}, 0, marksAt(9, 0, 0, 0, 9), [][]int{{9, 2, 3, 4, 9, 6}}},
		{"beside rows that are wrong", [][]int{{-1}, {0, 0, 0, 0, 0}, nil}, 1, marksAt(7), [][]int{{-1}, {7, 0, 0, 0, 0}, {}}},
		{"to numbers below 0", [][]int{{-7, -7, -7, -7, -7}}, 0, marksAt(0, 1), [][]int{{-7, 1, -7, -7, -7}}},
		{"to numbers too great", [][]int{{1001, 1001, 0, 0, 0}}, 0, marksAt(0, 1000), [][]int{{1001, 1001, 0, 0, 0}}},
		{"a list that is not MarksOk at its end", two, 0, []impl.Mark{markOf(0, 900), markOf(5, 900)}, two},
	} {
		if got := impl.TableAdd(c.t, c.k, c.list); !sameTable(got, c.want) {
			t.Errorf("%s: %v, not %v", c.why, got, c.want)
		}
	}
}

// someMarks: right lists of marks: none, each place alone, some, all.
func someMarks() [][]impl.Mark {
	out := [][]impl.Mark{nil, {}, marksAt(1, 2, 3, 4, 5), marksAt(9, 0, 9, 0, 9), marksAt(1000, 1000, 1000, 1000, 1000)}
	for id := range impl.MaxNodes {
		for _, inc := range []int{1, 2, 3, 4, 5, 999, 1000} {
			out = append(out, []impl.Mark{markOf(id, inc)})
		}
	}
	return out
}

func rowsAbout(t [][]int) []int {
	out := []int{math.MinInt, -5, math.MaxInt}
	for k := -1; k <= len(t)+1; k++ {
		out = append(out, k)
	}
	return out
}

func TestTableAddOfMarks(t *testing.T) {
	for _, table := range oddTables() {
		for _, k := range rowsAbout(table) {
			for _, list := range someMarks() {
				got := impl.TableAdd(table, k, list)
				if !sameTable(got, addedToTable(table, k, list)) {
					t.Fatalf("TableAdd(%v, %d, %v) = %v", table, k, list, got)
				}
				if again := impl.TableAdd(got, k, list); !sameTable(again, got) {
					t.Fatalf("TableAdd(%v, %d, %v), and once more: %v", table, k, list, again)
				}
			}
			for why, list := range wrongMarks() {
				if got := impl.TableAdd(table, k, list); !sameTable(got, table) {
					t.Fatalf("%s: TableAdd(%v, %d, %v) = %v", why, table, k, list, got)
				}
			}
		}
	}
}

// rightTables: for each n, of noughts, of the greatest, and of numbers that are not the same.
func rightTables() [][][]int {
	var out [][][]int
	for n := 1; n <= impl.MaxNodes; n++ {
		mixed := tableOf(n, 0)
		for k := range mixed {
			for at := range mixed[k] {
				mixed[k][at] = (k*3 + at*2) % 7
			}
		}
		out = append(out, tableOf(n, 0), tableOf(n, impl.MaxInc), mixed)
	}
	return out
}

func TestTableAddToRightTables(t *testing.T) {
	for _, table := range rightTables() {
		for k := range table {
			for _, list := range someMarks() {
				got := impl.TableAdd(table, k, list)
				if !impl.TableOk(got, len(table)) {
					t.Fatalf("TableAdd(%v, %d, %v) = %v", table, k, list, got)
				}
				for id := range impl.MaxNodes {
					if impl.Common(got, id) < impl.Common(table, id) {
						t.Fatalf("%v became %v: less is common of %d", table, got, id)
					}
				}
			}
		}
	}
}

func TestTableAddInAnyOrder(t *testing.T) {
	lists := [][]impl.Mark{marksAt(4, 0, 2), marksAt(0, 0, 5, 1), marksAt(3, 0, 0, 1000, 1)}
	want := [][]int{{0, 0, 0, 0, 0}, {4, 0, 5, 1000, 1}, {3, 0, 5, 1000, 1}}
	for _, order := range [][]int{{0, 1, 2}, {0, 2, 1}, {1, 0, 2}, {1, 2, 0}, {2, 0, 1}, {2, 1, 0}, {2, 2, 0, 1, 0, 2}} {
		table := impl.TableNew(3)
		for _, i := range order {
			table = impl.TableAdd(table, 1, lists[i])
			if i > 0 {
				table = impl.TableAdd(table, 2, lists[i])
			}
		}
		if !sameTable(table, want) {
			t.Errorf("in order %v: %v", order, table)
		}
	}
}

// commonByHand: the least of what stands at that place, 0 where it stands in not all of at least one row.
func commonByHand(t [][]int, id int) int {
	var there []int
	for _, row := range t {
		for at, number := range row {
			if at == id {
				there = append(there, number)
			}
		}
	}
	if len(there) == 0 || len(there) < len(t) {
		return 0
	}
	slices.Sort(there)
	return there[0]
}

func TestCommonInWords(t *testing.T) {
	three := [][]int{{5, 0, 3, 1000, 2}, {4, 1, 3, 999, 0}, {6, 2, 3, 1000, 1}}
	for _, c := range []struct {
		why  string
		t    [][]int
		id   int
		want int
	}{
		{"the least in a middle row", three, 0, 4},
		{"the least in the first row", three, 1, 0},
		{"all the same", three, 2, 3},
		{"close to the greatest", three, 3, 999},
		{"at the last place", three, 4, 0},
		{"the least in the last row", [][]int{{5, 5, 5, 5, 5}, {5, 5, 5, 5, 4}}, 4, 4},
		{"of one row", three[2:], 4, 1},
		{"ahead of all places", three, -1, 0},
		{"behind all places", three, 5, 0},
		{"far ahead", three, math.MinInt, 0},
		{"far behind", three, math.MaxInt, 0},
		{"of no row", nil, 0, 0},
		{"of an empty table", [][]int{}, 0, 0},
		{"of an empty row", [][]int{{}}, 0, 0},
		{"the first row is shorter", [][]int{{9, 9, 9}, {7, 7, 7, 7, 7}, {8, 8, 8, 8, 8}}, 3, 0},
		{"a middle row is shorter", [][]int{{7, 7, 7, 7, 7}, {9, 9, 9}, {8, 8, 8, 8, 8}}, 3, 0},
		{"the last row is shorter", [][]int{{7, 7, 7, 7, 7}, {8, 8, 8, 8, 8}, {9, 9, 9}}, 3, 0},
		{"the last row is nil", [][]int{{7, 7, 7, 7, 7}, {8, 8, 8, 8, 8}, nil}, 0, 0},
		{"a row is shorter, but has that place", [][]int{{7, 7, 7, 7, 7}, {9, 9, 6}, {8, 8, 8, 8, 8}}, 2, 6},
		{"rows that are longer", [][]int{{7, 7, 7, 7, 7, 4}, {7, 7, 7, 7, 7, 3}}, 5, 3},
		{"one row that is longer", [][]int{{7, 7, 7, 7, 7, 4}, {7, 7, 7, 7, 7}}, 5, 0},
		{"below 0", [][]int{{7, -2, 7, 7, 7}, {7, -3, 7, 7, 7}, {7, 5, 7, 7, 7}}, 1, -3},
		{"below 0 everywhere", [][]int{{-5}, {-2}, {-9}}, 0, -9},
		{"below 0, and a row that is shorter behind it", [][]int{{7, -2}, {7}}, 1, 0},
		{"below 0, and a row that is shorter ahead of it", [][]int{{7}, {7, -2}}, 1, 0},
		{"the least there is", [][]int{{0}, {math.MinInt}, {4}}, 0, math.MinInt},
		{"the greatest there is", [][]int{{math.MaxInt}, {math.MaxInt}}, 0, math.MaxInt},
		{"too great", [][]int{{1002}, {1001}, {1003}}, 0, 1001},
	} {
		if got := impl.Common(c.t, c.id); got != c.want {
			t.Errorf("%s: %d, not %d", c.why, got, c.want)
		}
	}
}

func TestCommonAtEachPlace(t *testing.T) {
	for _, table := range append(oddTables(), rightTables()...) {
		for _, id := range append(probedIds(), 6, 7, 8, 9) {
			if got := impl.Common(table, id); got != commonByHand(table, id) {
				t.Fatalf("Common(%v, %d) = %d", table, id, got)
			}
		}
	}
	for n := 1; n <= impl.MaxNodes; n++ {
		for k := range n {
			for size := range 8 {
				table := tableOf(n, 6)
				table[k] = slices.Repeat([]int{6}, size)
				least := size
				if n > 1 {
					least = min(size, 5)
				}
				for _, id := range append(probedIds(), 6, 7) {
					want := 0
					if 0 <= id && id < least {
						want = 6
					}
					if got := impl.Common(table, id); got != want {
						t.Fatalf("row %d of %d with %d numbers: Common at %d is %d", k, n, size, id, got)
					}
				}
			}
		}
	}
}

// prunedBySlots: what a right state should be pruned to, node by node.
func prunedBySlots(s impl.State, t [][]int) impl.State {
	all := slotsOf(s)
	for id := range all {
		over := commonByHand(t, id)
		if gone := goneBySlots(s, id); gone < over {
			over = gone
		}
		if all[id].floor < over {
			all[id].floor = over
		}
		if all[id].entry.Inc <= all[id].floor {
			all[id].entry = impl.Entry{}
		}
	}
	return stateOf(all)
}

func TestPruneInWords(t *testing.T) {
	short := [][]int{{9, 9, 9, 9, 9}, {9, 9}}
	for _, c := range []struct {
		why  string
		s    impl.State
		t    [][]int
		want string
	}{
		{"gone, and all know less", itemsOf(goneOf(1, 3)), tableOf(2, 2), "1=3g2.0:g -1<2"},
		{"gone, and all know it", itemsOf(goneOf(1, 3)), tableOf(2, 3), "-1<3"},
		{"gone, and all know more", itemsOf(goneOf(1, 3)), tableOf(2, 4), "-1<3"},
		{"gone, and one knows nothing", itemsOf(goneOf(1, 3)), [][]int{{9, 3, 9, 9, 9}, {9, 0, 9, 9, 9}, {9, 3, 9, 9, 9}}, "1=3g2.0:g"},
		{"gone, and one knows less", itemsOf(goneOf(1, 3)), [][]int{{9, 3, 9, 9, 9}, {9, 1, 9, 9, 9}, {9, 3, 9, 9, 9}}, "1=3g2.0:g -1<1"},
		{"gone above a Floor, and all know less than that", impl.State{Items: []impl.Item{goneOf(1, 6)}, Floors: []impl.Floor{{Id: 1, Inc: 4}}}, tableOf(3, 3), "1=6g2.0:g -1<4"},
		{"gone above a Floor, and all know more than that", impl.State{Items: []impl.Item{goneOf(1, 6)}, Floors: []impl.Floor{{Id: 1, Inc: 4}}}, tableOf(3, 5), "1=6g2.0:g -1<5"},
		{"gone above a Floor, and all know it", impl.State{Items: []impl.Item{goneOf(1, 6)}, Floors: []impl.Floor{{Id: 1, Inc: 4}}}, tableOf(3, 6), "-1<6"},
		{"gone at the greatest", itemsOf(goneOf(4, 1000)), tableOf(1, 1000), "-4<1000"},
		{"up with Inc 1", itemsOf(itemOf(1, 1)), tableOf(2, 1000), "1=1u1.1:d1"},
		{"up, and all know what was ahead", itemsOf(itemOf(1, 3)), tableOf(2, 2), "1=3u1.1:d1 -1<2"},
		{"up, and all know more than there is to know", itemsOf(itemOf(1, 3)), tableOf(2, 1000), "1=3u1.1:d1 -1<2"},
		{"up, and all know less", itemsOf(itemOf(1, 3)), tableOf(2, 1), "1=3u1.1:d1 -1<1"},
		{"a Floor, and all know less", floorsOf(impl.Floor{Id: 2, Inc: 5}), tableOf(2, 4), "-2<5"},
		{"a Floor, and all know more", floorsOf(impl.Floor{Id: 2, Inc: 5}), tableOf(2, 6), "-2<5"},
		{"nothing", impl.State{}, tableOf(5, 1000), ""},
		{"all ways", mixedState(), tableOf(3, 1000), "0=1u1.1:d1 3=9u1.1:d1 -1<4 -2<7 -3<8"},
		{"all ways, and noughts", mixedState(), tableOf(3, 0), "0=1u1.1:d1 1=4g2.0:g 3=9u1.1:d1 -1<2 -2<7 -3<5"},
		{"all ways, and below 0", mixedState(), tableOf(3, -4), "0=1u1.1:d1 1=4g2.0:g 3=9u1.1:d1 -1<2 -2<7 -3<5"},
		{"all ways, and no table", mixedState(), nil, "0=1u1.1:d1 1=4g2.0:g 3=9u1.1:d1 -1<2 -2<7 -3<5"},
		{"all ways, and a row that is too short", mixedState(), short, "0=1u1.1:d1 3=9u1.1:d1 -1<4 -2<7 -3<5"},
		{"all ways, and numbers too great", mixedState(), [][]int{slices.Repeat([]int{math.MaxInt}, 5)}, "0=1u1.1:d1 3=9u1.1:d1 -1<4 -2<7 -3<8"},
		{"one who is known by all among others", itemsOf(goneOf(0, 1), goneOf(1, 1), goneOf(2, 1)), [][]int{{0, 1, 1, 0, 0}, {1, 1, 0, 0, 0}}, "0=1g2.0:g 2=1g2.0:g -1<1"},
	} {
		if got := impl.StateText(impl.Prune(c.s, c.t)); got != c.want {
			t.Errorf("%s: %q, not %q", c.why, got, c.want)
		}
	}
}

func prunedTables() [][][]int {
	out := append(oddTables(), [][]int{{0, 1, 2, 3, 4}, {4, 3, 2, 1, 0}}, [][]int{{2, 4, 7, 8, 9}, {2, 4, 7, 8, 9}}, [][]int{{1, 1, 1, 1, 1, 1}})
	for _, number := range []int{1, 2, 3, 4, 5, 8, impl.MaxInc - 1, impl.MaxInc, impl.MaxInc + 1} {
		out = append(out, tableOf(2, number))
	}
	return append(out, rightTables()...)
}

func TestPrune(t *testing.T) {
	for _, s := range markStates() {
		for _, table := range prunedTables() {
			got, want := impl.Prune(s, table), prunedBySlots(s, table)
			if !sameState(got, want) || !impl.StateOk(got) {
				t.Fatalf("Prune(%v, %v) = %v, not %v", s, table, got, want)
			}
			checkNothingTurned(t, s, table, got)
		}
	}
}

// checkNothingTurned: the promise itself: who is seen and what is over is as it was, and what all know is not marked any more.
func checkNothingTurned(t *testing.T, s impl.State, table [][]int, got impl.State) {
	t.Helper()
	if !slices.Equal(seenBySlots(got), seenBySlots(s)) || !slices.Equal(impl.View(got), impl.View(s)) {
		t.Fatalf("%v pruned by %v: %v is seen", s, table, impl.View(got))
	}
	if !slices.Equal(impl.MarksOf(got), impl.MarksOf(s)) || !impl.StateLeq(s, got) {
		t.Fatalf("%v pruned by %v: of %v other things are over", s, table, got)
	}
	if again := impl.Prune(got, table); !sameState(again, got) {
		t.Fatalf("%v pruned by %v, and once more: %v", s, table, again)
	}
	for _, x := range got.Items {
		if x.Entry.Rank == impl.RkGone && x.Entry.Inc <= impl.Common(table, x.Id) {
			t.Fatalf("%v pruned by %v: all know that %d has gone, but %v", s, table, x.Id, got)
		}
	}
}

func TestPruneOfWrongStatesIsAsItWas(t *testing.T) {
	for why, s := range moreWrongStates() {
		for _, table := range prunedTables() {
			if got := impl.Prune(s, table); !sameState(got, s) {
				t.Errorf("%s: Prune(%v, %v) = %v", why, s, table, got)
			}
		}
	}
}

// Who has gone is marked till the last node is known to have it, and is cleared away then; old news of it is over all the same.
func TestWhoIsKnownByAllToKnowIsPruned(t *testing.T) {
	for n := 1; n <= impl.MaxNodes; n++ {
		s, table := itemsOf(itemOf(0, 1), goneOf(2, 4)), impl.TableNew(n)
		for k := range n {
			if got := impl.Prune(s, table); !sameState(got, s) {
				t.Fatalf("%d of %d know it: %v", k, n, got)
			}
			table = impl.TableAdd(table, k, impl.MarksOf(s))
		}
		got := impl.Prune(s, table)
		if impl.StateText(got) != "0=1u1.1:d1 -2<4" {
			t.Fatalf("all %d know it: %v", n, got)
		}
		for _, old := range []impl.State{s, itemsOf(goneOf(2, 4)), itemsOf(itemOf(2, 4)), itemsOf(itemOf(2, 1))} {
			if back := mustJoin(t, got, old); !sameState(back, got) {
				t.Fatalf("%v and then %v: %v", got, old, back)
			}
		}
		if anew := mustJoin(t, got, itemsOf(itemOf(2, 5))); impl.ViewText(anew) != "0=1u1.1:d1 2=5u1.1:d1" {
			t.Fatalf("%v and then anew: %v", got, anew)
		}
	}
}

func roomyMarks(list []impl.Mark) ([]impl.Mark, []impl.Mark) {
	room := append(slices.Clone(list), markOf(91, 91), markOf(92, 92))
	return room[:len(list)], room
}

func scribbleMarks(list []impl.Mark) {
	list = list[:cap(list)]
	for i := range list {
		list[i] = markOf(77, 77)
	}
}

// roomyTable: a table with spare room behind it and behind each row.
type roomyTable struct {
	table [][]int
	list  [][]int // with the spare room
	heads [][]int // what stands in list, in other memory
	rooms [][]int // of each in list its numbers with their spare room
	was   [][]int // what stands in rooms, in other memory
}

func newRoomyTable(t [][]int) roomyTable {
	var out roomyTable
	for _, row := range append(cloneTable(t), []int{91, 91, 91, 91, 91}, nil) {
		a, room := roomyInts(row)
		out.list = append(out.list, a)
		out.rooms = append(out.rooms, room)
	}
	out.heads, out.was = slices.Clone(out.list), cloneTable(out.rooms)
	out.table = out.list[:len(t)]
	return out
}

// untouched: nothing was written into it, not even the same in other memory.
func (r roomyTable) untouched() bool {
	for k, row := range r.list {
		if unsafe.SliceData(row) != unsafe.SliceData(r.heads[k]) || len(row) != len(r.heads[k]) {
			return false
		}
	}
	return sameTable(r.rooms, r.was)
}

func (r roomyTable) scribble() {
	for k := range r.list {
		scribbleInts(r.rooms[k])
		r.list[k] = []int{77}
	}
}

func TestNothingIsWrittenIntoTables(t *testing.T) {
	lists := [][]impl.Mark{nil, marksAt(9, 0, 9, 0, 1000), wrongMarks()["descending"]}
	for _, table := range append(oddTables(), rightTables()...) {
		for _, list := range lists {
			r := newRoomyTable(table)
			marks, room := roomyMarks(list)
			was := slices.Clone(room)
			impl.MarksOk(marks)
			for _, k := range rowsAbout(table) {
				impl.TableOk(r.table, k)
				impl.Common(r.table, k)
				if got := impl.TableAdd(r.table, k, marks); !sameTable(got, addedToTable(table, k, list)) {
					t.Fatalf("TableAdd(%v, %d, %v) = %v with room behind them", table, k, list, got)
				}
			}
			if !r.untouched() || !slices.Equal(room, was) {
				t.Fatalf("%v or %v was written into", table, list)
			}
		}
	}
}

func TestNothingIsWrittenIntoWhatIsPruned(t *testing.T) {
	checkNothingWritten(t, append(ordinaryStates(), mixedState()), func(a impl.State, b impl.State) {
		impl.MarksOf(a)
		for _, table := range [][][]int{nil, {{9, 9}}, tableOf(3, 5)} {
			r := newRoomyTable(table)
			impl.Prune(a, r.table)
			if !r.untouched() {
				t.Fatalf("%v was written into", table)
			}
		}
	})
}

// scribbleTable turns all that an answer holds, and the spare room behind it.
func scribbleTable(t [][]int) {
	for _, row := range t {
		scribbleInts(row)
	}
	t = t[:cap(t)]
	for k := range t {
		t[k] = []int{77}
	}
}

func TestTablesAreNewMemory(t *testing.T) {
	for _, table := range append(oddTables(), rightTables()...) {
		for _, list := range [][]impl.Mark{nil, marksAt(9, 0, 9, 0, 1000), wrongMarks()["descending"]} {
			for _, k := range rowsAbout(table) {
				r := newRoomyTable(table)
				got, again := impl.TableAdd(r.table, k, list), impl.TableAdd(r.table, k, list)
				want := addedToTable(table, k, list)
				scribbleTable(got)
				if !r.untouched() || !sameTable(again, want) {
					t.Fatalf("%v or another answer turned with the answer", table)
				}
				r.scribble()
				if !sameTable(again, want) {
					t.Fatalf("the answer turned with %v", table)
				}
			}
		}
	}
}

func spansOfTable(t [][]int) []span {
	out := []span{spanOf(t)}
	for _, row := range t {
		out = append(out, spanOf(row))
	}
	return out
}

func checkTableApart(t *testing.T, why string, answer [][]int, given [][]int) {
	t.Helper()
	checkSpansApart(t, why, spansOfTable(answer), nil, spansOfTable(given))
}

// Rows that are one and the same list, or pieces of one, are rows by themselves in the answer, and row k alone has turned.
func TestNoTwoRowsShareMemory(t *testing.T) {
	for n := 1; n <= impl.MaxNodes; n++ {
		first, second := impl.TableNew(n), impl.TableNew(n)
		checkTableApart(t, fmt.Sprint("TableNew of ", n), first, second)
	}
	row := []int{4, 4, 4, 4, 4, 4, 4, 4}
	for why, table := range map[string][][]int{
		"the same row":       {row[:5:5], row[:5:5], row[:5:5]},
		"the same long row":  {row, row, row},
		"pieces of one list": {row[:5], row[2:7], row[3:8], row[:2], row[7:]},
		"rows that are cut":  {row[:0], row[:5], row[8:]},
	} {
		was := cloneTable(table)
		for _, k := range rowsAbout(table) {
			for _, list := range [][]impl.Mark{nil, marksAt(9, 0, 3, 0, 1000), wrongMarks()["descending"]} {
				got := impl.TableAdd(table, k, list)
				checkTableApart(t, fmt.Sprintf("%s, row %d", why, k), got, table)
				if !sameTable(got, addedToTable(was, k, list)) || !sameTable(table, was) {
					t.Errorf("%s, row %d, %v: %v", why, k, list, got)
				}
			}
		}
	}
}

func TestMarksAndPrunedStatesAreNewMemory(t *testing.T) {
	all := append(ordinaryStates(), mixedState())
	for _, s := range wrongStates() {
		all = append(all, s)
	}
	for _, s := range all {
		for _, table := range [][][]int{nil, tableOf(2, 3), tableOf(2, impl.MaxInc), {{9, 9}}} {
			a, room := roomy(s)
			was := cloneState(room)
			r := newRoomyTable(table)
			got, again := impl.Prune(a, r.table), impl.Prune(a, r.table)
			marks, marksAgain := impl.MarksOf(a), impl.MarksOf(a)
			want, wantMarks := cloneState(got), slices.Clone(marks)
			scribble(got)
			scribbleMarks(marks)
			if !sameState(room, was) || !r.untouched() || !sameState(again, want) || !slices.Equal(marksAgain, wantMarks) {
				t.Fatalf("%v, %v or another answer turned with an answer", s, table)
			}
			scribble(room)
			r.scribble()
			if !sameState(again, want) || !slices.Equal(marksAgain, wantMarks) {
				t.Fatalf("an answer turned with %v or %v", s, table)
			}
		}
	}
}

func TestTextsOfPrunedStatesAreNewMemory(t *testing.T) {
	data := strings.Repeat("a", impl.MaxData)
	up := impl.Item{Id: 1, Entry: impl.Entry{Inc: 2, Data: data}}
	for why, s := range map[string]impl.State{"right": itemsOf(up), "wrong": itemsOf(up, up)} {
		for _, table := range [][][]int{nil, tableOf(2, 1)} {
			for _, x := range impl.Prune(s, table).Items {
				if unsafe.StringData(x.Entry.Data) == unsafe.StringData(data) {
					t.Errorf("%s: Prune shares a text", why)
				}
			}
		}
	}
}
