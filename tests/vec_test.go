package tests

import (
	"math"
	"slices"
	"strconv"
	"strings"
	"testing"

	"loop.example/g00487/impl"
)

// listsUpTo: each list of at most size numbers, each of them one of these.
func listsUpTo(size int, numbers ...int) [][]int {
	out := [][]int{nil}
	longest := out
	for range size {
		var longer [][]int
		for _, v := range longest {
			for _, n := range numbers {
				longer = append(longer, append(slices.Clone(v), n))
			}
		}
		out = append(out, longer...)
		longest = longer
	}
	return out
}

// oddVecs: lists of each length up to three, of numbers about 0, the greatest and the least.
func oddVecs() [][]int { return listsUpTo(3, math.MinInt, -1, 0, 1, math.MaxInt) }

// longVecs: right ones of each length, and longer ones than any node has.
func longVecs() [][]int {
	var out [][]int
	for size := range impl.MaxNodes + 4 {
		up, down := make([]int, size), make([]int, size)
		for at := range size {
			up[at], down[at] = at*10, impl.MaxSeq-at
		}
		out = append(out, up, down)
	}
	return append(out, slices.Repeat([]int{-3, 8}, 50))
}

// padded: v with noughts behind it, up to size numbers.
func padded(v []int, size int) []int {
	out := make([]int, size)
	copy(out, v)
	return out
}

func maxByHand(a []int, b []int) []int {
	size := max(len(a), len(b))
	out, other := padded(a, size), padded(b, size)
	for at, n := range other {
		if n >= out[at] {
			out[at] = n
		}
	}
	return out
}

func leqByHand(a []int, b []int) bool {
	other := padded(b, max(len(a), len(b)))
	for at := range a {
		if other[at] < a[at] {
			return false
		}
	}
	return true
}

func raisedByHand(v []int, at int, n int) []int {
	out := slices.Clone(v)
	for place, there := range out {
		if place == at && there < n {
			out[place] = n
		}
	}
	return out
}

func noneBelowNought(v []int) bool { return len(v) == 0 || slices.Min(v) >= 0 }

func TestVecOkAtTheEdges(t *testing.T) {
	for _, c := range []struct {
		why  string
		v    []int
		n    int
		want bool
	}{
		{"nil for none", nil, 0, false},
		{"an empty list for none", []int{}, 0, false},
		{"one for none", []int{0}, 0, false},
		{"nil below none", nil, -1, false},
		{"one below none", []int{0}, -1, false},
		{"nil for one", nil, 1, false},
		{"an empty list for one", []int{}, 1, false},
		{"one", []int{0}, 1, true},
		{"two for one", []int{0, 0}, 1, false},
		{"one for two", []int{0}, 2, false},
		{"two", []int{4, 100000}, 2, true},
		{"five", []int{0, 1, 2, 100000, 4}, 5, true},
		{"four for five", []int{0, 1, 2, 3}, 5, false},
		{"six for five", []int{0, 1, 2, 3, 4, 5}, 5, false},
		{"six", []int{0, 1, 2, 3, 4, 5}, 6, false},
		{"five for six", []int{0, 1, 2, 3, 4}, 6, false},
		{"the only one below 0", []int{-1}, 1, false},
		{"the only one too great", []int{100001}, 1, false},
		{"the only one the greatest", []int{100000}, 1, true},
		{"the first one below 0", []int{-1, 0, 0}, 3, false},
		{"a middle one below 0", []int{0, -1, 0}, 3, false},
		{"the last one below 0", []int{0, 0, -1}, 3, false},
		{"the first one too great", []int{100001, 0, 0}, 3, false},
		{"a middle one too great", []int{0, 100001, 0}, 3, false},
		{"the last one too great", []int{0, 0, 100001}, 3, false},
		{"all the greatest", []int{100000, 100000, 100000}, 3, true},
		{"not ascending", []int{9, 3, 9, 0}, 4, true},
	} {
		if got := impl.VecOk(c.v, c.n); got != c.want {
			t.Errorf("%s: %v", c.why, got)
		}
	}
}

func TestVecOkOfEachLengthForEachNumberOfNodes(t *testing.T) {
	for _, n := range []int{math.MinInt, -5, -1, 0, 1, 2, 3, 4, 5, 6, 7, math.MaxInt} {
		for size := range 9 {
			want := 1 <= n && n <= 5 && size == n
			if got := impl.VecOk(make([]int, size), n); got != want {
				t.Errorf("%d numbers for %d nodes: %v", size, n, got)
			}
		}
	}
}

func TestVecOkWithEachNumberAtEachPlace(t *testing.T) {
	for n := 1; n <= impl.MaxNodes; n++ {
		for at := range n {
			for _, number := range []int{math.MinInt, -impl.MaxSeq, -1, 0, 1, impl.MaxSeq - 1, impl.MaxSeq, impl.MaxSeq + 1, math.MaxInt} {
				for _, others := range []int{0, 7, impl.MaxSeq} {
					v := slices.Repeat([]int{others}, n)
					v[at] = number
					want := 0 <= number && number <= 100000
					if got := impl.VecOk(v, n); got != want {
						t.Errorf("%v for %d nodes: %v", v, n, got)
					}
				}
			}
		}
	}
}

func TestVecOkDoesNotLookBehindTheEnd(t *testing.T) {
	right, wrong := []int{1, 2, 3}, []int{1, 2, -1}
	if impl.VecOk(right[:2], 3) || !impl.VecOk(right[:2], 2) || !impl.VecOk(wrong[:2], 2) {
		t.Error("what stands behind the end counts")
	}
}

func TestVecMaxInWords(t *testing.T) {
	for _, c := range []struct {
		why        string
		a, b, want []int
	}{
		{"nothing of nothing", nil, nil, nil},
		{"nothing of an empty list", []int{}, nil, nil},
		{"now the one, now the other", []int{1, 5, 3}, []int{4, 2, 3}, []int{4, 5, 3}},
		{"the same", []int{2, 9}, []int{2, 9}, []int{2, 9}},
		{"one that is longer", []int{1, 5}, []int{3, 2, 7}, []int{3, 5, 7}},
		{"one that is longer by more", []int{9}, []int{3, 2, 7, 0, 4}, []int{9, 2, 7, 0, 4}},
		{"nothing and some", nil, []int{3, 0, 7}, []int{3, 0, 7}},
		{"noughts behind the end", []int{6}, []int{6, 0, 0}, []int{6, 0, 0}},
		{"below 0", []int{-4, -2}, []int{-3, -7}, []int{-3, -2}},
		{"below 0 behind the end", []int{-4}, []int{-5, -1}, []int{-4, 0}},
		{"below 0 against nothing", nil, []int{-1, 2, -3}, []int{0, 2, 0}},
		{"below 0 against an empty list", []int{}, []int{-1}, []int{0}},
		{"the greatest and the least", []int{math.MinInt, math.MaxInt}, []int{math.MaxInt, math.MinInt}, []int{math.MaxInt, math.MaxInt}},
		{"the least of both", []int{math.MinInt}, []int{math.MinInt}, []int{math.MinInt}},
		{"the least behind the end", []int{math.MinInt}, []int{math.MinInt, math.MinInt}, []int{math.MinInt, 0}},
		{"the greatest behind the end", nil, []int{math.MaxInt}, []int{math.MaxInt}},
	} {
		if got := impl.VecMax(c.a, c.b); !slices.Equal(got, c.want) {
			t.Errorf("%s: %v", c.why, got)
		}
		if got := impl.VecMax(c.b, c.a); !slices.Equal(got, c.want) {
			t.Errorf("%s, the other way round: %v", c.why, got)
		}
	}
}

// The promise itself: the greater of two is no less than either.
func TestTheGreaterOfTwoIsNoLessThanEither(t *testing.T) {
	for _, all := range [][][]int{oddVecs(), longVecs()} {
		for _, a := range all {
			for _, b := range all {
				got := impl.VecMax(a, b)
				if !slices.Equal(got, maxByHand(a, b)) {
					t.Fatalf("VecMax(%v, %v) = %v", a, b, got)
				}
				if !leqByHand(a, got) || !leqByHand(b, got) || !impl.VecLeq(a, got) || !impl.VecLeq(b, got) {
					t.Fatalf("VecMax(%v, %v) = %v is less than one of them", a, b, got)
				}
			}
		}
	}
}

// What is beneath a third one at the places that it has alone need not be beneath it where both are joined: a number below 0 behind its end is less than what is not there. So the third one has none there.
func TestTheGreaterOfTwoIsBeneathEachThatIsNoLess(t *testing.T) {
	all := listsUpTo(3, -1, 0, 1)
	for _, a := range all {
		for _, b := range all {
			most, least := impl.VecMax(a, b), min(len(a), len(b))
			for _, c := range all {
				if !noneBelowNought(c[min(least, len(c)):]) || !leqByHand(a, c) || !leqByHand(b, c) {
					continue
				}
				if !impl.VecLeq(most, c) {
					t.Fatalf("VecMax(%v, %v) = %v is not beneath %v", a, b, most, c)
				}
			}
		}
	}
}

// As nothing counts behind the end of the first list, the greater of two may be above one that both are beneath, but only for numbers below 0 there.
func TestNumbersBelowNoughtBehindTheEnd(t *testing.T) {
	a, b, c := []int(nil), []int{-5}, []int{-3}
	most := impl.VecMax(a, b)
	if !impl.VecLeq(a, c) || !impl.VecLeq(b, c) || !slices.Equal(most, []int{0}) || impl.VecLeq(most, c) {
		t.Error(most)
	}
}

func TestTheGreaterOfThreeInAnyOrder(t *testing.T) {
	all := listsUpTo(2, math.MinInt, -1, 0, 4)
	for _, a := range all {
		for _, b := range all {
			for _, c := range all {
				x, y := impl.VecMax(impl.VecMax(a, b), c), impl.VecMax(a, impl.VecMax(c, b))
				if !slices.Equal(x, y) {
					t.Fatalf("of %v, %v, %v: %v or %v", a, b, c, x, y)
				}
			}
		}
	}
}

func TestVecMaxOfOneAndItself(t *testing.T) {
	for _, v := range slices.Concat(oddVecs(), longVecs()) {
		if got := impl.VecMax(v, v); !slices.Equal(got, v) {
			t.Fatalf("VecMax(%v, itself) = %v", v, got)
		}
	}
}

func TestVecMaxOfRightOnesIsRight(t *testing.T) {
	for n := 1; n <= impl.MaxNodes; n++ {
		for _, a := range longVecs() {
			for _, b := range longVecs() {
				if got := impl.VecMax(a, b); impl.VecOk(a, n) && impl.VecOk(b, n) && !impl.VecOk(got, n) {
					t.Fatalf("VecMax(%v, %v) = %v", a, b, got)
				}
			}
		}
	}
}

func TestVecLeqInWords(t *testing.T) {
	for _, c := range []struct {
		why  string
		a, b []int
		want bool
	}{
		{"nothing beneath nothing", nil, nil, true},
		{"nothing beneath an empty list", nil, []int{}, true},
		{"an empty list beneath nothing", []int{}, nil, true},
		{"nothing beneath some", nil, []int{3, 4}, true},
		{"nothing beneath what is below 0", nil, []int{-1}, true},
		{"an empty list beneath what is below 0", []int{}, []int{-1, math.MinInt}, true},
		{"some beneath nothing", []int{1}, nil, false},
		{"noughts beneath nothing", []int{0, 0}, nil, true},
		{"below 0 beneath nothing", []int{-1, math.MinInt}, nil, true},
		{"one above beneath an empty list", []int{-1, 0, 1}, []int{}, false},
		{"the same", []int{3, 4}, []int{3, 4}, true},
		{"less at the first place", []int{2, 4}, []int{3, 4}, true},
		{"less at the last place", []int{3, 3}, []int{3, 4}, true},
		{"more at the first place", []int{4, 4, 4}, []int{3, 4, 4}, false},
		{"more at a middle place", []int{4, 5, 4}, []int{4, 4, 4}, false},
		{"more at the last place", []int{4, 4, 5}, []int{4, 4, 4}, false},
		{"more and less", []int{1, 5}, []int{3, 2}, false},
		{"less and more", []int{3, 2}, []int{1, 5}, false},
		{"shorter", []int{1, 2}, []int{1, 2, 7}, true},
		{"shorter and below 0 behind", []int{1, 2}, []int{1, 2, -7}, true},
		{"shorter and more", []int{1, 5}, []int{3, 2, 7}, false},
		{"longer", []int{1, 2, 7}, []int{1, 2}, false},
		{"longer by one above 0", []int{1, 2, 1}, []int{1, 2}, false},
		{"longer by a nought", []int{1, 2, 0}, []int{1, 2}, true},
		{"longer by one below 0", []int{1, 2, -1}, []int{1, 2}, true},
		{"longer by below 0, then above", []int{1, 2, -1, 1}, []int{1, 2}, false},
		{"longer by above 0, then below", []int{1, 2, 1, -1}, []int{1, 2}, false},
		{"the least beneath the greatest", []int{math.MinInt}, []int{math.MaxInt}, true},
		{"the greatest beneath the least", []int{math.MaxInt}, []int{math.MinInt}, false},
		{"the least beneath itself", []int{math.MinInt}, []int{math.MinInt}, true},
		{"the least behind the end", []int{4, math.MinInt}, []int{4}, true},
		{"the greatest behind the end", []int{4, math.MaxInt}, []int{4}, false},
		{"below 0 beneath below 0", []int{-5, -3}, []int{-4, -3}, true},
		{"below 0 above below 0", []int{-4}, []int{-5}, false},
		{"a nought above below 0", []int{0}, []int{-1}, false},
	} {
		if got := impl.VecLeq(c.a, c.b); got != c.want {
			t.Errorf("%s: %v", c.why, got)
		}
	}
}

func TestVecLeqOfAnyTwo(t *testing.T) {
	for _, all := range [][][]int{oddVecs(), longVecs()} {
		for _, a := range all {
			for _, b := range all {
				if got := impl.VecLeq(a, b); got != leqByHand(a, b) {
					t.Fatalf("VecLeq(%v, %v) = %v", a, b, got)
				}
			}
			if !impl.VecLeq(a, a) {
				t.Fatalf("%v is not beneath itself", a)
			}
		}
	}
}

// Among numbers from 0 on it is an order: one beneath a second one beneath a third one is beneath that, and those beneath each other differ in noughts at the end alone.
func TestVecLeqIsAnOrder(t *testing.T) {
	all := listsUpTo(3, 0, 1, impl.MaxSeq)
	for _, a := range all {
		for _, b := range all {
			if impl.VecLeq(a, b) && impl.VecLeq(b, a) && !slices.Equal(padded(a, 3), padded(b, 3)) {
				t.Fatalf("%v and %v are beneath each other", a, b)
			}
			if impl.VecLeq(a, b) != slices.Equal(padded(impl.VecMax(a, b), 3), padded(b, 3)) {
				t.Fatalf("%v is beneath %v, or its greater one is another one", a, b)
			}
			for _, c := range all {
				if impl.VecLeq(a, b) && impl.VecLeq(b, c) && !impl.VecLeq(a, c) {
					t.Fatalf("%v beneath %v beneath %v", a, b, c)
				}
			}
		}
	}
}

func TestVecRaiseInWords(t *testing.T) {
	for _, c := range []struct {
		why   string
		v     []int
		at, n int
		want  []int
	}{
		{"the first place", []int{3, 4, 5}, 0, 9, []int{9, 4, 5}},
		{"a middle place", []int{3, 4, 5}, 1, 9, []int{3, 9, 5}},
		{"the last place", []int{3, 4, 5}, 2, 9, []int{3, 4, 9}},
		{"the only place", []int{3}, 0, 4, []int{4}},
		{"one less", []int{3, 4, 5}, 1, 3, []int{3, 4, 5}},
		{"the same", []int{3, 4, 5}, 1, 4, []int{3, 4, 5}},
		{"one more", []int{3, 4, 5}, 1, 5, []int{3, 5, 5}},
		{"ahead of all", []int{3, 4, 5}, -1, 9, []int{3, 4, 5}},
		{"behind all", []int{3, 4, 5}, 3, 9, []int{3, 4, 5}},
		{"farther behind", []int{3, 4, 5}, 4, 9, []int{3, 4, 5}},
		{"far ahead", []int{3, 4, 5}, math.MinInt, 9, []int{3, 4, 5}},
		{"far behind", []int{3, 4, 5}, math.MaxInt, 9, []int{3, 4, 5}},
		{"nothing", nil, 0, 9, nil},
		{"ahead of nothing", nil, -1, 9, nil},
		{"an empty list", []int{}, 0, 9, nil},
		{"from below 0 to below 0", []int{-5, -5}, 1, -4, []int{-5, -4}},
		{"from below 0 to 0", []int{-5, -5}, 0, 0, []int{0, -5}},
		{"from below 0 to less", []int{-5, -5}, 0, -6, []int{-5, -5}},
		{"to less below 0", []int{0}, 0, -1, []int{0}},
		{"from the least to the greatest", []int{math.MinInt}, 0, math.MaxInt, []int{math.MaxInt}},
		{"from the greatest to the least", []int{math.MaxInt}, 0, math.MinInt, []int{math.MaxInt}},
		{"above what is right", []int{impl.MaxSeq}, 0, impl.MaxSeq + 1, []int{impl.MaxSeq + 1}},
		{"below 0 at other places, and none to raise", []int{-1, -2}, 2, 5, []int{-1, -2}},
	} {
		if got := impl.VecRaise(c.v, c.at, c.n); !slices.Equal(got, c.want) {
			t.Errorf("%s: %v", c.why, got)
		}
	}
}

func placesAbout(v []int) []int {
	out := []int{math.MinInt, -impl.MaxSeq, math.MaxInt - 1, math.MaxInt}
	for at := -3; at <= len(v)+3; at++ {
		out = append(out, at)
	}
	return out
}

// numbersAbout: less than, the same as and greater than what is there, as far as there are such numbers.
func numbersAbout(v []int) []int {
	out := []int{math.MinInt, -1, 0, 1, impl.MaxSeq, math.MaxInt}
	for _, n := range v {
		out = append(out, max(n, math.MinInt+1)-1, n, min(n, math.MaxInt-1)+1)
	}
	return out
}

func TestVecRaiseAtEachPlace(t *testing.T) {
	for _, v := range append(oddVecs(), longVecs()[:16]...) {
		for _, at := range placesAbout(v) {
			for _, n := range numbersAbout(v) {
				got := impl.VecRaise(v, at, n)
				if !slices.Equal(got, raisedByHand(v, at, n)) {
					t.Fatalf("VecRaise(%v, %d, %d) = %v", v, at, n, got)
				}
				if !impl.VecLeq(v, got) || !slices.Equal(impl.VecRaise(got, at, n), got) {
					t.Fatalf("VecRaise(%v, %d, %d) = %v is less, or is raised again", v, at, n, got)
				}
			}
		}
	}
}

func TestVecText(t *testing.T) {
	for _, c := range []struct {
		v    []int
		want string
	}{
		{nil, ""},
		{[]int{}, ""},
		{[]int{0}, "0"},
		{[]int{7}, "7"},
		{[]int{-7}, "-7"},
		{[]int{100000}, "100000"},
		{[]int{3, 5}, "3,5"},
		{[]int{3, 5, 7}, "3,5,7"},
		{[]int{0, 0, 0, 0, 0}, "0,0,0,0,0"},
		{[]int{10, -1, 0, 100001}, "10,-1,0,100001"},
		{[]int{9, 8, 7, 6, 5, 4, 3}, "9,8,7,6,5,4,3"},
		{[]int{math.MaxInt, math.MinInt}, "9223372036854775807,-9223372036854775808"},
		{[]int{math.MinInt}, "-9223372036854775808"},
	} {
		if got := impl.VecText(c.v); got != c.want {
			t.Errorf("VecText(%v) = %q", c.v, got)
		}
	}
}

func TestVecTextIsReadAsItWas(t *testing.T) {
	for _, v := range slices.Concat(oddVecs(), longVecs()) {
		var read []int
		for word := range strings.SplitSeq(impl.VecText(v), ",") {
			if n, err := strconv.Atoi(word); err == nil && strconv.Itoa(n) == word {
				read = append(read, n)
			}
		}
		if text := impl.VecText(v); !slices.Equal(read, v) || strings.Count(text, ",") != max(len(v), 1)-1 {
			t.Fatalf("VecText(%v) = %q", v, text)
		}
	}
}

// memoryVecs: lists of each length, some with numbers below 0.
func memoryVecs() [][]int {
	return append(longVecs(), []int{}, []int{-1}, []int{4, -2, 0}, []int{math.MinInt, math.MaxInt})
}

func TestNothingIsWrittenIntoVecs(t *testing.T) {
	for _, v := range memoryVecs() {
		for _, w := range memoryVecs() {
			a, room := roomyInts(v)
			b, other := roomyInts(w)
			was, otherWas := slices.Clone(room), slices.Clone(other)
			impl.VecOk(a, len(a))
			impl.VecOk(a, len(a)+1)
			impl.VecMax(a, b)
			impl.VecMax(a, a)
			impl.VecLeq(a, b)
			impl.VecText(a)
			for _, at := range placesAbout(a) {
				impl.VecRaise(a, at, math.MaxInt)
				impl.VecRaise(a, at, math.MinInt)
			}
			if !slices.Equal(room, was) || !slices.Equal(other, otherWas) {
				t.Fatalf("%v or %v was written into: %v, %v", v, w, room, other)
			}
		}
	}
}

func TestSpareRoomBehindVecsIsNotRead(t *testing.T) {
	for _, v := range memoryVecs() {
		for _, w := range memoryVecs() {
			a, _ := roomyInts(v)
			b, _ := roomyInts(w)
			if got := impl.VecMax(a, b); !slices.Equal(got, maxByHand(v, w)) {
				t.Fatalf("VecMax(%v, %v) = %v with room behind them", v, w, got)
			}
			if got := impl.VecLeq(a, b); got != leqByHand(v, w) {
				t.Fatalf("VecLeq(%v, %v) = %v with room behind them", v, w, got)
			}
		}
		a, _ := roomyInts(v)
		for _, at := range placesAbout(v) {
			if got := impl.VecRaise(a, at, 500); !slices.Equal(got, raisedByHand(v, at, 500)) {
				t.Fatalf("VecRaise(%v, %d, 500) = %v with room behind it", v, at, got)
			}
		}
		if impl.VecText(a) != impl.VecText(v) {
			t.Fatalf("VecText(%v) = %q with room behind it", v, impl.VecText(a))
		}
	}
}

// checkNewVec: the answer turns with nothing that is written into the arguments later on, nor into another answer, nor they with it.
func checkNewVec(t *testing.T, v []int, w []int, call func(a []int, b []int) []int) {
	t.Helper()
	a, room := roomyInts(v)
	b, other := roomyInts(w)
	was, otherWas := slices.Clone(room), slices.Clone(other)
	got, again := call(a, b), call(a, b)
	want := slices.Clone(again)
	for _, x := range [][]int{room, other, again} {
		if spanOf(got).meets(spanOf(x)) {
			t.Fatalf("of %v, %v: the answer shares memory", v, w)
		}
	}
	scribbleInts(got)
	if !slices.Equal(room, was) || !slices.Equal(other, otherWas) {
		t.Fatalf("%v or %v turned with the answer", v, w)
	}
	scribbleInts(room)
	scribbleInts(other)
	if !slices.Equal(again, want) {
		t.Fatalf("the answer turned with %v, %v or another answer", v, w)
	}
}

func TestVecsAreNewMemory(t *testing.T) {
	for _, v := range memoryVecs() {
		for _, w := range memoryVecs() {
			checkNewVec(t, v, w, impl.VecMax)
		}
		checkNewVec(t, v, nil, func(a []int, b []int) []int { return impl.VecMax(a, nil) })
		checkNewVec(t, v, nil, func(a []int, b []int) []int { return impl.VecMax(nil, a) })
		checkNewVec(t, v, nil, func(a []int, b []int) []int { return impl.VecMax(a, a) })
		for _, at := range placesAbout(v) {
			for _, n := range []int{math.MinInt, 0, math.MaxInt} {
				checkNewVec(t, v, nil, func(a []int, b []int) []int { return impl.VecRaise(a, at, n) })
			}
		}
	}
}

// Two pieces of one list are held against each other as they were ahead of the call.
func TestVecsThatShareTheirMemory(t *testing.T) {
	whole := []int{5, 1, 4, 2, 3}
	was := slices.Clone(whole)
	for from := range whole {
		for to := range whole {
			a, b := whole[from:], whole[:to]
			if got := impl.VecMax(a, b); !slices.Equal(got, maxByHand(a, b)) {
				t.Errorf("VecMax(%v, %v) = %v", a, b, got)
			}
			if got := impl.VecRaise(b, from, 9); !slices.Equal(got, raisedByHand(b, from, 9)) {
				t.Errorf("VecRaise(%v, %d, 9) = %v", b, from, got)
			}
		}
	}
	if !slices.Equal(whole, was) {
		t.Error(whole)
	}
}
