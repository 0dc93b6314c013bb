package tests

import (
	"bytes"
	"encoding/binary"
	"fmt"
	"hash/crc32"
	"maps"
	"math"
	"runtime"
	"slices"
	"strings"
	"testing"
	"unsafe"

	"loop.example/g00487/impl"
)

// fullMsg: a message with something in every field.
func fullMsg() impl.Msg {
	return impl.Msg{
		Kind: impl.MsReply, From: 1, To: 2, Num: 7, Hi: 300,
		Tree:   impl.Tree{Leaves: []int{767, 64, 767, 1011}, Root: 883},
		Vec:    []int{1, 0, 128},
		Leaves: []int{0, 2},
		Part: impl.State{
			Items:  []impl.Item{{Id: 0, Entry: impl.Entry{Inc: 200, Beat: 90000, Ver: 4, Data: "x\x80y"}}, goneOf(1, 4)},
			Floors: []impl.Floor{{Id: 1, Inc: 2}, {Id: 3, Inc: 1000}},
		},
		Marks: []impl.Mark{{Id: 1, Inc: 4}, {Id: 3, Inc: 1000}},
	}
}

// fullBytes: that message, byte by byte.
func fullBytes() []byte {
	return slices.Concat(
		[]byte("RK"),
		[]byte{3, 1, 2, 7, 172, 2},
		[]byte{4, 255, 5, 64, 255, 5, 243, 7, 243, 6},
		[]byte{3, 1, 0, 128, 1},
		[]byte{2, 0, 2},
		[]byte{26},
		[]byte{2, 0, 200, 1, 0, 144, 191, 5, 4, 3, 'x', 128, 'y'},
		[]byte{1, 4, 1, 2, 0, 1, 'g'},
		[]byte{2, 1, 2, 3, 232, 7},
		[]byte{2, 1, 4, 3, 232, 7},
		[]byte{46, 201, 178, 95},
	)
}

// but: the full message with one thing about it turned.
func but(turn func(m *impl.Msg)) impl.Msg {
	m := fullMsg()
	turn(&m)
	return m
}

func listByHand(list []int) []byte { return append(wireOf(len(list)), wireOf(list...)...) }

// bodyByHand: all that stands ahead of the check sum, also of a message that is not right.
func bodyByHand(m impl.Msg) []byte {
	part := bytesByHand(m.Part)
	out := slices.Concat([]byte("RK"), wireOf(m.Kind, m.From, m.To, m.Num, m.Hi), listByHand(m.Tree.Leaves), wireOf(m.Tree.Root),
		listByHand(m.Vec), listByHand(m.Leaves), wireOf(len(part)), part, wireOf(len(m.Marks)))
	for _, k := range m.Marks {
		out = append(out, wireOf(k.Id, k.Inc)...)
	}
	return out
}

func sealed(body []byte) []byte {
	return binary.BigEndian.AppendUint32(slices.Clone(body), crc32.ChecksumIEEE(body))
}

func msgBytesByHand(m impl.Msg) []byte { return sealed(bodyByHand(m)) }

// numbersFrom0: no number is below 0 or above that one.
func numbersFrom0(most int, list ...int) bool {
	return len(list) == 0 || slices.Min(list) >= 0 && slices.Max(list) <= most
}

func msgOkByHand(m impl.Msg) bool {
	tree := len(m.Tree.Leaves) == 4 && numbersFrom0(1023, m.Tree.Leaves...) && numbersFrom0(1023, m.Tree.Root) ||
		len(m.Tree.Leaves) == 0 && m.Tree.Root == 0
	rising := true
	for i := 1; i < len(m.Leaves); i++ {
		rising = rising && m.Leaves[i-1] < m.Leaves[i]
	}
	return numbersFrom0(5, m.Kind) && numbersFrom0(4, m.From, m.To) && m.From != m.To && numbersFrom0(100000, m.Num, m.Hi) && tree &&
		len(m.Vec) <= 5 && numbersFrom0(100000, m.Vec...) && rising && numbersFrom0(3, m.Leaves...) && impl.StateOk(m.Part) && marksOkByHand(m.Marks)
}

// sameMsg holds each field against its like without the program.
func sameMsg(a impl.Msg, b impl.Msg) bool {
	return a.Kind == b.Kind && a.From == b.From && a.To == b.To && a.Num == b.Num && a.Hi == b.Hi && sameTree(a.Tree, b.Tree) &&
		slices.Equal(a.Vec, b.Vec) && slices.Equal(a.Leaves, b.Leaves) && sameState(a.Part, b.Part) && slices.Equal(a.Marks, b.Marks)
}

func isZeroMsg(m impl.Msg) bool { return sameMsg(m, impl.Msg{}) }

// handReader reads what stands in bytes by the library, and does not mind whether it is right or as short as can be.
type handReader struct {
	left   []byte
	broken bool
}

func (h *handReader) num() int {
	n, size := binary.Uvarint(h.left)
	if size <= 0 || n > math.MaxInt32 {
		h.broken = true
		return 0
	}
	h.left = h.left[size:]
	return int(n)
}

func (h *handReader) text() string {
	size := h.num()
	if h.broken || size > len(h.left) {
		h.broken = true
		return ""
	}
	out := string(h.left[:size])
	h.left = h.left[size:]
	return out
}

func listFrom[T any](h *handReader, one func() T) []T {
	var out []T
	for size := h.num(); len(out) < size && !h.broken; {
		out = append(out, one())
	}
	return out
}

func (h *handReader) state() impl.State {
	items := listFrom(h, func() impl.Item {
		id, inc, rank, beat, ver := h.num(), h.num(), h.num(), h.num(), h.num()
		return impl.Item{Id: id, Entry: impl.Entry{Inc: inc, Rank: rank, Beat: beat, Ver: ver, Data: h.text()}}
	})
	floors := listFrom(h, func() impl.Floor {
		id, inc := h.num(), h.num()
		return impl.Floor{Id: id, Inc: inc}
	})
	return impl.State{Items: items, Floors: floors}
}

func (h *handReader) msg() impl.Msg {
	var m impl.Msg
	for _, place := range []*int{&m.Kind, &m.From, &m.To, &m.Num, &m.Hi} {
		*place = h.num()
	}
	m.Tree.Leaves = listFrom(h, h.num)
	m.Tree.Root = h.num()
	m.Vec = listFrom(h, h.num)
	m.Leaves = listFrom(h, h.num)
	part := handReader{left: []byte(h.text())}
	m.Part = part.state()
	m.Marks = listFrom(h, func() impl.Mark {
		id, inc := h.num(), h.num()
		return impl.Mark{Id: id, Inc: inc}
	})
	return m
}

// stateOfByHand: the right state whose bytes these are.
func stateOfByHand(b []byte) (impl.State, bool) {
	h := handReader{left: b}
	s := h.state()
	if h.broken || !impl.StateOk(s) || !bytes.Equal(bytesByHand(s), b) {
		return impl.State{}, false
	}
	return s, true
}

// msgOfByHand: the right message whose bytes these are.
func msgOfByHand(b []byte) (impl.Msg, bool) {
	if len(b) < 2 {
		return impl.Msg{}, false
	}
	h := handReader{left: b[2:]}
	m := h.msg()
	if h.broken || !msgOkByHand(m) || !bytes.Equal(msgBytesByHand(m), b) {
		return impl.Msg{}, false
	}
	return m, true
}

func checkMsgOf(t *testing.T, why string, b []byte) bool {
	t.Helper()
	want, right := msgOfByHand(b)
	got, ok := impl.MsgOf(b)
	if ok != right || !sameMsg(got, want) {
		t.Fatalf("%s: MsgOf(%q) = %v, %v, not %v, %v", why, b, got, ok, want, right)
	}
	return ok
}

func checkStateOf(t *testing.T, why string, b []byte) bool {
	t.Helper()
	want, right := stateOfByHand(b)
	got, ok := impl.StateOf(b)
	if ok != right || !sameState(got, want) {
		t.Fatalf("%s: StateOf(%q) = %v, %v, not %v, %v", why, b, got, ok, want, right)
	}
	return ok
}

func checkNoMsg(t *testing.T, why string, b []byte) {
	t.Helper()
	if got, ok := impl.MsgOf(b); ok || !isZeroMsg(got) {
		t.Errorf("%s: MsgOf(%q) = %v, %v", why, b, got, ok)
	}
}

func checkNoState(t *testing.T, why string, b []byte) {
	t.Helper()
	if got, ok := impl.StateOf(b); ok || !isZeroState(got) {
		t.Errorf("%s: StateOf(%q) = %v, %v", why, b, got, ok)
	}
}

func TestKindsOfMessages(t *testing.T) {
	kinds := []int{impl.MsPush, impl.MsAck, impl.MsSyn, impl.MsReply, impl.MsLast, impl.MsBusy}
	if !slices.Equal(kinds, []int{0, 1, 2, 3, 4, 5}) {
		t.Error(kinds)
	}
}

// leavesLists: each row of up to three numbers from -1 to one beyond the last leaf, and longer ones.
func leavesLists() [][]int {
	return append(listsUpTo(3, -1, 0, 1, 2, 3, 4), []int{}, []int{0, 1, 2, 3}, []int{3, 2, 1, 0}, []int{0, 1, 3, 2}, []int{0, 1, 2, 2}, []int{0, 0, 1, 2},
		[]int{0, 1, 2, 3, 3}, []int{0, 1, 2, 3, 4}, []int{-1, 0, 1, 2, 3}, []int{0, 1, 2, 3, 0, 1, 2, 3}, make([]int, 100),
		[]int{math.MinInt, 0}, []int{0, math.MaxInt}, []int{math.MaxInt, math.MinInt}, []int{math.MinInt})
}

// vecsOfMsgs: none up to two more than MaxNodes, one number at each place, and each of those at the edges.
func vecsOfMsgs() [][]int {
	out := [][]int{nil, {}, make([]int, 1000)}
	for size := range impl.MaxNodes + 3 {
		for at := range size {
			for _, n := range []int{math.MinInt, -1, 0, 1, 127, 128, impl.MaxSeq - 1, impl.MaxSeq, impl.MaxSeq + 1, math.MaxInt} {
				v := slices.Repeat([]int{3}, size)
				v[at] = n
				out = append(out, v)
			}
		}
	}
	return out
}

// treesOfMsgs: none up to twice as many Leaves as there are, each number at the edges, and each Root.
func treesOfMsgs() []impl.Tree {
	edges := []int{math.MinInt, -1, 0, 1, 127, 128, impl.SumMod - 1, impl.SumMod, math.MaxInt}
	out := slices.Concat(oddTrees(), brokenTrees(), []impl.Tree{{Leaves: []int{}}, impl.TreeOf(impl.State{}), impl.TreeOf(mixedState())})
	for _, n := range edges {
		out = append(out, impl.Tree{Root: n}, impl.Tree{Leaves: []int{}, Root: n})
		for size := range 2*impl.Leaves + 1 {
			out = append(out, impl.Tree{Leaves: slices.Repeat([]int{5}, size), Root: n})
			for at := range size {
				leaves := slices.Repeat([]int{5}, size)
				leaves[at] = n
				out = append(out, impl.Tree{Leaves: leaves, Root: 9}, impl.Tree{Leaves: leaves})
			}
		}
	}
	return out
}

// headMsgs: each number that stands ahead of all lists at its edges, and any two of From and To.
func headMsgs() []impl.Msg {
	var out []impl.Msg
	for _, kind := range []int{math.MinInt, -1, 0, 1, 2, 3, 4, 5, 6, 127, 128, math.MaxInt} {
		out = append(out, but(func(m *impl.Msg) { m.Kind = kind }))
	}
	for _, from := range probedIds() {
		for _, to := range probedIds() {
			out = append(out, but(func(m *impl.Msg) { m.From, m.To = from, to }))
		}
	}
	for _, n := range []int{math.MinInt, -1, 0, 1, 127, 128, 16383, 16384, impl.MaxSeq - 1, impl.MaxSeq, impl.MaxSeq + 1, math.MaxInt} {
		out = append(out, but(func(m *impl.Msg) { m.Num = n }), but(func(m *impl.Msg) { m.Hi = n }), but(func(m *impl.Msg) { m.Num, m.Hi = n, n }))
	}
	return out
}

// withEach: the full message with each of these put into it.
func withEach[T any](list []T, put func(m *impl.Msg, x T)) []impl.Msg {
	var out []impl.Msg
	for _, x := range list {
		out = append(out, but(func(m *impl.Msg) { put(m, x) }))
	}
	return out
}

// allMsgs: right and wrong ones, where one thing about each is at an edge or beyond it.
func allMsgs() []impl.Msg {
	states := slices.AppendSeq(treeStates(), maps.Values(moreWrongStates()))
	marks := slices.AppendSeq(someMarks(), maps.Values(wrongMarks()))
	return slices.Concat(
		headMsgs(),
		[]impl.Msg{{}, {To: 1}, fullMsg()},
		withEach(treesOfMsgs(), func(m *impl.Msg, x impl.Tree) { m.Tree = x }),
		withEach(vecsOfMsgs(), func(m *impl.Msg, x []int) { m.Vec = x }),
		withEach(leavesLists(), func(m *impl.Msg, x []int) { m.Leaves = x }),
		withEach(states, func(m *impl.Msg, x impl.State) { m.Part = x }),
		withEach(marks, func(m *impl.Msg, x []impl.Mark) { m.Marks = x }),
	)
}

func TestMsgOk(t *testing.T) {
	right := 0
	for _, m := range allMsgs() {
		want := msgOkByHand(m)
		if got := impl.MsgOk(m); got != want {
			t.Fatalf("MsgOk(%v) = %v", m, got)
		}
		if want {
			right++
		}
	}
	if right < 500 {
		t.Error("right ones: ", right)
	}
}

func TestMsgOkInWords(t *testing.T) {
	for why, m := range map[string]impl.Msg{
		"with every field":             fullMsg(),
		"with no list":                 {Kind: impl.MsPush, From: 0, To: 1},
		"with empty lists":             {To: 1, Tree: impl.Tree{Leaves: []int{}}, Vec: []int{}, Leaves: []int{}, Marks: []impl.Mark{}},
		"the last Kind, the last node": but(func(m *impl.Msg) { m.Kind, m.From, m.To = impl.MsBusy, impl.MaxNodes-1, 0 }),
		"to the last node":             but(func(m *impl.Msg) { m.From, m.To = 0, impl.MaxNodes-1 }),
		"the greatest numbers":         but(func(m *impl.Msg) { m.Num, m.Hi = impl.MaxSeq, impl.MaxSeq }),
		"noughts":                      but(func(m *impl.Msg) { m.Num, m.Hi = 0, 0 }),
		"no Leaves and Root 0":         but(func(m *impl.Msg) { m.Tree = impl.Tree{} }),
		"Leaves and Root 0":            but(func(m *impl.Msg) { m.Tree = impl.Tree{Leaves: []int{0, 0, 0, 0}} }),
		"the greatest sums":            but(func(m *impl.Msg) { m.Tree = impl.Tree{Leaves: []int{1023, 1023, 1023, 1023}, Root: 1023} }),
		"a Root of another tree":       but(func(m *impl.Msg) { m.Tree.Root = 1 }),
		"a number for each node":       but(func(m *impl.Msg) { m.Vec = []int{100000, 0, 100000, 0, 100000} }),
		"all leaves":                   but(func(m *impl.Msg) { m.Leaves = []int{0, 1, 2, 3} }),
		"first and last leaf":          but(func(m *impl.Msg) { m.Leaves = []int{0, 3} }),
		"no Part":                      but(func(m *impl.Msg) { m.Part = impl.State{} }),
		"marks of all":                 but(func(m *impl.Msg) { m.Marks = marksAt(1, 1000, 1, 1000, 1) }),
	} {
		if !impl.MsgOk(m) || !msgOkByHand(m) {
			t.Errorf("%s: %v is not MsgOk", why, m)
		}
	}
	for why, m := range wrongMsgs() {
		if impl.MsgOk(m) || msgOkByHand(m) {
			t.Errorf("%s: %v is MsgOk", why, m)
		}
	}
}

// wrongMsgs: messages that are not MsgOk, by why.
func wrongMsgs() map[string]impl.Msg {
	out := map[string]impl.Msg{
		"a zero one":                        {},
		"Kind -1":                           but(func(m *impl.Msg) { m.Kind = -1 }),
		"Kind beyond the last":              but(func(m *impl.Msg) { m.Kind = impl.MsBusy + 1 }),
		"From -1":                           but(func(m *impl.Msg) { m.From = -1 }),
		"From no node":                      but(func(m *impl.Msg) { m.From = impl.MaxNodes }),
		"To -1":                             but(func(m *impl.Msg) { m.To = -1 }),
		"To no node":                        but(func(m *impl.Msg) { m.To = impl.MaxNodes }),
		"to itself":                         but(func(m *impl.Msg) { m.To = m.From }),
		"both no node":                      but(func(m *impl.Msg) { m.From, m.To = 5, 6 }),
		"Num -1":                            but(func(m *impl.Msg) { m.Num = -1 }),
		"Num too great":                     but(func(m *impl.Msg) { m.Num = impl.MaxSeq + 1 }),
		"Hi -1":                             but(func(m *impl.Msg) { m.Hi = -1 }),
		"Hi too great":                      but(func(m *impl.Msg) { m.Hi = impl.MaxSeq + 1 }),
		"no Leaves and Root 1":              but(func(m *impl.Msg) { m.Tree = impl.Tree{Root: 1} }),
		"no Leaves and Root -1":             but(func(m *impl.Msg) { m.Tree = impl.Tree{Leaves: []int{}, Root: -1} }),
		"one leaf":                          but(func(m *impl.Msg) { m.Tree = impl.Tree{Leaves: []int{0}} }),
		"a leaf less":                       but(func(m *impl.Msg) { m.Tree.Leaves = []int{1, 2, 3} }),
		"a leaf more":                       but(func(m *impl.Msg) { m.Tree.Leaves = []int{1, 2, 3, 4, 5} }),
		"the first sum -1":                  but(func(m *impl.Msg) { m.Tree.Leaves[0] = -1 }),
		"the last sum too great":            but(func(m *impl.Msg) { m.Tree.Leaves[3] = impl.SumMod }),
		"Root -1":                           but(func(m *impl.Msg) { m.Tree.Root = -1 }),
		"Root too great":                    but(func(m *impl.Msg) { m.Tree.Root = impl.SumMod }),
		"Vec of more than all":              but(func(m *impl.Msg) { m.Vec = make([]int, impl.MaxNodes+1) }),
		"Vec with -1":                       but(func(m *impl.Msg) { m.Vec = []int{0, 0, -1} }),
		"Vec with too much":                 but(func(m *impl.Msg) { m.Vec = []int{0, impl.MaxSeq + 1, 0} }),
		"a leaf that is none":               but(func(m *impl.Msg) { m.Leaves = []int{0, 4} }),
		"a leaf below 0":                    but(func(m *impl.Msg) { m.Leaves = []int{-1, 0} }),
		"a leaf twice":                      but(func(m *impl.Msg) { m.Leaves = []int{1, 1} }),
		"leaves descending":                 but(func(m *impl.Msg) { m.Leaves = []int{2, 1} }),
		"the last two leaves descending":    but(func(m *impl.Msg) { m.Leaves = []int{0, 3, 2} }),
		"a leaf twice, not side by side":    but(func(m *impl.Msg) { m.Leaves = []int{0, 1, 0} }),
		"more leaves than there are":        but(func(m *impl.Msg) { m.Leaves = []int{0, 1, 2, 3, 3} }),
		"a number that PutNum can't write":  but(func(m *impl.Msg) { m.Hi = 2147483648 }),
		"a leaf that PutNum can't write":    but(func(m *impl.Msg) { m.Leaves = []int{0, 2147483648} }),
		"a Root that is a sum and 2 to 32":  but(func(m *impl.Msg) { m.Tree.Root += 1 << 32 }),
		"a node that is a node and 2 to 32": but(func(m *impl.Msg) { m.To += 1 << 32 }),
	}
	for why, s := range moreWrongStates() {
		out["Part with "+why] = but(func(m *impl.Msg) { m.Part = s })
	}
	for why, marks := range wrongMarks() {
		out["Marks "+why] = but(func(m *impl.Msg) { m.Marks = marks })
	}
	return out
}

func TestMsgBytesOfTheFullMessage(t *testing.T) {
	if got := impl.MsgBytes(fullMsg()); !slices.Equal(got, fullBytes()) {
		t.Errorf("%v, not %v", got, fullBytes())
	}
	if !slices.Equal(msgBytesByHand(fullMsg()), fullBytes()) {
		t.Errorf("by hand %v", msgBytesByHand(fullMsg()))
	}
}

func TestMsgBytesOfTheLeastMessage(t *testing.T) {
	m := impl.Msg{Kind: impl.MsAck, From: 4, To: 0, Hi: impl.MaxSeq}
	want := sealed([]byte{'R', 'K', 1, 4, 0, 0, 160, 141, 6, 0, 0, 0, 0, 2, 0, 0, 0})
	if got := impl.MsgBytes(m); !slices.Equal(got, want) {
		t.Errorf("%v, not %v", got, want)
	}
}

// What is sent is read as it was.
func TestWhatIsSentIsReadAsItWas(t *testing.T) {
	for _, m := range allMsgs() {
		b := impl.MsgBytes(m)
		if !msgOkByHand(m) {
			if len(b) != 0 {
				t.Fatalf("MsgBytes(%v) = %q", m, b)
			}
			continue
		}
		if !slices.Equal(b, msgBytesByHand(m)) {
			t.Fatalf("MsgBytes(%v) = %q, not %q", m, b, msgBytesByHand(m))
		}
		back, ok := impl.MsgOf(b)
		if !ok || !sameMsg(back, m) || !impl.MsgSame(back, m) || !impl.MsgOk(back) {
			t.Fatalf("%v is read as %v, %v", m, back, ok)
		}
	}
	for why, m := range wrongMsgs() {
		if got := impl.MsgBytes(m); len(got) != 0 {
			t.Errorf("%s: MsgBytes(%v) = %q", why, m, got)
		}
	}
}

// someMsgs: few, with all that there can be in them, with nothing, and with something.
func someMsgs() []impl.Msg {
	full := but(func(m *impl.Msg) {
		m.Num, m.Hi = impl.MaxSeq, impl.MaxSeq
		m.Tree = impl.Tree{Leaves: []int{1023, 1023, 1023, 1023}, Root: 1023}
		m.Vec = slices.Repeat([]int{impl.MaxSeq}, impl.MaxNodes)
		m.Leaves = []int{0, 1, 2, 3}
		m.Part = impl.State{}
		for id := range impl.MaxNodes {
			e := impl.Entry{Inc: impl.MaxInc, Rank: id % 2, Beat: impl.MaxBeat, Ver: impl.MaxVer, Data: strings.Repeat("\xff", impl.MaxData)}
			m.Part.Items = append(m.Part.Items, impl.Item{Id: id, Entry: e})
			m.Part.Floors = append(m.Part.Floors, impl.Floor{Id: id, Inc: impl.MaxInc - 1})
		}
		m.Marks = marksAt(1000, 1000, 1000, 1000, 1000)
	})
	return []impl.Msg{fullMsg(), full, {To: 1}, {Kind: impl.MsBusy, From: 3, To: 4, Vec: []int{0, 0, 0, 0, 0}, Marks: marksAt(0, 0, 0, 0, 1)}}
}

// One byte that is another one is told.
func TestOneByteThatIsAnotherOneIsTold(t *testing.T) {
	for _, m := range someMsgs() {
		b := impl.MsgBytes(m)
		for at := range b {
			for x := 1; x < 256; x++ {
				b[at] ^= byte(x)
				checkNoMsg(t, fmt.Sprintf("byte %d turned by %d", at, x), b)
				b[at] ^= byte(x)
			}
		}
		if _, ok := impl.MsgOf(b); !ok {
			t.Fatal("the bytes are not what they were")
		}
	}
}

func TestWhatIsTooShortOrTooLongIsNoMessage(t *testing.T) {
	for _, m := range someMsgs() {
		b := impl.MsgBytes(m)
		for size := range b {
			checkNoMsg(t, "a beginning", b[:size])
			checkNoMsg(t, "an end", b[size+1:])
			checkNoMsg(t, "without one byte", slices.Concat(b[:size], b[size+1:]))
			checkNoMsg(t, "with one byte twice", slices.Insert(slices.Clone(b), size, b[size]))
			checkMsgOf(t, "a beginning, sealed", sealed(b[:size]))
		}
		for x := range 256 {
			checkNoMsg(t, "a byte behind it", append(slices.Clone(b), byte(x)))
			checkNoMsg(t, "a byte ahead of it", append([]byte{byte(x)}, b...))
			checkNoMsg(t, "a byte behind it, sealed", sealed(append(bodyByHand(m), byte(x))))
			checkNoMsg(t, "a byte ahead of it, sealed", sealed(append([]byte{byte(x)}, bodyByHand(m)...)))
		}
		checkNoMsg(t, "twice", append(slices.Clone(b), b...))
		checkNoMsg(t, "sealed again", sealed(b))
		checkNoMsg(t, "with many noughts behind it", append(slices.Clone(b), make([]byte, 5000)...))
	}
	for _, b := range [][]byte{nil, {}, {0}, {0, 0}, {0, 0, 0}, {0, 0, 0, 0}, {255, 255, 255, 255}, sealed(nil), sealed([]byte("R")), sealed([]byte("RK")),
		sealed([]byte{'R', 'K', 0}), []byte("RK"), make([]byte, 1000), bytes.Repeat([]byte{255}, 1000), bytes.Repeat([]byte("RK"), 100)} {
		checkNoMsg(t, "nothing of a message", b)
	}
}

func TestTheSignAndTheSeal(t *testing.T) {
	body := bodyByHand(fullMsg())
	for _, sign := range []string{"", "R", "K", "KR", "rk", "RKR", "RKRK", "Rk", "\x00\x00", "RK ", " RK"} {
		checkNoMsg(t, "the sign is "+sign, sealed(append([]byte(sign), body[2:]...)))
	}
	checkNoMsg(t, "the sign is none, and neither is the seal", body[2:])
	sum := crc32.ChecksumIEEE(body)
	for why, seal := range map[string][]byte{
		"none":                      nil,
		"the low byte first":        binary.LittleEndian.AppendUint32(nil, sum),
		"turned about":              binary.BigEndian.AppendUint32(nil, ^sum),
		"one more":                  binary.BigEndian.AppendUint32(nil, sum+1),
		"noughts":                   {0, 0, 0, 0},
		"without the sign":          binary.BigEndian.AppendUint32(nil, crc32.ChecksumIEEE(body[2:])),
		"the low three bytes":       binary.BigEndian.AppendUint32(nil, sum)[1:],
		"eight bytes":               binary.BigEndian.AppendUint64(nil, uint64(sum)),
		"a number as all other are": wireOf(int(sum)),
		"of another kind":           binary.BigEndian.AppendUint32(nil, crc32.Checksum(body, crc32.MakeTable(crc32.Castagnoli))),
	} {
		checkNoMsg(t, "the seal is "+why, append(slices.Clone(body), seal...))
	}
	checkMsgOf(t, "the right seal", append(slices.Clone(body), binary.BigEndian.AppendUint32(nil, sum)...))
}

// With a right check sum ahead of all it is the parts that tell: each byte of a message is another one, is left away, or comes twice.
func TestSealedBytesThatAreOtherOnes(t *testing.T) {
	read := 0
	for _, m := range someMsgs() {
		body := bodyByHand(m)
		for at := range body {
			for x := range 256 {
				was := body[at]
				body[at] = byte(x)
				if checkMsgOf(t, fmt.Sprintf("byte %d is %d", at, x), sealed(body)) {
					read++
				}
				body[at] = was
			}
			checkMsgOf(t, "without one byte", sealed(slices.Concat(body[:at], body[at+1:])))
			checkMsgOf(t, "with one byte twice", sealed(slices.Insert(slices.Clone(body), at, body[at])))
			for _, x := range []byte{0, 1, 127, 128, 255} {
				checkMsgOf(t, "with one byte more", sealed(slices.Insert(slices.Clone(body), at, x)))
			}
		}
	}
	if read < 1000 {
		t.Error("messages among these: ", read)
	}
}

func TestSealedMessagesThatAreNotRight(t *testing.T) {
	for why, m := range wrongMsgs() {
		checkNoMsg(t, why, msgBytesByHand(m))
	}
	for _, m := range allMsgs() {
		if got, ok := impl.MsgOf(msgBytesByHand(m)); ok != msgOkByHand(m) || ok && !sameMsg(got, m) || !ok && !isZeroMsg(got) {
			t.Fatalf("MsgOf of the bytes of %v = %v, %v", m, got, ok)
		}
	}
}

// statePieces: the bytes of a state, each number and each text by itself.
func statePieces(s impl.State) [][]byte {
	out := [][]byte{wireOf(len(s.Items))}
	for _, x := range s.Items {
		e := x.Entry
		for _, n := range []int{x.Id, e.Inc, e.Rank, e.Beat, e.Ver, len(e.Data)} {
			out = append(out, wireOf(n))
		}
		out = append(out, []byte(e.Data))
	}
	out = append(out, wireOf(len(s.Floors)))
	for _, f := range s.Floors {
		out = append(out, wireOf(f.Id), wireOf(f.Inc))
	}
	return out
}

// listPieces: how many there are and each, by itself.
func listPieces(list []int) [][]byte {
	out := [][]byte{wireOf(len(list))}
	for _, n := range list {
		out = append(out, wireOf(n))
	}
	return out
}

// around: what stands ahead of the Part of a message and behind it, each number by itself.
func around(m impl.Msg) ([][]byte, [][]byte) {
	ahead := [][]byte{[]byte("RK"), wireOf(m.Kind), wireOf(m.From), wireOf(m.To), wireOf(m.Num), wireOf(m.Hi)}
	ahead = slices.Concat(ahead, listPieces(m.Tree.Leaves), [][]byte{wireOf(m.Tree.Root)}, listPieces(m.Vec), listPieces(m.Leaves))
	behind := [][]byte{wireOf(len(m.Marks))}
	for _, k := range m.Marks {
		behind = append(behind, wireOf(k.Id), wireOf(k.Inc))
	}
	return ahead, behind
}

func together(pieces [][]byte) []byte { return slices.Concat(pieces...) }

// otherPieces: in place of a number one that is written too long, a greater one, a lesser one, one that is above all, none.
func otherPieces(piece []byte) [][]byte {
	long := slices.Clone(piece)
	if len(long) > 0 {
		long[len(long)-1] |= 128
	}
	n, _ := binary.Uvarint(piece)
	return [][]byte{
		append(slices.Clone(long), 0), append(slices.Clone(long), 128, 0), append(slices.Clone(long), 128, 128, 128, 128, 128, 128, 128, 128, 0),
		wireOf(int(n) + 1), wireOf(max(int(n), 1) - 1), wireOf(int(n) + 256), wireOf(int(n) + 1<<32),
		wireOf(math.MaxInt32), wireOf(math.MaxInt32 + 1), wireOf(math.MaxInt), wireOf(-1), {}, {128}, {255, 255, 255, 255, 255},
	}
}

// replaced: the pieces with that one in the place of another one.
func replaced(pieces [][]byte, at int, piece []byte) [][]byte {
	out := slices.Clone(pieces)
	out[at] = piece
	return out
}

// Numbers that are written too long, lists that are longer or shorter than they say, by a right check sum.
func TestSealedMessagesWithOtherNumbers(t *testing.T) {
	for _, m := range someMsgs() {
		ahead, behind := around(m)
		part := bytesByHand(m.Part)
		join := func(ahead [][]byte, part []byte, behind [][]byte) []byte {
			return sealed(slices.Concat(together(ahead), wireOf(len(part)), part, together(behind)))
		}
		if !checkMsgOf(t, "as it was", join(ahead, part, behind)) {
			t.Fatal("the pieces do not make the message")
		}
		for at := range ahead {
			for _, piece := range otherPieces(ahead[at]) {
				checkMsgOf(t, "another number ahead", join(replaced(ahead, at, piece), part, behind))
			}
		}
		for at := range behind {
			for _, piece := range otherPieces(behind[at]) {
				checkMsgOf(t, "another number behind", join(ahead, part, replaced(behind, at, piece)))
			}
		}
		for at, pieces := 0, statePieces(m.Part); at < len(pieces); at++ {
			for _, piece := range otherPieces(pieces[at]) {
				checkMsgOf(t, "another number in Part", join(ahead, together(replaced(pieces, at, piece)), behind))
			}
		}
		for _, size := range otherPieces(wireOf(len(part))) {
			checkNoMsg(t, "another size of Part", sealed(slices.Concat(together(ahead), size, part, together(behind))))
		}
	}
}

// A number by itself is written too long in no place of a message.
func TestNumbersThatAreWrittenTooLong(t *testing.T) {
	m := fullMsg()
	ahead, behind := around(m)
	pieces := slices.Concat(ahead, [][]byte{wireOf(len(bytesByHand(m.Part))), bytesByHand(m.Part)}, behind)
	if !slices.Equal(sealed(together(pieces)), fullBytes()) {
		t.Fatal("the pieces do not make the message")
	}
	for at := range pieces {
		if at == 0 || at == len(ahead)+1 {
			continue
		}
		long := slices.Clone(pieces[at])
		long[len(long)-1] |= 128
		checkNoMsg(t, fmt.Sprint("number ", at, " too long"), sealed(together(replaced(pieces, at, append(long, 0)))))
	}
	inner := statePieces(m.Part)
	for at := range inner {
		if string(inner[at]) == "x\x80y" || string(inner[at]) == "g" {
			continue
		}
		long := slices.Clone(inner[at])
		long[len(long)-1] |= 128
		b := together(replaced(inner, at, append(long, 0)))
		checkNoState(t, fmt.Sprint("number ", at, " too long"), b)
		checkNoMsg(t, fmt.Sprint("number ", at, " of Part too long"),
			sealed(slices.Concat(together(ahead), wireOf(len(b)), b, together(behind))))
	}
}

func TestAPartThatIsNoState(t *testing.T) {
	ahead, behind := around(fullMsg())
	for why, part := range map[string][]byte{
		"nothing":                nil,
		"one nought":             {0},
		"three noughts":          {0, 0, 0},
		"a byte behind it":       append(bytesByHand(mixedState()), 0),
		"a byte less":            bytesByHand(mixedState())[:len(bytesByHand(mixedState()))-1],
		"twice":                  append(bytesByHand(mixedState()), bytesByHand(mixedState())...),
		"the bytes of a message": fullBytes(),
		"five items, none there": {5},
		"Floors alone":           {1, 1, 1},
	} {
		checkNoMsg(t, why, sealed(slices.Concat(together(ahead), wireOf(len(part)), part, together(behind))))
		checkNoState(t, why, part)
	}
	b := sealed(slices.Concat(together(ahead), wireOf(2), []byte{0, 0}, together(behind)))
	if got, ok := impl.MsgOf(b); !ok || !sameMsg(got, but(func(m *impl.Msg) { m.Part = impl.State{} })) {
		t.Errorf("no Part: %v, %v", got, ok)
	}
}

// A list that says that it is long takes no more room than the bytes are worth, and is left at once.
func TestListsThatSayThatTheyAreLong(t *testing.T) {
	noughts := make([]byte, 1<<18)
	head := []byte{'R', 'K', 0, 0, 1, 0, 0}
	for _, size := range []int{6, 1000, 40000, 1 << 17, 1 << 18, math.MaxInt32} {
		long := append(wireOf(size), noughts...)
		for why, b := range map[string][]byte{
			"Items":          long,
			"Floors":         append([]byte{0}, long...),
			"sums":           sealed(slices.Concat(head, long)),
			"Vec":            sealed(slices.Concat(head, []byte{0, 0}, long)),
			"Leaves":         sealed(slices.Concat(head, []byte{0, 0, 0}, long)),
			"Marks":          sealed(slices.Concat(head, []byte{0, 0, 0, 0, 2, 0, 0}, long)),
			"Items of Part":  sealed(slices.Concat(head, []byte{0, 0, 0, 0}, wireOf(len(long)), long, []byte{0})),
			"Floors of Part": sealed(slices.Concat(head, []byte{0, 0, 0, 0}, wireOf(len(long)+1), []byte{0}, long, []byte{0})),
		} {
			checkNoState(t, why, b)
			checkNoMsg(t, why, b)
			// What is read of Part at all is one text, of as many bytes as there are, and these once more.
			if used := bytesUsed(func() { impl.StateOf(b); impl.MsgOf(b) }); used > uint64(5*len(b)) {
				t.Errorf("%s that say %d: %d bytes", why, size, used)
			}
		}
	}
}

func bytesUsed(call func()) uint64 {
	var was, is runtime.MemStats
	runtime.ReadMemStats(&was)
	call()
	runtime.ReadMemStats(&is)
	return is.TotalAlloc - was.TotalAlloc
}

func TestStatesAreReadAsTheyWere(t *testing.T) {
	for _, s := range treeStates() {
		got, ok := impl.StateOf(impl.StateBytes(s))
		if !ok || !sameState(got, s) || !impl.StateSame(got, s) || !slices.Equal(impl.StateBytes(got), bytesByHand(s)) {
			t.Fatalf("%v is read as %v, %v", s, got, ok)
		}
	}
	for why, s := range moreWrongStates() {
		checkNoState(t, why, bytesByHand(s))
	}
	for why, b := range map[string][]byte{
		"nothing":              nil,
		"an empty list":        {},
		"one nought":           {0},
		"three noughts":        {0, 0, 0},
		"a number too long":    {128, 0, 0},
		"an item and no more":  {1},
		"a Floor and no more":  {0, 1},
		"half a Floor":         {0, 1, 1},
		"an item, no Floors":   {1, 0, 1, 0, 0, 0, 0},
		"an item without Data": {1, 0, 1, 0, 0, 0},
		"Data too short":       {1, 0, 1, 0, 0, 0, 2, 'a'},
		"Data that eats it up": {1, 0, 1, 0, 0, 0, 1, 0},
		"Rank 2":               {1, 0, 1, 2, 0, 0, 0, 0},
		"Inc 0":                {1, 0, 0, 0, 0, 0, 0, 0},
		"nobody's item":        {1, 5, 1, 0, 0, 0, 0, 0},
		"nobody's Floor":       {0, 1, 5, 1},
		"items descending":     {2, 1, 1, 0, 0, 0, 0, 0, 1, 0, 0, 0, 0, 0},
		"Floors descending":    {0, 2, 1, 1, 0, 1},
		"an item that is over": {1, 0, 1, 0, 0, 0, 0, 1, 0, 1},
		"a byte behind all":    {0, 1, 0, 1, 0},
		"a number that ends":   {0, 1, 0, 128},
		"items without an end": {128, 128, 128, 128, 128, 128},
		"a nought, a hundred":  make([]byte, 100),
		"text of a state":      []byte("0=1u0.0:"),
	} {
		checkNoState(t, why, b)
	}
	if got, ok := impl.StateOf([]byte{1, 0, 1, 0, 0, 0, 1, 0, 0}); !ok || !sameState(got, saidOf(0, impl.Entry{Inc: 1, Data: "\x00"})) {
		t.Errorf("Data of a nought: %v, %v", got, ok)
	}
	if got, ok := impl.StateOf([]byte{0, 0}); !ok || !isZeroState(got) {
		t.Errorf("two noughts: %v, %v", got, ok)
	}
}

func TestStateOfAllShortBytes(t *testing.T) {
	read := 0
	for n := range 1 << 17 {
		b := []byte{byte(n >> 8), byte(n)}
		if n >= 1<<16 {
			b = []byte{0, byte(n >> 8), byte(n)}
		}
		if checkStateOf(t, "short", b) {
			read++
		}
	}
	for id := range 256 {
		for inc := range 1 << 14 {
			if checkStateOf(t, "a Floor", []byte{0, 1, byte(id), byte(inc>>7 | 128), byte(inc & 127)}) {
				read++
			}
			// These ids alone are looked at with each Inc: the others are no nodes.
			if id > 7 && inc > 300 {
				break
			}
		}
	}
	if read != 1+5*(impl.MaxInc-127) {
		t.Error("states among these: ", read)
	}
}

func TestOtherBytesOfStates(t *testing.T) {
	read := 0
	for _, m := range someMsgs() {
		b := bytesByHand(m.Part)
		for at := range b {
			for x := range 256 {
				was := b[at]
				b[at] = byte(x)
				if checkStateOf(t, fmt.Sprintf("byte %d is %d", at, x), b) {
					read++
				}
				b[at] = was
			}
			checkNoState(t, "a beginning", b[:at])
			checkStateOf(t, "an end", b[at:])
			checkStateOf(t, "without one byte", slices.Concat(b[:at], b[at+1:]))
			checkStateOf(t, "with one byte twice", slices.Insert(slices.Clone(b), at, b[at]))
		}
		for x := range 256 {
			checkNoState(t, "a byte behind it", append(slices.Clone(b), byte(x)))
			checkStateOf(t, "a byte ahead of it", append([]byte{byte(x)}, b...))
		}
		for at, pieces := 0, statePieces(m.Part); at < len(pieces); at++ {
			for _, piece := range otherPieces(pieces[at]) {
				checkStateOf(t, "another number", together(replaced(pieces, at, piece)))
			}
		}
	}
	if read < 500 {
		t.Error("states among these: ", read)
	}
}

// turnedMsgs: the full message, and those that differ from it in one field alone.
func turnedMsgs() map[string]impl.Msg {
	return map[string]impl.Msg{
		"nothing":          fullMsg(),
		"Kind":             but(func(m *impl.Msg) { m.Kind = impl.MsLast }),
		"Kind, wrong":      but(func(m *impl.Msg) { m.Kind = -1 }),
		"From":             but(func(m *impl.Msg) { m.From = 3 }),
		"To":               but(func(m *impl.Msg) { m.To = 3 }),
		"Num":              but(func(m *impl.Msg) { m.Num = 8 }),
		"Num, far":         but(func(m *impl.Msg) { m.Num = math.MaxInt }),
		"Hi":               but(func(m *impl.Msg) { m.Hi = 301 }),
		"Hi, far":          but(func(m *impl.Msg) { m.Hi = math.MinInt }),
		"Num and Hi":       but(func(m *impl.Msg) { m.Num, m.Hi = m.Hi, m.Num }),
		"From and To":      but(func(m *impl.Msg) { m.From, m.To = m.To, m.From }),
		"a sum":            but(func(m *impl.Msg) { m.Tree.Leaves[3] = 1010 }),
		"a sum less":       but(func(m *impl.Msg) { m.Tree.Leaves = m.Tree.Leaves[:3] }),
		"a sum more":       but(func(m *impl.Msg) { m.Tree.Leaves = append(m.Tree.Leaves, 0) }),
		"no sums":          but(func(m *impl.Msg) { m.Tree.Leaves = nil }),
		"Root":             but(func(m *impl.Msg) { m.Tree.Root = 884 }),
		"Vec":              but(func(m *impl.Msg) { m.Vec[2] = 129 }),
		"Vec less":         but(func(m *impl.Msg) { m.Vec = m.Vec[:2] }),
		"Vec, one 0 more":  but(func(m *impl.Msg) { m.Vec = append(m.Vec, 0) }),
		"no Vec":           but(func(m *impl.Msg) { m.Vec = nil }),
		"Leaves":           but(func(m *impl.Msg) { m.Leaves[1] = 3 }),
		"Leaves less":      but(func(m *impl.Msg) { m.Leaves = m.Leaves[:1] }),
		"Leaves more":      but(func(m *impl.Msg) { m.Leaves = append(m.Leaves, 3) }),
		"Leaves turned":    but(func(m *impl.Msg) { m.Leaves = []int{2, 0} }),
		"no Leaves":        but(func(m *impl.Msg) { m.Leaves = nil }),
		"Items":            but(func(m *impl.Msg) { m.Part.Items[1].Entry.Data = "h" }),
		"Items, Beat":      but(func(m *impl.Msg) { m.Part.Items[0].Entry.Beat++ }),
		"Items less":       but(func(m *impl.Msg) { m.Part.Items = m.Part.Items[:1] }),
		"no Items":         but(func(m *impl.Msg) { m.Part.Items = nil }),
		"Floors":           but(func(m *impl.Msg) { m.Part.Floors[1].Inc = 999 }),
		"Floors less":      but(func(m *impl.Msg) { m.Part.Floors = m.Part.Floors[:1] }),
		"no Floors":        but(func(m *impl.Msg) { m.Part.Floors = nil }),
		"no Part":          but(func(m *impl.Msg) { m.Part = impl.State{} }),
		"Marks, Inc":       but(func(m *impl.Msg) { m.Marks[1].Inc = 999 }),
		"Marks, Id":        but(func(m *impl.Msg) { m.Marks[1].Id = 4 }),
		"Marks less":       but(func(m *impl.Msg) { m.Marks = m.Marks[:1] }),
		"Marks more":       but(func(m *impl.Msg) { m.Marks = append(m.Marks, markOf(4, 1)) }),
		"Marks turned":     but(func(m *impl.Msg) { slices.Reverse(m.Marks) }),
		"no Marks":         but(func(m *impl.Msg) { m.Marks = nil }),
		"all":              {},
		"all but From, To": {From: 1, To: 2},
		"Vec for Leaves":   but(func(m *impl.Msg) { m.Vec, m.Leaves = m.Leaves, m.Vec }),
	}
}

func TestMsgSame(t *testing.T) {
	for why, m := range turnedMsgs() {
		for whyToo, other := range turnedMsgs() {
			if got := impl.MsgSame(m, other); got != (why == whyToo) {
				t.Errorf("%s, %s: MsgSame(%v, %v) = %v", why, whyToo, m, other, got)
			}
		}
	}
	all := allMsgs()
	for i, m := range all {
		for _, other := range append(all[:min(i, 40):min(i, 40)], m, cloneMsg(m), fullMsg(), all[(i+1)%len(all)]) {
			if got := impl.MsgSame(m, other); got != sameMsg(m, other) || got != impl.MsgSame(other, m) {
				t.Fatalf("MsgSame(%v, %v) = %v", m, other, got)
			}
		}
	}
}

func TestAnEmptyListAndNilAreTheSame(t *testing.T) {
	none := impl.Msg{From: 3, To: 1}
	for why, m := range map[string]impl.Msg{
		"sums":   {From: 3, To: 1, Tree: impl.Tree{Leaves: []int{}}},
		"Vec":    {From: 3, To: 1, Vec: []int{}},
		"Leaves": {From: 3, To: 1, Leaves: []int{}},
		"Items":  {From: 3, To: 1, Part: impl.State{Items: []impl.Item{}}},
		"Floors": {From: 3, To: 1, Part: impl.State{Floors: []impl.Floor{}}},
		"Marks":  {From: 3, To: 1, Marks: []impl.Mark{}},
	} {
		if !impl.MsgSame(m, none) || !impl.MsgSame(none, m) || !impl.MsgOk(m) || !slices.Equal(impl.MsgBytes(m), impl.MsgBytes(none)) {
			t.Errorf("empty %s are not as nil", why)
		}
	}
	checkNoMsg(t, "an empty list of bytes", []byte{})
	checkNoState(t, "an empty list of bytes", []byte{})
}

func cloneMsg(m impl.Msg) impl.Msg {
	m.Tree = cloneTree(m.Tree)
	m.Vec, m.Leaves, m.Marks = slices.Clone(m.Vec), slices.Clone(m.Leaves), slices.Clone(m.Marks)
	m.Part = cloneState(m.Part)
	return m
}

// roomyMsg: a message with spare room behind each list, and the one whose lists have these rooms too.
func roomyMsg(m impl.Msg) (impl.Msg, impl.Msg) {
	given, room := m, m
	given.Tree.Leaves, room.Tree.Leaves = roomyInts(m.Tree.Leaves)
	given.Vec, room.Vec = roomyInts(m.Vec)
	given.Leaves, room.Leaves = roomyInts(m.Leaves)
	given.Part, room.Part = roomy(m.Part)
	given.Marks, room.Marks = roomyMarks(m.Marks)
	return given, room
}

func scribbleMsg(m impl.Msg) {
	scribbleInts(m.Tree.Leaves)
	scribbleInts(m.Vec)
	scribbleInts(m.Leaves)
	scribble(m.Part)
	scribbleMarks(m.Marks)
}

func scribbleBytes(b []byte) {
	b = b[:cap(b)]
	for i := range b {
		b[i] = 77
	}
}

// memoryMsgs: right and wrong ones, some with their lists at an edge.
func memoryMsgs() []impl.Msg {
	out := someMsgs()
	for _, m := range wrongMsgs() {
		out = append(out, m)
	}
	for _, m := range turnedMsgs() {
		out = append(out, m)
	}
	return out
}

func TestNothingIsWrittenIntoMessages(t *testing.T) {
	for _, x := range memoryMsgs() {
		for _, y := range someMsgs() {
			a, roomA := roomyMsg(x)
			b, roomB := roomyMsg(y)
			wasA, wasB := cloneMsg(roomA), cloneMsg(roomB)
			ok, wire := impl.MsgOk(a), impl.MsgBytes(a)
			if ok != msgOkByHand(x) || impl.MsgSame(a, b) != sameMsg(x, y) || impl.MsgSame(b, a) != sameMsg(x, y) {
				t.Fatalf("%v, %v: another answer with room behind them", x, y)
			}
			if ok && !slices.Equal(wire, msgBytesByHand(x)) || !ok && len(wire) > 0 {
				t.Fatalf("MsgBytes(%v) = %q with room behind it", x, wire)
			}
			if !sameMsg(roomA, wasA) || !sameMsg(roomB, wasB) {
				t.Fatalf("%v, %v became %v, %v", wasA, wasB, roomA, roomB)
			}
		}
	}
}

// What stands behind the end of the bytes is neither written into nor read.
func TestNothingIsWrittenIntoBytes(t *testing.T) {
	for _, m := range someMsgs() {
		for _, wire := range [][]byte{msgBytesByHand(m), bytesByHand(m.Part), append([]byte{3}, msgBytesByHand(m)...)} {
			room := append(slices.Clone(wire), wire...)
			was := slices.Clone(room)
			for size := range room {
				checkMsgOf(t, "with room behind it", room[:size])
				checkStateOf(t, "with room behind it", room[:size])
				checkMsgOf(t, "with none behind it", room[:size:size])
			}
			if !slices.Equal(room, was) {
				t.Fatalf("%q became %q", was, room)
			}
		}
	}
}

func TestBytesOfMessagesAreNewMemory(t *testing.T) {
	for _, x := range someMsgs() {
		m, room := roomyMsg(x)
		was := cloneMsg(room)
		got, again := impl.MsgBytes(m), impl.MsgBytes(m)
		scribbleBytes(got)
		if !sameMsg(room, was) || !slices.Equal(again, msgBytesByHand(x)) || !slices.Equal(impl.MsgBytes(m), again) {
			t.Fatalf("%v or other bytes turned with the bytes", x)
		}
		scribbleMsg(room)
		if !slices.Equal(again, msgBytesByHand(x)) {
			t.Fatalf("the bytes turned with %v", x)
		}
	}
}

func TestMessagesThatAreReadAreNewMemory(t *testing.T) {
	for _, m := range someMsgs() {
		wire := msgBytesByHand(m)
		first, _ := impl.MsgOf(wire)
		second, _ := impl.MsgOf(wire)
		scribbleMsg(first)
		if !slices.Equal(wire, msgBytesByHand(m)) || !sameMsg(second, m) {
			t.Fatalf("the bytes of %v or another answer turned with the answer", m)
		}
		scribbleBytes(wire)
		if !sameMsg(second, m) {
			t.Fatalf("%v turned with its bytes", m)
		}
		wire = bytesByHand(m.Part)
		one, _ := impl.StateOf(wire)
		other, _ := impl.StateOf(wire)
		scribble(one)
		if !slices.Equal(wire, bytesByHand(m.Part)) || !sameState(other, m.Part) {
			t.Fatalf("the bytes of %v or another answer turned with the answer", m.Part)
		}
		scribbleBytes(wire)
		if !sameState(other, m.Part) {
			t.Fatalf("%v turned with its bytes", m.Part)
		}
	}
}

func listsOfMsg(m impl.Msg) []span {
	return append(listsOf(m.Part), spanOf(m.Tree.Leaves), spanOf(m.Vec), spanOf(m.Leaves), spanOf(m.Marks))
}

// No two lists of what is read share memory, and neither do lists or texts and the bytes.
func TestListsOfMessagesShareNoMemory(t *testing.T) {
	for _, m := range someMsgs() {
		wire, stateWire := msgBytesByHand(m), bytesByHand(m.Part)
		got, ok := impl.MsgOf(wire)
		s, okToo := impl.StateOf(stateWire)
		if !ok || !okToo {
			t.Fatalf("%v is not read", m)
		}
		all := slices.Concat(listsOfMsg(got), listsOf(s), []span{spanOf(wire), spanOf(stateWire), spanOf(impl.MsgBytes(m))})
		for i, a := range all {
			for _, b := range all[:i] {
				if a.meets(b) {
					t.Errorf("two lists of %v share memory", m)
				}
			}
		}
		for _, text := range append(textsOf(got.Part), textsOf(s)...) {
			if text.meets(spanOf(wire)) || text.meets(spanOf(stateWire)) {
				t.Errorf("a text of %v is a piece of its bytes", m)
			}
		}
	}
	data := strings.Repeat("a", impl.MaxData)
	wire := impl.StateBytes(saidOf(1, impl.Entry{Inc: 2, Data: data}))
	at := bytes.Index(wire, []byte(data))
	if s, ok := impl.StateOf(wire); !ok || unsafe.StringData(s.Items[0].Entry.Data) == &wire[at] {
		t.Error("a text is a piece of the bytes")
	}
}
