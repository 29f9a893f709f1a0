package bus_test

import (
	"math"
	"slices"
	"strconv"
	"strings"
	"testing"

	"bargelock/api"
	"bargelock/bus"
)

const (
	most  = 1000000
	nodes = 16
)

var plans = [][]int{
	{1},
	{16},
	{2, 1},
	{2, 1, 2, 5},
	{3, 3, 3},
	{4, 4, 9, 4, 4},
	{1, 2, 3, 4, 5, 6, 7, 8, 9, 10, 11, 12, 13, 14, 15, 16},
	slices.Repeat([]int{7, 16, 1, 7}, 8),
}

// noNodes are handed over as nodes: nobody.
var noNodes = []int{0, -1, 17, most, math.MinInt, math.MaxInt}

// wrongSlots are what Hear does not take as long and slot.
var wrongSlots = []struct{ long, slot int }{
	{0, 0},
	{0, 2},
	{-1, 0},
	{-10, -2}, // the first tick of these would be 20
	{most + 1, 0},
	{math.MinInt, 0},
	{math.MaxInt, 0},
	{math.MinInt, 2}, // in these two the first tick would wrap round to 0
	{1 << 62, 4},
	{10, -1},
	{10, math.MinInt},
	{10, math.MaxInt},
	{1, most + 1},
	{10, most/10 + 1},
	{7, 142858},
	{most/2 + 1, 2},
	{most - 1, 2},
	{most, 2},
	{most, most},
	{2, math.MinInt}, // in these four the long is right, and the first tick would wrap round to 0
	{64, 1 << 58},
	{64, -(1 << 58)},
	{1 << 19, 1 << 45},
	{3, 6148914691236517206}, // and here to 2
}

type wrongPlan struct {
	l    []int
	want error
	at   int // below 0: no place is told
}

func wrongPlans() []wrongPlan {
	return []wrongPlan{
		{nil, api.ErrNone, -1},
		{[]int{}, api.ErrNone, -1},
		{make([]int, 33), api.ErrFull, -1},
		{slices.Repeat([]int{2}, 33), api.ErrFull, -1},
		{[]int{0}, api.ErrNode, 0},
		{[]int{2, 1, 17, 0}, api.ErrNode, 2},
		{[]int{2, math.MinInt}, api.ErrNode, 1},
		{append(slices.Repeat([]int{2}, 31), math.MaxInt), api.ErrNode, 31},
	}
}

// isTold: is err the plan's error, as the document asks: bare, or a fault with its place?
func (w wrongPlan) isTold(err error) bool {
	if w.at < 0 {
		return err == w.want
	}
	f, ok := err.(*api.Fault)
	return ok && f.At == w.at && f.Err == w.want
}

// all hear a text, but the nodes that are told.
func all(text string, but ...int) []string {
	heard := slices.Repeat([]string{text}, nodes)
	for _, node := range but {
		heard[node-1] = ""
	}
	return heard
}

// P60

func TestOneIsHeard(t *testing.T) {
	l := []int{2, 1, 2, 5}
	for _, x := range []struct{ long, slot, node, tick int }{
		{10, 0, 2, 0},
		{10, 0, 2, 9},
		{10, 1, 1, 10},
		{10, 1, 1, 19},
		{10, 2, 2, 25},
		{10, 3, 5, 30},
		{10, 4, 2, 49},
		{1, 0, 2, 0},
		{1, 3, 5, 3},
		{1, most, 2, most},
		{10, most / 10, 2, most}, // of this slot only the first tick is one
		{7, 142857, 1, 999999},
		{7, 142857, 1, most},
		{most, 0, 2, most - 1},
		{most, 1, 1, most},
		{most - 1, 1, 1, most - 1},
		{most - 1, 1, 1, most},
	} {
		got, err := bus.Hear(l, x.long, x.slot, []bus.Sent{{Node: x.node, Tick: x.tick, Text: "hi"}}, nil)
		if err != nil || !slices.Equal(got, all("hi")) {
			t.Error(x, got, err)
		}
	}
}

func TestTextsAreHeardAsTheyAre(t *testing.T) {
	for _, text := range []string{"", " ", "-", "\x00", "\xff\n", "frame 1 1,2 1 5 -7 31564", strings.Repeat("x", 3*api.MaxText)} {
		got, err := bus.Hear([]int{2, 1}, 10, 2, []bus.Sent{{Node: 2, Tick: 20, Text: text}}, []int{16})
		if err != nil || !slices.Equal(got, all(text, 16)) {
			t.Error(text, got, err)
		}
	}
}

func TestNothingIsHeardOfWhatDoesNotCount(t *testing.T) {
	for _, s := range doNotCount() {
		got, err := bus.Hear([]int{2, 1, 2, 5}, 10, 2, []bus.Sent{s}, nil)
		if err != nil || !slices.Equal(got, all("")) {
			t.Error(s, got, err)
		}
	}
	for _, sent := range [][]bus.Sent{nil, {}, doNotCount()} {
		got, err := bus.Hear([]int{2, 1, 2, 5}, 10, 2, sent, []int{3})
		if err != nil || !slices.Equal(got, all("")) {
			t.Error(sent, got, err)
		}
	}
}

func TestWhatDoesNotCountDisturbsNobody(t *testing.T) {
	one := bus.Sent{Node: 2, Tick: 23, Text: "hi"}
	for at := range doNotCount() {
		sent := slices.Insert(doNotCount(), at, one)
		got, err := bus.Hear([]int{2, 1, 2, 5}, 10, 2, sent, []int{4})
		if err != nil || !slices.Equal(got, all("hi", 4)) {
			t.Error(at, got, err)
		}
	}
}

// doNotCount in slot 2 of the plan 2, 1, 2, 5 with slots of 10 ticks, which is node 2's from tick 20 to 29.
func doNotCount() []bus.Sent {
	sent := []bus.Sent{
		{Node: 1, Tick: 25, Text: "another node's"},
		{Node: 5, Tick: 25, Text: "another node's"},
		{Node: 3, Tick: 25, Text: "of one that has no slot"},
		{Node: 2, Tick: 19, Text: "too early"},
		{Node: 2, Tick: 30, Text: "too late"},
		{Node: 1, Tick: 15, Text: "in the node's own slot"},
		{Node: 5, Tick: 30, Text: "in the node's own slot"},
		{Node: 2, Tick: 5, Text: "in another one of the node's slots"},
		{Node: 2, Tick: 45, Text: "in another one of the node's slots"},
		{Node: 2, Tick: 65, Text: "in another one of the node's slots"},
		{Node: 2, Tick: -5, Text: "at no tick"},
		{Node: 2, Tick: -25, Text: "at no tick"},
		{Node: 2, Tick: most + 1, Text: "at no tick"},
		{Node: 2, Tick: math.MinInt, Text: "at no tick"},
		{Node: 2, Tick: math.MaxInt, Text: "at no tick"},
	}
	for _, node := range noNodes {
		sent = append(sent, bus.Sent{Node: node, Tick: 25, Text: "of no node"})
	}
	return sent
}

func TestNoTickIsInNoSlot(t *testing.T) {
	for _, x := range []struct{ long, slot, tick int }{
		{10, 0, -3}, // a division would round these up to slot 0
		{10, 0, -9},
		{most, 0, -1},
		{10, most / 10, most + 1}, // these would be in the last slot, if ticks went on
		{10, most / 10, most + 9},
		{most, 1, most + 1},
	} {
		got, err := bus.Hear([]int{2}, x.long, x.slot, []bus.Sent{{Node: 2, Tick: x.tick, Text: "no"}}, nil)
		if err != nil || !slices.Equal(got, all("")) {
			t.Error(x, got, err)
		}
	}
}

func TestOfSeveralNoneIsHeard(t *testing.T) {
	one := bus.Sent{Node: 2, Tick: 25, Text: "hi"}
	for _, sent := range [][]bus.Sent{
		{one, one},
		{one, {Node: 2, Tick: 25, Text: "other"}},
		{one, {Node: 2, Tick: 20, Text: "hi"}},
		{one, {Node: 2, Tick: 29, Text: "hi"}},
		{one, {Node: 2, Tick: 26}}, // one without a text counts as well
		{{Node: 2, Tick: 24}, one},
		{{Node: 2, Tick: 24}, {Node: 2, Tick: 24}},
		{one, {Node: 1, Tick: 25, Text: "no"}, one},
		{one, one, one},
		slices.Repeat([]bus.Sent{one}, 40),
	} {
		for _, lost := range [][]int{nil, {2}, {1, 3}} {
			got, err := bus.Hear([]int{2, 1}, 10, 2, sent, lost)
			if err != nil || !slices.Equal(got, all("")) {
				t.Error(sent, lost, got, err)
			}
		}
	}
}

func TestTheLostHearNothing(t *testing.T) {
	everybody := []int{1, 2, 3, 4, 5, 6, 7, 8, 9, 10, 11, 12, 13, 14, 15, 16}
	for _, x := range []struct {
		lost []int
		want []string
	}{
		{nil, all("hi")},
		{[]int{}, all("hi")},
		{[]int{1}, all("hi", 1)},
		{[]int{16}, all("hi", 16)},
		{[]int{2}, all("hi", 2)}, // also who sends
		{[]int{9, 3}, all("hi", 3, 9)},
		{[]int{3, 3, 3}, all("hi", 3)},
		{noNodes, all("hi")},
		{append(slices.Clone(noNodes), 5), all("hi", 5)},
		{[]int{17, 1, -16, 16, 0}, all("hi", 1, 16)},
		{everybody, all("")},
		{slices.Repeat([]int{8, 99}, 5000), all("hi", 8)},
	} {
		got, err := bus.Hear([]int{2, 1}, 10, 2, []bus.Sent{{Node: 2, Tick: 25, Text: "hi"}}, x.lost)
		if err != nil || !slices.Equal(got, x.want) {
			t.Errorf("%.20v: %q, %v", x.lost, got, err)
		}
	}
}

func TestWrongSlots(t *testing.T) {
	for _, w := range wrongSlots {
		// Ahead of the plan's errors, and of too many sent.
		for _, l := range [][]int{{2, 1}, nil, {1, 0}, make([]int, 33)} {
			for _, many := range []int{0, 1, 41} {
				got, err := bus.Hear(l, w.long, w.slot, make([]bus.Sent, many), nil)
				if len(got) != 0 || err != api.ErrBound {
					t.Error(w, l, many, got, err)
				}
			}
		}
	}
}

func TestLastSlots(t *testing.T) {
	for _, x := range []struct{ long, slot int }{
		{1, most},
		{7, 142857},
		{10, most / 10},
		{most / 2, 2},
		{most/2 + 1, 1},
		{most - 1, 1},
		{most, 1},
	} {
		if got, err := bus.Hear([]int{2, 1}, x.long, x.slot, nil, nil); err != nil || len(got) != nodes {
			t.Error(x, got, err)
		}
		if got, err := bus.Hear([]int{2, 1}, x.long, x.slot+1, nil, nil); err != api.ErrBound || len(got) != 0 {
			t.Error(x, got, err)
		}
	}
}

func TestWrongPlans(t *testing.T) {
	for _, w := range wrongPlans() {
		// Ahead of too many sent.
		for _, many := range []int{0, 1, 41} {
			for _, x := range []struct{ long, slot int }{{1, 0}, {10, most / 10}, {most, 1}} {
				got, err := bus.Hear(w.l, x.long, x.slot, make([]bus.Sent, many), []int{1})
				if len(got) != 0 || !w.isTold(err) {
					t.Error(w, many, x, got, err)
				}
			}
		}
	}
}

func TestSentAreAtMost40(t *testing.T) {
	one := bus.Sent{Node: 2, Tick: 25, Text: "hi"}
	for _, x := range []struct {
		others int
		want   []string
		err    error
	}{
		{0, all("hi"), nil},
		{38, all("hi"), nil},
		{39, all("hi"), nil},
		{40, nil, api.ErrFull}, // also of those that do not count
		{5000, nil, api.ErrFull},
	} {
		sent := append(make([]bus.Sent, x.others), one)
		got, err := bus.Hear([]int{2, 1}, 10, 2, sent, nil)
		if !slices.Equal(got, x.want) || err != x.err {
			t.Error(x, got, err)
		}
	}
}

func TestWhatIsHandedOverIsOnlyRead(t *testing.T) {
	plan, sends, losts := []int{2, 1, 17}, []bus.Sent{{Node: 2, Tick: 25, Text: "hi"}, {Node: 2, Tick: 26, Text: "behind"}}, []int{3, 4}
	l, s, n := slices.Clone(plan), slices.Clone(sends), slices.Clone(losts)
	got, err := bus.Hear(l[:2], 10, 2, s[:1], n[:1])
	if err != nil || !slices.Equal(got, all("hi", 3)) {
		t.Error(got, err)
	}
	if !slices.Equal(l, plan) || !slices.Equal(s, sends) || !slices.Equal(n, losts) {
		t.Error(l, s, n)
	}
	s[0].Text, n[0] = "changed", 5
	if !slices.Equal(got, all("hi", 3)) {
		t.Error(got)
	}
}

func TestAnswersAreNewMemory(t *testing.T) {
	sent := []bus.Sent{{Node: 2, Tick: 25, Text: "hi"}}
	one, _ := bus.Hear([]int{2, 1}, 10, 2, sent, nil)
	for i := range one {
		one[i] = "written"
	}
	two, err := bus.Hear([]int{2, 1}, 10, 2, sent, nil)
	if err != nil || !slices.Equal(two, all("hi")) {
		t.Error(two, err)
	}
}

// P61

func TestAllHearTheSameOfWhoHasTheSlot(t *testing.T) {
	for _, l := range plans {
		for _, long := range []int{1, 2, 3, 10} {
			for slot := range 2*len(l) + 1 {
				// Each step of the ticks sets other ones of the sends into the slot.
				for step := 1; step <= 2*long+1; step++ {
					checkHeard(t, l, long, slot, sends(l, long, slot, step))
				}
			}
		}
	}
}

// sends from the slot ahead to the slot behind: those of all nodes of the plan by turns, each with a text of its own.
func sends(l []int, long, slot, step int) []bus.Sent {
	var sent []bus.Sent
	for tick := (slot - 1) * long; tick < (slot+2)*long && len(sent) < 40; tick += step {
		node := l[len(sent)%len(l)]
		sent = append(sent, bus.Sent{Node: node, Tick: tick, Text: strconv.Itoa(node) + " at " + strconv.Itoa(tick)})
	}
	return sent
}

// checkHeard: something is heard just if who has the slot sent once within it; that is what all hear but the lost.
func checkHeard(t *testing.T, l []int, long, slot int, sent []bus.Sent) {
	t.Helper()
	who := l[slot%len(l)]
	var own []string
	for _, s := range sent {
		if s.Node == who && slot*long <= s.Tick && s.Tick < (slot+1)*long {
			own = append(own, s.Text)
		}
	}
	text := ""
	if len(own) == 1 {
		text = own[0]
	}
	for _, lost := range [][]int{nil, {who}, {1, 16}, {5, 6, 7, 8}} {
		got, err := bus.Hear(l, long, slot, sent, lost)
		if err != nil || !slices.Equal(got, all(text, lost...)) {
			t.Fatal(l, long, slot, sent, lost, got, err, text)
		}
	}
}

func TestWhoeverSendsOnlyOneIsHeard(t *testing.T) {
	for _, l := range plans {
		for slot := range 2*len(l) + 1 {
			var sent []bus.Sent
			for node := -1; node <= nodes+1; node++ {
				sent = append(sent, bus.Sent{Node: node, Tick: slot*10 + 5, Text: "of " + strconv.Itoa(node)})
			}
			want := "of " + strconv.Itoa(l[slot%len(l)])
			forward, err := bus.Hear(l, 10, slot, sent, nil)
			slices.Reverse(sent)
			backward, bad := bus.Hear(l, 10, slot, sent, nil)
			if err != nil || bad != nil || !slices.Equal(forward, all(want)) || !slices.Equal(backward, all(want)) {
				t.Fatal(l, slot, forward, backward, err, bad)
			}
		}
	}
}
