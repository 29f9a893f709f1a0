package cluster_test

import (
	"math"
	"slices"
	"strings"
	"testing"

	"bargelock/api"
	"bargelock/clique"
	"bargelock/cluster"
	"bargelock/fold"
	"bargelock/frame"
)

const (
	active  = "active"
	listens = "listens"
	off     = "off"
	nothing = -1
)

// noNodes are numbers beside those of all nodes.
func noNodes() []int {
	return []int{0, -1, -7, 17, 18, 64, 1 << 32, 1<<32 + 1, -1 << 32, math.MaxInt, math.MinInt}
}

// plans of ordinary kinds, and at the edges.
func plans() [][]int {
	every := make([]int, api.MaxSlots)
	for i := range every {
		every[i] = i%api.MaxNodes + 1
	}
	return [][]int{
		{1},
		{16},
		{2, 1},
		{1, 2, 3},
		{3, 1, 2, 16},
		{2, 1, 2, 5},
		{4, 4, 4, 9},
		{5, 4, 3, 2, 1, 1, 7},
		every,
		backwards(),
	}
}

// backwards is a plan of all nodes, the last one first.
func backwards() []int {
	var l []int
	for node := api.MaxNodes; node > 0; node-- {
		l = append(l, node)
	}
	return l
}

func bit(node int) int { return 1 << (node - 1) }

func crewOf(l []int) int {
	c := 0
	for _, node := range l {
		c |= bit(node)
	}
	return c
}

func start(t *testing.T, l ...int) *cluster.Cluster {
	t.Helper()
	c, err := cluster.New(l)
	if c == nil || err != nil {
		t.Fatal(l, c, err)
	}
	return c
}

func must(t *testing.T, err error) {
	t.Helper()
	if err != nil {
		t.Error(err)
	}
}

// is: an error, bare.
func is(t *testing.T, err, want error) {
	t.Helper()
	if err != want {
		t.Error(err, "not", want)
	}
}

// slot that comes next, without an error.
func slot(t *testing.T, c *cluster.Cluster, lost ...int) string {
	t.Helper()
	s, err := c.Slot(lost)
	must(t, err)
	return s
}

// slots of which nothing is lost.
func slots(t *testing.T, c *cluster.Cluster, many int) {
	t.Helper()
	for range many {
		slot(t, c)
	}
}

func view(t *testing.T, c *cluster.Cluster, node int) api.View {
	t.Helper()
	v, err := c.View(node)
	if err != nil {
		t.Fatal(node, err)
	}
	return v
}

// history of a node, as text.
func history(t *testing.T, c *cluster.Cluster, node int) string {
	t.Helper()
	l, err := c.History(node)
	if err != nil {
		t.Fatal(node, err)
	}
	s, err := fold.Text(l)
	if err != nil {
		t.Fatal(node, l, err)
	}
	return s
}

// has an active node this view and this history?
func has(t *testing.T, c *cluster.Cluster, node int, v api.View, h string) {
	t.Helper()
	if s := c.State(node); s != active {
		t.Fatal(node, s)
	}
	if got := view(t, c, node); got != v {
		t.Error(node, got, "not", v)
	}
	if got := history(t, c, node); got != h {
		t.Error(node, got, "not", h)
	}
}

// states of the nodes from 1 on.
func states(t *testing.T, c *cluster.Cluster, want ...string) {
	t.Helper()
	for i, s := range want {
		if got := c.State(i + 1); got != s {
			t.Error(i+1, got, "not", s)
		}
	}
}

// P120: New

func TestNewCluster(t *testing.T) {
	for _, l := range plans() {
		c := start(t, l...)
		alike(t, c, newModel(l))
		for node := 1; node <= api.MaxNodes; node++ {
			if slices.Contains(l, node) {
				has(t, c, node, api.View{Members: crewOf(l)}, "-")
			} else if s := c.State(node); s != "" {
				t.Error(l, node, s)
			}
		}
		if c.Crew() != crewOf(l) || c.Time() != 0 {
			t.Error(l, c.Crew(), c.Time())
		}
	}
}

func TestNewHasValuesOfZero(t *testing.T) {
	c := start(t, 2, 1)
	slots(t, c, 2)
	has(t, c, 1, api.View{Members: 3, Slot: 2}, "2:0,1:0")
}

func TestNewOfAWrongPlan(t *testing.T) {
	for i, x := range []struct {
		l   []int
		at  int
		err error
	}{
		{nil, -1, api.ErrNone},
		{[]int{}, -1, api.ErrNone},
		{make([]int, 33), -1, api.ErrFull}, // its nodes are none, but that is told behind
		{slices.Repeat([]int{1}, 33), -1, api.ErrFull},
		{slices.Repeat([]int{1}, 5000), -1, api.ErrFull},
		{[]int{0}, 0, api.ErrNode},
		{[]int{1, 17, 0}, 1, api.ErrNode},
		{[]int{1, 2, -1}, 2, api.ErrNode},
		{[]int{1 << 32, 1}, 0, api.ErrNode},
		{[]int{16, 1<<32 + 1}, 1, api.ErrNode},
		{[]int{3, math.MinInt}, 1, api.ErrNode},
		{[]int{3, 3, 3, math.MaxInt}, 3, api.ErrNode},
		{append(slices.Repeat([]int{1}, 31), 17), 31, api.ErrNode},
	} {
		c, err := cluster.New(x.l)
		if c != nil {
			t.Error(i, c)
		}
		if x.at < 0 {
			if err != x.err {
				t.Error(i, err)
			}
			continue
		}
		if f, ok := err.(*api.Fault); !ok || f.At != x.at || f.Err != x.err {
			t.Error(i, err)
		}
	}
}

func TestPlanIsOnlyReadAndNotKept(t *testing.T) {
	was := []int{2, 1, 2, 5, 99, 0}
	memory := slices.Clone(was)
	l := memory[:3]
	c, m := start(t, l...), newModel(l)
	if c.State(5) != "" {
		t.Error("a node from behind the list's length")
	}
	both(t, c, m, nil)
	d := c.Copy()
	if !slices.Equal(memory, was) {
		t.Error(memory)
	}
	l[0], l[1], l[2] = 7, 99, 1
	for range 5 {
		both(t, c, m, nil)
	}
	if s := slot(t, d); !strings.HasPrefix(s, "frame 1 ") {
		t.Error(s)
	}
}

// P120: Set

func TestSet(t *testing.T) {
	c := start(t, 1, 2)
	for _, value := range []int{0, 1, -1, 7, -7, 1 << 20, -1 << 20, 0} {
		must(t, c.Set(1, 33)) // the last one counts
		must(t, c.Set(1, value))
		must(t, c.Set(2, -value))
		for _, want := range []int{value, -value} {
			f, err := frame.Read(slot(t, c))
			if err != nil || f.Value != want {
				t.Error(f, err, want)
			}
		}
	}
	if h := history(t, c, 2); !strings.HasSuffix(h, "1:-7,2:7,1:1048576,2:-1048576,1:-1048576,2:1048576,1:0,2:0") {
		t.Error(h)
	}
}

func TestSetWrong(t *testing.T) {
	c := start(t, 1, 2)
	must(t, c.Set(1, 5))
	for _, node := range append(noNodes(), 3, 16) {
		is(t, c.Set(node, 4), api.ErrNode)
		is(t, c.Set(node, 1<<20+1), api.ErrNode) // the node is told first
	}
	for _, value := range []int{1<<20 + 1, -1<<20 - 1, 1 << 32, -1 << 32, math.MaxInt, math.MinInt} {
		is(t, c.Set(1, value), api.ErrBound)
	}
	slots(t, c, 2)
	has(t, c, 2, api.View{Members: 3, Slot: 2}, "1:5,2:0")
}

func TestValueStaysWhateverTheNodeIs(t *testing.T) {
	c := start(t, 1, 2, 3)
	must(t, c.Set(2, 9))
	must(t, c.Off(2))
	must(t, c.Set(3, 4))
	slots(t, c, 3)
	must(t, c.On(2))
	slots(t, c, 2) // it takes the view and the history of 1, not its value
	has(t, c, 2, api.View{Members: 7, Slot: 5}, "1:0,2!,3:4,1:0,2:9")
	must(t, c.Off(2))
	must(t, c.Set(2, -3)) // while it is off
	must(t, c.On(2))
	must(t, c.Set(2, -4)) // while it listens
	slots(t, c, 3)
	has(t, c, 2, api.View{Members: 7, Slot: 8}, "1:0,2!,3:4,1:0,2:9,3:4,1:0,2:-4")
}

// P120: Off, On

func TestOffAndOn(t *testing.T) {
	c := start(t, 3, 1)
	states(t, c, active, "", active, "")
	must(t, c.Off(1))
	states(t, c, off, "", active, "")
	is(t, c.Off(1), api.ErrExist)
	states(t, c, off, "", active, "")
	must(t, c.On(1))
	states(t, c, listens, "", active, "")
	is(t, c.On(1), api.ErrExist)
	is(t, c.On(3), api.ErrExist)
	states(t, c, listens, "", active, "")
	must(t, c.Off(1)) // also who listens
	states(t, c, off, "", active, "")
	is(t, c.Off(1), api.ErrExist)
	must(t, c.Off(3))
	states(t, c, off, "", off, "")
	must(t, c.On(1))
	must(t, c.On(3))
	states(t, c, listens, "", listens, "")
	if c.Crew() != 0 || c.Time() != 0 {
		t.Error(c.Crew(), c.Time())
	}
}

func TestOffAndOnOfNoNode(t *testing.T) {
	c, m := start(t, 3, 1), newModel([]int{3, 1})
	for _, node := range append(noNodes(), 2, 4, 16) {
		is(t, c.Off(node), api.ErrNode)
		is(t, c.On(node), api.ErrNode)
		is(t, c.Off(node), api.ErrNode)
		if s := c.State(node); s != "" {
			t.Error(node, s)
		}
	}
	alike(t, c, m)
}

func TestOffTellsNobody(t *testing.T) {
	c := start(t, 1, 2, 3)
	must(t, c.Off(2))
	has(t, c, 1, api.View{Members: 7}, "-")
	slot(t, c)
	has(t, c, 3, api.View{Members: 7, Slot: 1}, "1:0") // not ahead of its slot
	slot(t, c)
	has(t, c, 3, api.View{Members: 5, Slot: 2}, "1:0,2!")
}

// P120: Ask

func TestAskIsTheBoards(t *testing.T) {
	c := start(t, 1)
	for _, to := range []int{4, -1, 5, 1 << 32, -1 << 32, math.MaxInt, math.MinInt} {
		is(t, c.Ask(to), api.ErrBound)
	}
	must(t, c.Ask(2))
	is(t, c.Ask(4), api.ErrBound)
	is(t, c.Ask(2), api.ErrExist)
	is(t, c.Ask(0), api.ErrExist)
	slot(t, c)
	has(t, c, 1, api.View{Members: 1, Mode: 2, Slot: 1}, "1:0")
	slot(t, c)
	has(t, c, 1, api.View{Members: 1, Mode: 2, Slot: 2}, "1:0,1:0")
}

func TestAllPairsOfModes(t *testing.T) {
	for from := range api.MaxModes {
		for to := range api.MaxModes {
			c := start(t, 1)
			must(t, c.Ask(from))
			slot(t, c)
			must(t, c.Ask(to))
			slot(t, c)
			has(t, c, 1, api.View{Members: 1, Mode: to, Slot: 2}, "1:0,1:0")
		}
	}
}

// P120, P4: Copy

func TestCopyIsTheSame(t *testing.T) {
	l := []int{2, 1, 3, 4}
	c, m := start(t, l...), newModel(l)
	alike(t, c.Copy(), m)
	must(t, c.Set(3, 8))
	must(t, m.set(3, 8))
	must(t, c.Ask(3))
	must(t, m.ask(3))
	must(t, c.Off(4))
	must(t, m.off(4))
	both(t, c, m, []int{1})
	must(t, c.On(4))
	must(t, m.on(4))
	d, n := c.Copy(), m.copy()
	alike(t, d, n)
	is(t, d.Ask(1), api.ErrExist)
	for range 9 {
		both(t, d, n, nil)
	}
	for range 3 {
		both(t, c, m, []int{1, 4})
	}
	for range 5 {
		both(t, d, n, []int{4})
		both(t, c, m, []int{1})
	}
	alike(t, d.Copy().Copy(), n)
}

func TestCopyGoesItsOwnWay(t *testing.T) {
	l := []int{1, 2, 3}
	c, m := start(t, l...), newModel(l)
	for range 5 {
		both(t, c, m, nil)
	}
	must(t, c.Off(3))
	must(t, m.off(3))
	must(t, c.On(3))
	must(t, m.on(3))
	d := c.Copy()
	if d == c {
		t.Fatal("a copy is no other cluster")
	}
	must(t, d.Set(1, 77))
	must(t, d.Ask(1))
	must(t, d.Off(3))
	alike(t, c, m)
	must(t, d.Off(1))
	slot(t, d, 2)
	slot(t, d)
	must(t, d.On(1))
	alike(t, c, m)
	if err := c.Ask(0); err != nil { // what the copy asked for is not asked for here
		t.Error(err)
	}
	must(t, m.ask(0))
	for range 4 {
		both(t, c, m, nil)
	}
	// and the other way round
	e, n := c.Copy(), m.copy()
	must(t, c.Set(2, 5))
	must(t, c.Off(2))
	slot(t, c, 1)
	must(t, c.On(2))
	must(t, c.Off(1))
	alike(t, e, n)
	for range 4 {
		both(t, e, n, nil)
	}
}

func TestClustersAreApart(t *testing.T) {
	l := []int{1, 2}
	a, b := start(t, l...), start(t, l...)
	must(t, a.Set(1, 5))
	must(t, a.Ask(1))
	slot(t, a)
	must(t, a.Off(2))
	alike(t, b, newModel(l))
	must(t, b.Ask(2))
	slots(t, b, 2)
	has(t, b, 2, api.View{Members: 3, Mode: 2, Slot: 2}, "1:0,2:0")
}

// P121: what is sent

func TestSlotTellsTheFrame(t *testing.T) {
	c := start(t, 2, 1, 2)
	must(t, c.Set(2, -6))
	must(t, c.Ask(3))
	for i, want := range []api.Frame{
		{From: 2, View: api.View{Members: 3}, Value: -6},
		{From: 1, View: api.View{Members: 3, Slot: 1}},
		{From: 2, View: api.View{Members: 3, Slot: 2}, Value: -6},
		{From: 2, View: api.View{Members: 3, Mode: 3, Slot: 3}, Value: -6}, // the next round
		{From: 1, View: api.View{Members: 3, Mode: 3, Slot: 4}},
	} {
		text, err := frame.Make(want)
		must(t, err)
		if s := slot(t, c); s != text {
			t.Error(i, s, "not", text)
		}
		if c.Time() != i+1 {
			t.Error(i, c.Time())
		}
	}
	c = start(t, 1, 2)
	if s := slot(t, c); s != "frame 1 1,2 0 0 0 49111" {
		t.Error(s)
	}
}

func TestSlotOfWhoIsNotActive(t *testing.T) {
	c := start(t, 1, 2, 3, 4)
	must(t, c.Off(1))
	must(t, c.Off(2))
	must(t, c.On(2))
	if s := slot(t, c); s != "" {
		t.Error(s)
	}
	has(t, c, 3, api.View{Members: 14, Slot: 1}, "1!")
	if s := slot(t, c); s != "" { // who listens does not speak
		t.Error(s)
	}
	has(t, c, 3, api.View{Members: 12, Slot: 2}, "1!,2!")
	has(t, c, 4, api.View{Members: 12, Slot: 2}, "1!,2!")
	states(t, c, off, listens, active, active)
}

func TestSlotIsSentAlsoIfAllLoseIt(t *testing.T) {
	c := start(t, 1, 2, 3)
	if s := slot(t, c, 1, 2, 3); !strings.HasPrefix(s, "frame 1 1,2,3 0 0 0 ") {
		t.Error(s)
	}
	has(t, c, 1, api.View{Members: 7, Slot: 1}, "1:0")
	has(t, c, 2, api.View{Members: 6, Slot: 1}, "1!")
	has(t, c, 3, api.View{Members: 6, Slot: 1}, "1!")
}

// P121: who hears

func TestWhoHearsHasAnEntry(t *testing.T) {
	c := start(t, 1, 2, 3, 4, 5)
	must(t, c.Set(1, 12))
	slot(t, c, 3)
	for _, node := range []int{1, 2, 4, 5} {
		has(t, c, node, api.View{Members: 31, Slot: 1}, "1:12")
	}
	has(t, c, 3, api.View{Members: 30, Slot: 1}, "1!")
	slot(t, c) // 3 has another view than 2: it does not take its frame
	has(t, c, 3, api.View{Members: 28, Slot: 2}, "1!,2!")
	slot(t, c) // nor does anybody take that of 3, but 3 itself
	has(t, c, 3, api.View{Members: 28, Slot: 3}, "1!,2!,3:0")
	has(t, c, 4, api.View{Members: 27, Slot: 3}, "1:12,2:0,3!")
}

func TestWhoSendsHearsItself(t *testing.T) {
	c, m := start(t, 7), newModel([]int{7})
	for _, lost := range [][]int{{7}, {7, 7}, {1, 7}, nil} {
		both(t, c, m, lost)
		if c.State(7) != active {
			t.Error(lost)
		}
	}
}

func TestLostNamesNumbersThatAreNone(t *testing.T) {
	l := []int{2, 1, 3}
	c, m := start(t, l...), newModel(l)
	both(t, c, m, noNodes())
	both(t, c, m, append(noNodes(), 4, 16, 9))
	has(t, c, 2, api.View{Members: 7, Slot: 2}, "2:0,1:0")
	both(t, c, m, append(noNodes(), 2))
	has(t, c, 2, api.View{Members: 3, Slot: 3}, "2:0,1:0,3!")
	both(t, c, m, slices.Repeat([]int{1}, 100000)) // told often
	both(t, c, m, []int{})
	must(t, c.Off(3))
	must(t, m.off(3))
	both(t, c, m, []int{3}) // it is off: nothing is lost
}

func TestLostIsOnlyReadAndNotKept(t *testing.T) {
	was := []int{3, 2, 1, 0}
	memory := slices.Clone(was)
	c := start(t, 1, 2, 3)
	s, err := c.Slot(memory[:1])
	if s == "" || err != nil || !slices.Equal(memory, was) {
		t.Error(s, err, memory)
	}
	has(t, c, 2, api.View{Members: 7, Slot: 1}, "1:0") // it stands behind the list's length
	has(t, c, 3, api.View{Members: 6, Slot: 1}, "1!")
	memory[0] = 1
	has(t, c, 3, api.View{Members: 6, Slot: 1}, "1!")
	slot(t, c)
	has(t, c, 1, api.View{Members: 7, Slot: 2}, "1:0,2:0")
}

// P121: who listens

func TestWhoListensTakesWhatTheSenderHas(t *testing.T) {
	c := start(t, 1, 2, 3, 4)
	must(t, c.Set(1, 6))
	must(t, c.Ask(1))
	must(t, c.Off(4))
	slots(t, c, 4)
	must(t, c.On(4))
	must(t, c.Off(2))
	must(t, c.On(2))
	slot(t, c) // both at once, with the slot that they heard
	has(t, c, 4, api.View{Members: 7, Mode: 1, Slot: 5}, "1:6,2:0,3:0,4!,1:6")
	has(t, c, 2, api.View{Members: 7, Mode: 1, Slot: 5}, "1:6,2:0,3:0,4!,1:6")
	slot(t, c, 4) // from here on they go their own ways
	has(t, c, 4, api.View{Members: 5, Mode: 1, Slot: 6}, "1:6,2:0,3:0,4!,1:6,2!")
	has(t, c, 2, api.View{Members: 7, Mode: 1, Slot: 6}, "1:6,2:0,3:0,4!,1:6,2:0")
	has(t, c, 1, api.View{Members: 7, Mode: 1, Slot: 6}, "1:6,2:0,3:0,4!,1:6,2:0")
}

func TestWhoListensIsAMemberFromItsSlotOn(t *testing.T) {
	c := start(t, 1, 2, 3)
	must(t, c.Off(3))
	slots(t, c, 3)
	must(t, c.On(3))
	slot(t, c)
	has(t, c, 3, api.View{Members: 3, Slot: 4}, "1:0,2:0,3!,1:0")
	slot(t, c)
	if s := slot(t, c); !strings.HasPrefix(s, "frame 3 1,2,3 0 5 0 ") {
		t.Error(s)
	}
	for node := range 3 {
		has(t, c, node+1, api.View{Members: 7, Slot: 6}, "1:0,2:0,3!,1:0,2:0,3:0")
	}
}

func TestWhoListensAndHearsNothing(t *testing.T) {
	c := start(t, 1, 2, 3, 4, 5)
	must(t, c.Off(2))
	must(t, c.Off(3))
	must(t, c.On(3))
	slot(t, c, 3) // lost
	states(t, c, active, off, listens, active, active)
	slot(t, c) // nobody speaks
	slot(t, c) // its own slot: it does not speak
	states(t, c, active, off, listens, active, active)
	_, err := c.View(3)
	is(t, err, api.ErrOff)
	_, err = c.History(3)
	is(t, err, api.ErrOff)
	must(t, c.Off(3))
	slot(t, c) // who is off hears nothing, too
	states(t, c, active, off, off, active, active)
	must(t, c.On(3))
	slot(t, c, 2)
	states(t, c, active, off, active, active, active)
	has(t, c, 3, api.View{Members: 25, Slot: 5}, "1:0,2!,3!,4:0,5:0")
}

func TestWhoListensTakesAnyView(t *testing.T) {
	// 3 did not hear 1: it has a view of its own, and hands it on.
	c := start(t, 1, 2, 3, 4, 5)
	must(t, c.Off(5))
	must(t, c.On(5))
	slot(t, c, 3, 5)
	slot(t, c, 5)
	slot(t, c)
	has(t, c, 3, api.View{Members: 28, Slot: 3}, "1!,2!,3:0")
	has(t, c, 5, api.View{Members: 28, Slot: 3}, "1!,2!,3:0")
	has(t, c, 4, api.View{Members: 27, Slot: 3}, "1:0,2:0,3!")
}

// P121: the last slot of a round

func TestWhoHearsTooLittleGoes(t *testing.T) {
	l := []int{1, 2, 3, 4}
	for _, x := range []struct {
		deaf       int // the slot that 4 loses
		ahead, end string
	}{
		{nothing, "1:0,2:0,3:0", active},
		{0, "1!,2!,3!", off},  // whoever loses one has another view than the later ones
		{1, "1:0,2!,3!", off}, // as many heard as not, with its own
		{2, "1:0,2:0,3!", active},
		{3, "1:0,2:0,3:0", active}, // its own slot is never lost
	} {
		c, m := start(t, l...), newModel(l)
		for i := range l {
			if i == 3 && history(t, c, 4) != x.ahead {
				t.Error(x.deaf, history(t, c, 4))
			}
			var lost []int
			if i == x.deaf {
				lost = []int{4}
			}
			states(t, c, active, active, active, active) // not ahead of the last slot
			both(t, c, m, lost)
		}
		states(t, c, active, active, active, x.end)
	}
}

func TestOfTwoHalvesNobodyStays(t *testing.T) {
	c := start(t, 1, 2, 3, 4)
	slot(t, c, 3, 4)
	slot(t, c, 3, 4)
	slot(t, c, 1, 2)
	if c.Crew() != 15 {
		t.Error(c.Crew())
	}
	if s := slot(t, c, 1, 2); !strings.HasPrefix(s, "frame 4 3,4 0 3 0 ") {
		t.Error(s)
	}
	states(t, c, off, off, off, off)
	if c.Crew() != 0 || c.Time() != 4 {
		t.Error(c.Crew(), c.Time())
	}
}

func TestARoundIsOfSlotsNotOfNodes(t *testing.T) {
	// 9 has three of four slots: who hears it alone stays, and who does not goes.
	c := start(t, 9, 9, 9, 2)
	slot(t, c)
	slot(t, c)
	slot(t, c)
	must(t, c.Off(2))
	slot(t, c)
	has(t, c, 9, api.View{Members: 1 << 8, Slot: 4}, "9:0,9:0,9:0,2!")
	c = start(t, 9, 9, 9, 2)
	for range 3 {
		slot(t, c, 2)
		states(t, c, "", active)
	}
	slot(t, c)
	states(t, c, "", off)
	if c.Crew() != 1<<8 {
		t.Error(c.Crew())
	}
}

func TestOnlyTheLastRoundCounts(t *testing.T) {
	c := start(t, 1, 2, 3)
	slots(t, c, 9)
	slot(t, c, 3)
	slot(t, c, 3)
	states(t, c, active, active, active)
	slot(t, c) // of twelve 3 heard ten, and of the last round its own
	states(t, c, active, active, off)
	has(t, c, 1, api.View{Members: 3, Slot: 12}, "1:0,2:0,3:0,1:0,2:0,3:0,1:0,2:0,3:0,1:0,2:0,3!")
}

func TestWhoIsLeftAloneGoes(t *testing.T) {
	c := start(t, 1, 2)
	must(t, c.Off(1))
	slot(t, c)
	states(t, c, off, active)
	slot(t, c)
	states(t, c, off, off)
	must(t, c.On(1))
	must(t, c.On(2))
	for range 4 { // nobody speaks any more
		if s := slot(t, c); s != "" {
			t.Error(s)
		}
		states(t, c, listens, listens)
	}
	if c.Crew() != 0 || c.Time() != 6 {
		t.Error(c.Crew(), c.Time())
	}
}

func TestWhoTookAHistoryStaysByIt(t *testing.T) {
	// 4 takes the history of 3 with the last slot of the round, and goes by it as 3 does.
	for _, x := range []struct {
		lost []int
		want string
	}{{nil, active}, {[]int{3}, off}} {
		c := start(t, 1, 2, 5, 4, 3)
		must(t, c.Off(4))
		slot(t, c, x.lost...)
		slots(t, c, 3)
		must(t, c.On(4))
		slot(t, c)
		states(t, c, active, active, x.want, x.want, active)
		if x.lost == nil {
			has(t, c, 4, api.View{Members: 23, Slot: 5}, "1:0,2:0,5:0,4!,3:0")
		}
	}
}

func TestWhoWentComesAgain(t *testing.T) {
	c := start(t, 1, 2, 3)
	slot(t, c, 3)
	slots(t, c, 2)
	states(t, c, active, active, off)
	is(t, c.Off(3), api.ErrExist)
	must(t, c.On(3))
	slots(t, c, 3)
	has(t, c, 3, api.View{Members: 7, Slot: 6}, "1:0,2:0,3!,1:0,2:0,3:0")
	has(t, c, 1, api.View{Members: 7, Slot: 6}, "1:0,2:0,3!,1:0,2:0,3:0")
}

// P121: the board

func TestModeComesWithTheLastSlot(t *testing.T) {
	c := start(t, 1, 2, 3)
	slot(t, c)
	must(t, c.Ask(2))
	has(t, c, 1, api.View{Members: 7, Slot: 1}, "1:0")
	slot(t, c)
	has(t, c, 1, api.View{Members: 7, Slot: 2}, "1:0,2:0")
	is(t, c.Ask(1), api.ErrExist)
	slot(t, c)
	for node := range 3 {
		has(t, c, node+1, api.View{Members: 7, Mode: 2, Slot: 3}, "1:0,2:0,3:0")
	}
	must(t, c.Ask(0)) // nothing is asked for any more
	slots(t, c, 2)
	has(t, c, 2, api.View{Members: 7, Mode: 2, Slot: 5}, "1:0,2:0,3:0,1:0,2:0")
	slot(t, c)
	has(t, c, 2, api.View{Members: 7, Slot: 6}, "1:0,2:0,3:0,1:0,2:0,3:0")
}

func TestModeAlsoForWhoHasAnotherView(t *testing.T) {
	c := start(t, 1, 2, 3, 4, 5)
	must(t, c.Ask(3))
	slots(t, c, 3)
	slot(t, c, 5)
	slot(t, c)
	has(t, c, 5, api.View{Members: 23, Mode: 3, Slot: 5}, "1:0,2:0,3:0,4!,5:0")
	has(t, c, 1, api.View{Members: 15, Mode: 3, Slot: 5}, "1:0,2:0,3:0,4:0,5!")
}

func TestModeForWhoComesLater(t *testing.T) {
	c := start(t, 1, 2, 3)
	must(t, c.Off(2))
	must(t, c.Ask(1))
	slots(t, c, 3)
	must(t, c.On(2))
	must(t, c.Ask(3))
	slot(t, c)
	has(t, c, 2, api.View{Members: 5, Mode: 1, Slot: 4}, "1:0,2!,3:0,1:0")
	must(t, c.Off(2))
	slot(t, c)
	must(t, c.On(2))
	slot(t, c) // with the last slot: it has the new mode at once
	has(t, c, 2, api.View{Members: 5, Mode: 3, Slot: 6}, "1:0,2!,3:0,1:0,2!,3:0")
}

func TestBoardTurnsAlsoIfNobodyIsActive(t *testing.T) {
	c := start(t, 1, 2)
	must(t, c.Off(1))
	must(t, c.Off(2))
	for range 3 {
		must(t, c.Ask(2))
		slot(t, c)
		is(t, c.Ask(1), api.ErrExist)
		slot(t, c)
	}
}

// P121: no more slots than MaxHistory

func TestSlotsAreFull(t *testing.T) {
	for _, l := range [][]int{{7}, {1, 2, 3}, backwards()} {
		c, m := start(t, l...), newModel(l)
		must(t, c.Ask(1))
		must(t, m.ask(1))
		for range api.MaxHistory {
			both(t, c, m, l[:1])
		}
		for _, lost := range [][]int{nil, {1, 2, 3}, noNodes()} {
			if s, err := c.Slot(lost); s != "" || err != api.ErrFull {
				t.Error(l, s, err)
			}
			alike(t, c, m)
		}
		// all the rest goes on
		must(t, c.Set(l[0], 3))
		is(t, c.Set(l[0], 1<<21), api.ErrBound)
		if c.State(l[0]) == off {
			must(t, c.On(l[0]))
		}
		must(t, c.Off(l[0]))
		must(t, c.On(l[0]))
		is(t, c.On(l[0]), api.ErrExist)
		if s, err := c.Copy().Slot(nil); s != "" || err != api.ErrFull || c.Time() != 200 {
			t.Error(l, s, err, c.Time())
		}
	}
}

func TestSlotsAreFullAlsoIfNobodySpoke(t *testing.T) {
	c, m := start(t, 1, 2), newModel([]int{1, 2})
	for _, node := range []int{1, 2} {
		must(t, c.Off(node))
		must(t, m.off(node))
	}
	for range api.MaxHistory + 2 {
		both(t, c, m, nil)
	}
}

// P122

func TestStateOfNoNode(t *testing.T) {
	c := start(t, 1, 3)
	for _, node := range append(noNodes(), 2, 4, 16) {
		if s := c.State(node); s != "" {
			t.Error(node, s)
		}
		v, err := c.View(node)
		if v != (api.View{}) || err != api.ErrNode {
			t.Error(node, v, err)
		}
		l, err := c.History(node)
		if len(l) != 0 || err != api.ErrNode {
			t.Error(node, l, err)
		}
	}
}

func TestViewAndHistoryOfWhoIsNotActive(t *testing.T) {
	c := start(t, 1, 2, 3)
	slots(t, c, 2)
	must(t, c.Off(1))
	must(t, c.Off(2))
	must(t, c.On(2))
	for _, node := range []int{1, 2} {
		v, err := c.View(node)
		if v != (api.View{}) || err != api.ErrOff {
			t.Error(node, v, err)
		}
		l, err := c.History(node)
		if len(l) != 0 || err != api.ErrOff {
			t.Error(node, l, err)
		}
	}
	if c.Crew() != 4 {
		t.Error(c.Crew())
	}
}

func TestHistoryIsNewMemory(t *testing.T) {
	c, m := start(t, 1, 2, 3), newModel([]int{1, 2, 3})
	for range 4 {
		both(t, c, m, nil)
	}
	l, err := c.History(2)
	must(t, err)
	for i := range l {
		l[i] = api.Entry{Slot: 99, From: 98, Value: 97}
	}
	l = append(l, api.Entry{Slot: 96})
	alike(t, c, m)
	both(t, c, m, nil)
	if l[4] != (api.Entry{Slot: 96}) {
		t.Error(l)
	}
	alike(t, c.Copy(), m)
}

func TestHistoryIsARightOne(t *testing.T) {
	c := start(t, 3, 1, 3, 2)
	for i := range api.MaxHistory {
		slot(t, c, i%5)
		for node := range 4 {
			if l, err := c.History(node); err == nil && (clique.Check(l) != nil || len(l) != i+1) {
				t.Fatal(node, l, clique.Check(l))
			}
		}
		for node := range 4 {
			if c.State(node) == off {
				must(t, c.On(node))
			}
		}
	}
}
