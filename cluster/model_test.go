package cluster_test

import (
	"math/bits"
	"slices"
	"testing"

	"bargelock/api"
	"bargelock/cluster"
	"bargelock/frame"
)

// A model is what the chapter says, by lists and numbers alone.
type model struct {
	plan       []int
	time       int
	now, asked int
	nodes      [api.MaxNodes + 1]modelNode // by number; state is empty, if it is none of the plan
}

type modelNode struct {
	state         string
	value         int
	members, mode int
	history       []api.Entry
}

func newModel(l []int) *model {
	m := &model{plan: slices.Clone(l), asked: nothing}
	for _, node := range l {
		m.nodes[node].state = active
		m.nodes[node].members = crewOf(l)
	}
	return m
}

func (m *model) copy() *model {
	n := *m
	for i := range n.nodes {
		n.nodes[i].history = slices.Clone(n.nodes[i].history)
	}
	return &n
}

// state of a node, and whether it is one of the plan.
func (m *model) state(node int) string {
	if node < 1 || node > api.MaxNodes {
		return ""
	}
	return m.nodes[node].state
}

func (m *model) set(node, value int) error {
	if m.state(node) == "" {
		return api.ErrNode
	}
	if value > 1<<20 || value < -1<<20 {
		return api.ErrBound
	}
	m.nodes[node].value = value
	return nil
}

func (m *model) off(node int) error {
	switch m.state(node) {
	case "":
		return api.ErrNode
	case off:
		return api.ErrExist
	}
	m.nodes[node].state = off
	return nil
}

func (m *model) on(node int) error {
	switch m.state(node) {
	case "":
		return api.ErrNode
	case off:
		m.nodes[node].state = listens
		return nil
	}
	return api.ErrExist
}

func (m *model) ask(to int) error {
	if to < 0 || to > 3 {
		return api.ErrBound
	}
	if m.asked != nothing {
		return api.ErrExist
	}
	m.asked = to
	return nil
}

func (m *model) slot(t *testing.T, lost []int) (string, error) {
	if m.time == 200 {
		return "", api.ErrFull
	}
	who := m.plan[m.time%len(m.plan)]
	s := m.nodes[who]
	text, sent := "", s.members|bit(who)
	if s.state == active {
		f := api.Frame{From: who, View: api.View{Members: sent, Mode: s.mode, Slot: m.time}, Value: s.value}
		var err error
		if text, err = frame.Make(f); err != nil {
			t.Fatal(f, err)
		}
	}
	for i := range m.nodes {
		n := &m.nodes[i]
		if n.state != active {
			continue
		}
		hears := text != "" && (i == who || !slices.Contains(lost, i))
		e := api.Entry{Slot: m.time, From: who}
		if hears && n.members|bit(who) == sent && n.mode == s.mode {
			n.members = sent
			e.Heard, e.Value = true, s.value
		} else {
			n.members &^= bit(who)
		}
		n.history = append(n.history, e)
	}
	s = m.nodes[who]
	for i := range m.nodes {
		if n := &m.nodes[i]; n.state == listens && text != "" && !slices.Contains(lost, i) {
			*n = modelNode{state: active, value: n.value, members: s.members, mode: s.mode, history: slices.Clone(s.history)}
		}
	}
	m.time++
	if m.time%len(m.plan) == 0 {
		m.endRound()
	}
	return text, nil
}

func (m *model) endRound() {
	if m.asked != nothing {
		m.now, m.asked = m.asked, nothing
	}
	for i := range m.nodes {
		n := &m.nodes[i]
		if n.state != active {
			continue
		}
		n.mode = m.now
		heard := 0
		for _, e := range n.history[len(n.history)-len(m.plan):] {
			if e.Heard {
				heard++
			}
		}
		if 2*heard <= len(m.plan) {
			n.state = off
		}
	}
}

// alike: does a cluster tell what the model does?
func alike(t *testing.T, c *cluster.Cluster, m *model) {
	t.Helper()
	crew := 0
	for node := -1; node <= api.MaxNodes+1; node++ {
		state := m.state(node)
		if got := c.State(node); got != state {
			t.Fatal(m.plan, m.time, node, got, "not", state)
		}
		v, err := c.View(node)
		l, bad := c.History(node)
		if state != active {
			want := api.ErrOff
			if state == "" {
				want = api.ErrNode
			}
			if v != (api.View{}) || err != want || len(l) != 0 || bad != want {
				t.Fatal(m.plan, m.time, node, v, err, l, bad)
			}
			continue
		}
		crew |= bit(node)
		n := m.nodes[node]
		if v != (api.View{Members: n.members, Mode: n.mode, Slot: m.time}) || err != nil {
			t.Fatal(m.plan, m.time, node, v, err, n.members, n.mode)
		}
		if !slices.Equal(l, n.history) || bad != nil {
			t.Fatal(m.plan, m.time, node, l, bad, n.history)
		}
	}
	if c.Crew() != crew || c.Time() != m.time {
		t.Fatal(m.plan, m.time, c.Crew(), crew, c.Time())
	}
}

// both make a slot, and are alike.
func both(t *testing.T, c *cluster.Cluster, m *model, lost []int) {
	t.Helper()
	s, err := c.Slot(lost)
	want, bad := m.slot(t, lost)
	if s != want || err != bad {
		t.Fatal(m.plan, m.time, lost, s, err, "not", want, bad)
	}
	alike(t, c, m)
}

// P120 to P122: many calls, held against the model

// A seed makes numbers that look like chance, and are always the same.
type seed int

func (s *seed) next(below int) int {
	*s = (*s*257 + 12345) % 65521
	return int(*s) % below
}

// someNodes are lost: mostly few.
func (s *seed) someNodes() []int {
	var l []int
	few := s.next(4) * s.next(3)
	for range few {
		l = append(l, s.next(api.MaxNodes+3)-1)
	}
	return l
}

// call one of the calls that change something: both do the same, and tell the same error.
func (s *seed) call(t *testing.T, c *cluster.Cluster, m *model) {
	t.Helper()
	node := s.next(api.MaxNodes + 2)
	if s.next(8) > 0 {
		node = m.plan[s.next(len(m.plan))]
	}
	var err, want error
	switch s.next(12) {
	case 0:
		err, want = c.Off(node), m.off(node)
	case 1, 2, 3:
		err, want = c.On(node), m.on(node)
	case 4:
		value := (s.next(9) - 4) << 18 // also -MaxNum and MaxNum
		err, want = c.Set(node, value), m.set(node, value)
	case 5:
		to := s.next(6) - 1
		err, want = c.Ask(to), m.ask(to)
	default:
		both(t, c, m, s.someNodes())
	}
	if err != want {
		t.Fatal(m.plan, m.time, node, err, "not", want)
	}
	alike(t, c, m)
}

func TestManyCalls(t *testing.T) {
	for i, l := range plans() {
		for k := range 12 {
			s := seed(1000*i + k + 1)
			c, m := start(t, l...), newModel(l)
			d, n := c, m
			for j := range 420 {
				if j%60 == 59 { // a copy goes on beside the one that it was made of
					d, n = c.Copy(), m.copy()
				}
				s.call(t, c, m)
				if d != c {
					s.call(t, d, n)
				}
			}
			alike(t, c, m)
			alike(t, d, n)
		}
	}
}

func TestEveryLossOfTwoRounds(t *testing.T) {
	// each set of three nodes may lose each of six slots
	l := []int{1, 2, 3}
	for number := range 1 << 18 {
		if number%5 != 0 && number > 1<<12 {
			continue
		}
		c, m := start(t, l...), newModel(l)
		for i := range 6 {
			lost := nodesOf(number >> (3 * i) & 7)
			s, err := c.Slot(lost)
			if want, bad := m.slot(t, lost); s != want || err != bad {
				t.Fatal(number, s, err, want, bad)
			}
		}
		alike(t, c, m)
	}
}

// nodesOf a crew.
func nodesOf(c int) []int {
	var l []int
	for ; c != 0; c &= c - 1 {
		l = append(l, bits.TrailingZeros(uint(c))+1)
	}
	return l
}

// P123

// oneView: all who are active have one view, and one history.
func oneView(t *testing.T, c *cluster.Cluster, l []int) {
	t.Helper()
	first := 0
	for _, node := range l {
		if c.State(node) != active {
			continue
		}
		if first == 0 {
			first = node
		}
		if view(t, c, node) != view(t, c, first) {
			t.Fatal(l, c.Time(), node, view(t, c, node), first, view(t, c, first))
		}
		a, _ := c.History(node)
		b, _ := c.History(first)
		if !slices.Equal(a, b) || len(a) != c.Time() {
			t.Fatal(l, c.Time(), node, a, first, b)
		}
	}
}

// notLost are numbers of whom nothing can be lost: who sends, who is off, and those that are no nodes of the plan.
func notLost(c *cluster.Cluster, l []int) []int {
	lost := append(noNodes(), l[c.Time()%len(l)])
	for node := 1; node <= api.MaxNodes; node++ {
		if s := c.State(node); s == "" || s == off {
			lost = append(lost, node)
		}
	}
	return lost
}

func TestOneViewIfNothingIsLost(t *testing.T) {
	for i, l := range plans() {
		for k := range 8 {
			s := seed(500*i + k + 7)
			c := start(t, l...)
			for range 300 {
				if c.Time() == api.MaxHistory {
					break
				}
				node := l[s.next(len(l))]
				switch s.next(9) {
				case 0:
					c.Off(node)
				case 1, 2:
					c.On(node)
				case 3:
					must(t, c.Set(node, s.next(2001)-1000))
				case 4:
					c.Ask(s.next(4))
				case 5:
					slot(t, c, notLost(c, l)...)
				default:
					slot(t, c)
				}
				oneView(t, c, l)
			}
		}
	}
}

// TestOneViewByEveryWay goes every way of four slots, with each node of three switched ahead of each slot or not.
func TestOneViewByEveryWay(t *testing.T) {
	l := []int{1, 2, 3}
	for number := range 1 << 15 {
		c, m := start(t, l...), newModel(l)
		for i := range 5 {
			for _, node := range nodesOf(number >> (3 * i) & 7) {
				if m.state(node) == off {
					must(t, c.On(node))
					must(t, m.on(node))
				} else {
					must(t, c.Off(node))
					must(t, m.off(node))
				}
			}
			s, err := c.Slot(nil)
			if want, bad := m.slot(t, nil); s != want || err != bad {
				t.Fatal(number, s, err, want, bad)
			}
			oneView(t, c, l)
		}
		alike(t, c, m)
	}
}
