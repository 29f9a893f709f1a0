package guard_test

import (
	"math"
	"slices"
	"testing"

	"bargelock/api"
	"bargelock/guard"
)

const most = 1000000

var plans = [][]int{
	{1},
	{16},
	{2, 1},
	{2, 1, 2, 5},
	{3, 3, 3},
	{4, 4, 9, 4, 4},
	{1, 2, 3, 4, 5, 6, 7, 8, 9, 10, 11, 12, 13, 14, 15, 16},
	slices.Repeat([]int{7, 16, 1, 7}, 8),
}

// noNodes are handed over as nodes: they have no slot, in any plan.
var noNodes = []int{0, -1, 17, most, math.MinInt, math.MaxInt}

// wrongTimes are what Slot does not take.
var wrongTimes = []struct{ long, tick int }{
	{0, 0},
	{0, 5},
	{-1, 5},
	{-10, -5}, // a division of these would be a slot
	{most + 1, 5},
	{math.MinInt, 5},
	{math.MaxInt, 5},
	{10, -1},
	{10, -10},
	{1, most + 1},
	{10, most + 1},
	{most, most + 1},
	{10, math.MinInt},
	{10, math.MaxInt},
	{0, -1},
	{most + 1, most + 1},
	{-1, math.MinInt}, // a division of these would wrap round
}

type wrongPlan struct {
	l    []int
	want error
	at   int // below 0: no place is told
}

func wrongPlans() []wrongPlan {
	return []wrongPlan{
		{nil, api.ErrNone, -1},
		{[]int{}, api.ErrNone, -1},
		{make([]int, 33), api.ErrFull, -1},
		{slices.Repeat([]int{2}, 33), api.ErrFull, -1},
		{[]int{0}, api.ErrNode, 0},
		{[]int{2, 1, 17, 0}, api.ErrNode, 2},
		{[]int{2, math.MinInt}, api.ErrNode, 1},
		{append(slices.Repeat([]int{2}, 31), math.MaxInt), api.ErrNode, 31},
	}
}

// isTold: is err the plan's error, as the document asks: bare, or a fault with its place?
func (w wrongPlan) isTold(err error) bool {
	if w.at < 0 {
		return err == w.want
	}
	f, ok := err.(*api.Fault)
	return ok && f.At == w.at && f.Err == w.want
}

// P50

func TestSlot(t *testing.T) {
	for _, x := range []struct{ long, tick, want int }{
		{10, 0, 0},
		{10, 9, 0},
		{10, 10, 1},
		{10, 19, 1},
		{10, 20, 2},
		{10, most - 1, 99999},
		{10, most, 100000},
		{1, 0, 0},
		{1, 1, 1},
		{1, most, most},
		{7, 6, 0},
		{7, 7, 1},
		{7, most, 142857},
		{most - 1, most - 2, 0},
		{most - 1, most - 1, 1},
		{most - 1, most, 1},
		{most, 0, 0},
		{most, most - 1, 0},
		{most, most, 1},
	} {
		if n, err := guard.Slot(x.long, x.tick); n != x.want || err != nil {
			t.Error(x, n, err)
		}
	}
}

func TestSlotsAreAllAsLong(t *testing.T) {
	for _, long := range []int{1, 2, 3, 7, 10, 1000} {
		slot, within := 0, 0
		for tick := range 5*long + 1 {
			if n, err := guard.Slot(long, tick); n != slot || err != nil {
				t.Fatal(long, tick, n, err)
			}
			within++
			if within == long {
				slot, within = slot+1, 0
			}
		}
	}
}

func TestWrongTimes(t *testing.T) {
	for _, w := range wrongTimes {
		if n, err := guard.Slot(w.long, w.tick); n != 0 || err != api.ErrBound {
			t.Error(w, n, err)
		}
		// Slot's errors are told ahead of the plan's, and of the node's.
		for _, l := range [][]int{{2, 1}, nil, {1, 0}, make([]int, 33)} {
			for _, node := range []int{1, 2, 3, 0, 17} {
				if err := guard.Pass(l, w.long, node, w.tick); err != api.ErrBound {
					t.Error(w, l, node, err)
				}
				if n, err := guard.Wait(l, w.long, node, w.tick); n != 0 || err != api.ErrBound {
					t.Error(w, l, node, n, err)
				}
			}
		}
	}
}

func TestWrongPlans(t *testing.T) {
	for _, w := range wrongPlans() {
		for _, node := range append([]int{2, 3}, noNodes...) {
			for _, x := range []struct{ long, tick int }{{1, 0}, {10, 5}, {10, most}, {most, most}} {
				if err := guard.Pass(w.l, x.long, node, x.tick); !w.isTold(err) {
					t.Error(w, node, x, err)
				}
				if n, err := guard.Wait(w.l, x.long, node, x.tick); n != 0 || !w.isTold(err) {
					t.Error(w, node, x, n, err)
				}
			}
		}
	}
}

func TestPass(t *testing.T) {
	l := []int{2, 1, 2, 5}
	for _, x := range []struct {
		long, node, tick int
		want             error
	}{
		{10, 2, 0, nil},
		{10, 2, 9, nil},
		{10, 2, 10, api.ErrLate},
		{10, 1, 9, api.ErrLate},
		{10, 1, 10, nil},
		{10, 1, 19, nil},
		{10, 1, 20, api.ErrLate},
		{10, 2, 20, nil},
		{10, 5, 39, nil},
		{10, 5, 40, api.ErrLate},
		{10, 2, 40, nil},
		{10, 2, most, nil}, // slot 100000: the first of a round
		{10, 5, most - 1, nil},
		{1, 5, 3, nil},
		{1, 2, most, nil},
		{most, 2, most - 1, nil},
		{most, 1, most, nil},
		{most, 2, most, api.ErrLate},
		{10, 3, 0, api.ErrLate}, // one that has no slot at all
	} {
		if err := guard.Pass(l, x.long, x.node, x.tick); err != x.want {
			t.Error(x, err)
		}
	}
}

func TestNoNodePasses(t *testing.T) {
	for _, node := range noNodes {
		for _, tick := range []int{0, 5, 15, most} {
			if err := guard.Pass([]int{2, 1}, 10, node, tick); err != api.ErrLate {
				t.Error(node, tick, err)
			}
		}
	}
}

func TestWait(t *testing.T) {
	l := []int{2, 1, 2, 5}
	for _, x := range []struct{ long, node, tick, want int }{
		{10, 2, 0, 0},
		{10, 2, 7, 7}, // within its slot it need not wait
		{10, 2, 9, 9},
		{10, 2, 10, 20},
		{10, 2, 19, 20},
		{10, 1, 0, 10},
		{10, 1, 9, 10},
		{10, 1, 10, 10},
		{10, 1, 19, 19},
		{10, 1, 20, 50}, // its slot is over: that of the next round
		{10, 5, 40, 70},
		{10, 2, 30, 40},
		{10, 2, most, most},
		{10, 2, most - 5, most},
		{10, 5, most - 1, most - 1},
		{1, 5, 0, 3},
		{1, 5, 4, 7},
		{1, 2, most, most},
		{most, 2, most - 1, most - 1},
		{most, 1, 0, most},
		{most, 1, most, most},
	} {
		if n, err := guard.Wait(l, x.long, x.node, x.tick); n != x.want || err != nil {
			t.Error(x, n, err)
		}
	}
}

func TestWaitAboveMaxTime(t *testing.T) {
	l := []int{2, 1, 2, 5}
	for _, x := range []struct{ long, node, tick int }{
		{10, 1, most}, // slot 100001, which begins at most and 10
		{10, 5, most},
		{1, 1, most}, // by one tick
		{most, 2, most},
		{most, 5, 0},
		{most, 5, most},
		{most - 1, 2, most},
		{most/2 + 1, 2, most/2 + 1}, // slot 2, by two ticks
	} {
		if n, err := guard.Wait(l, x.long, x.node, x.tick); n != 0 || err != api.ErrBound {
			t.Error(x, n, err)
		}
	}
}

func TestWaitWithoutASlot(t *testing.T) {
	for _, node := range append([]int{3, 16}, noNodes...) {
		for _, x := range []struct{ long, tick int }{{10, 0}, {10, 15}, {1, most}, {most, most}} {
			if n, err := guard.Wait([]int{2, 1}, x.long, node, x.tick); n != 0 || err != api.ErrNone {
				t.Error(node, x, n, err)
			}
		}
	}
}

func TestWaitIsTheFirstThatPasses(t *testing.T) {
	for _, l := range plans {
		for _, long := range []int{1, 2, 5} {
			for from := range 2*len(l)*long + 1 {
				for _, node := range []int{1, 2, 4, 7, 16} {
					checkWait(t, l, long, node, from)
					checkWait(t, l, long, node, most-from)
				}
			}
		}
	}
}

// checkWait goes tick by tick to the first at which the node may send: for a round, or up to the bound.
func checkWait(t *testing.T, l []int, long, node, from int) {
	t.Helper()
	want, wantErr := 0, error(nil)
	switch tick := firstPass(l, long, node, from); {
	case !slices.Contains(l, node):
		wantErr = api.ErrNone
	case tick < 0:
		wantErr = api.ErrBound
	default:
		want = tick
	}
	if n, err := guard.Wait(l, long, node, from); n != want || err != wantErr {
		t.Fatal(l, long, node, from, n, err, want, wantErr)
	}
}

func firstPass(l []int, long, node, from int) int {
	for tick := from; tick <= min(most, from+len(l)*long); tick++ {
		if guard.Pass(l, long, node, tick) == nil {
			return tick
		}
	}
	return -1
}

func TestPlansAreOnlyRead(t *testing.T) {
	was := []int{2, 1, 9, 17}
	memory := slices.Clone(was)
	l := memory[:2]
	if err := guard.Pass(l, 10, 2, 20); err != nil {
		t.Error(err)
	}
	if err := guard.Pass(l, 10, 9, 20); err != api.ErrLate {
		t.Error(err)
	}
	if n, err := guard.Wait(l, 10, 2, 10); n != 20 || err != nil {
		t.Error(n, err)
	}
	if n, err := guard.Wait(l, 10, 9, 0); n != 0 || err != api.ErrNone {
		t.Error(n, err)
	}
	if !slices.Equal(memory, was) {
		t.Error(memory)
	}
}

// P51

func TestAtEachTickOneMaySend(t *testing.T) {
	for _, l := range plans {
		for _, long := range []int{1, 2, 3, 10} {
			at, within := 0, 0
			for tick := range 2*len(l)*long + 1 {
				checkSender(t, l, long, tick, l[at])
				within++
				if within == long {
					at, within = (at+1)%len(l), 0
				}
			}
		}
	}
}

func TestOneMaySendAlsoAtTheBounds(t *testing.T) {
	for _, l := range plans {
		for _, long := range []int{1, 2, 3, 10, 31, 999, most / 2, most - 1, most} {
			for _, tick := range []int{0, 1, long - 1, long, most / 2, most - 1, most} {
				checkSender(t, l, long, tick, l[tick/long%len(l)])
			}
		}
	}
}

// checkSender: the one who is wanted may send, and it need not wait; of all others none may.
func checkSender(t *testing.T, l []int, long, tick, want int) {
	t.Helper()
	for node := -1; node <= api.MaxNodes+1; node++ {
		err := guard.Pass(l, long, node, tick)
		n, _ := guard.Wait(l, long, node, tick)
		if node == want && (err != nil || n != tick) {
			t.Fatal(l, long, tick, node, err, n)
		}
		if node != want && (err != api.ErrLate || n == tick && tick > 0) {
			t.Fatal(l, long, tick, node, err, n)
		}
	}
}
