package plan_test

import (
	"math"
	"slices"
	"testing"

	"bargelock/api"
	"bargelock/plan"
)

var plans = [][]int{
	{1},
	{16},
	{2, 1},
	{2, 1, 2, 5},
	{3, 3, 3},
	{4, 4, 9, 4, 4},
	{1, 2, 3, 4, 5, 6, 7, 8, 9, 10, 11, 12, 13, 14, 15, 16},
	slices.Repeat([]int{7, 16, 1, 7}, 8),
}

var wrongSlots = []int{-1, api.MaxTime + 1, -api.MaxTime, math.MinInt, math.MaxInt}

type wrongPlan struct {
	l    []int
	want error
	at   int // below 0: no place is told
}

func wrongPlans() []wrongPlan {
	return []wrongPlan{
		{nil, api.ErrNone, -1},
		{[]int{}, api.ErrNone, -1},
		{make([]int, 33), api.ErrFull, -1},
		{slices.Repeat([]int{1}, 33), api.ErrFull, -1},
		{slices.Repeat([]int{1}, 5000), api.ErrFull, -1},
		{[]int{0}, api.ErrNode, 0},
		{[]int{17}, api.ErrNode, 0},
		{[]int{1, 0, 17}, api.ErrNode, 1},
		{[]int{1, 16, -1}, api.ErrNode, 2},
		{[]int{math.MinInt, math.MaxInt}, api.ErrNode, 0},
		{[]int{2, math.MaxInt}, api.ErrNode, 1},
		{append(slices.Repeat([]int{16}, 31), 17), api.ErrNode, 31},
	}
}

// isFault: is err the error that is wanted, as the document asks: bare, or a fault with its place?
func isFault(err error, w wrongPlan) bool {
	if w.at < 0 {
		return err == w.want
	}
	f, ok := err.(*api.Fault)
	return ok && f.At == w.at && f.Err == w.want
}

// P20

func TestCheck(t *testing.T) {
	for _, l := range plans {
		if err := plan.Check(l); err != nil {
			t.Error(l, err)
		}
	}
	for _, w := range wrongPlans() {
		if err := plan.Check(w.l); !isFault(err, w) {
			t.Error(w, err)
		}
	}
}

func TestWho(t *testing.T) {
	for _, x := range []struct {
		l          []int
		slot, want int
	}{
		{[]int{2, 1}, 0, 2},
		{[]int{2, 1}, 1, 1},
		{[]int{2, 1}, 2, 2},
		{[]int{2, 1}, 4, 2},
		{[]int{2, 1, 2, 5}, 3, 5},
		{[]int{2, 1, 2, 5}, 4, 2},
		{[]int{2, 1, 2, 5}, 1000000, 2},
		{[]int{2, 1, 5}, 999999, 2},
		{[]int{2, 1, 5}, 1000000, 1},
		{[]int{16}, 1000000, 16},
	} {
		if who, err := plan.Who(x.l, x.slot); who != x.want || err != nil {
			t.Error(x, who, err)
		}
	}
}

func TestWhoWrong(t *testing.T) {
	for _, w := range wrongPlans() {
		for _, slot := range []int{0, -1, api.MaxTime + 1} {
			if who, err := plan.Who(w.l, slot); who != 0 || !isFault(err, w) {
				t.Error(w, slot, who, err)
			}
		}
	}
	for _, slot := range wrongSlots {
		if who, err := plan.Who([]int{2, 1}, slot); who != 0 || err != api.ErrBound {
			t.Error(slot, who, err)
		}
	}
}

func TestNext(t *testing.T) {
	for _, x := range []struct {
		l                []int
		node, slot, want int
	}{
		{[]int{2, 1}, 2, 0, 0},
		{[]int{2, 1}, 2, 1, 2},
		{[]int{2, 1}, 1, 0, 1},
		{[]int{2, 1}, 1, 2, 3},
		{[]int{2, 1, 2, 5}, 2, 1, 2},
		{[]int{2, 1, 2, 5}, 2, 3, 4},
		{[]int{2, 1, 2, 5}, 1, 2, 5},
		{[]int{2, 1, 2, 5}, 5, 999999, 999999},
		// Only the slot that is asked from has a bound: the one that is told may be above it.
		{[]int{2, 1, 2, 5}, 1, 1000000, 1000001},
		{[]int{2, 1, 2, 5}, 2, 1000000, 1000000},
		{[]int{16}, 16, 7, 7},
	} {
		if n, err := plan.Next(x.l, x.node, x.slot); n != x.want || err != nil {
			t.Error(x, n, err)
		}
	}
}

func TestNextWrong(t *testing.T) {
	for _, w := range wrongPlans() {
		for _, slot := range []int{0, -1, api.MaxTime + 1} {
			for _, node := range []int{1, 16, 0, 17} {
				if n, err := plan.Next(w.l, node, slot); n != 0 || !isFault(err, w) {
					t.Error(w, node, slot, n, err)
				}
			}
		}
	}
	for _, slot := range wrongSlots {
		for _, node := range []int{2, 3, 0} {
			if n, err := plan.Next([]int{2, 1}, node, slot); n != 0 || err != api.ErrBound {
				t.Error(slot, node, n, err)
			}
		}
	}
	for _, node := range []int{3, 16, 0, 17, -1, math.MinInt, math.MaxInt} {
		for _, slot := range []int{0, 1, api.MaxTime} {
			if n, err := plan.Next([]int{2, 1}, node, slot); n != 0 || err != api.ErrNone {
				t.Error(node, slot, n, err)
			}
		}
	}
}

func TestRound(t *testing.T) {
	for _, x := range []struct {
		l               []int
		slot, round, at int
	}{
		{[]int{2, 1}, 0, 0, 0},
		{[]int{2, 1}, 1, 0, 1},
		{[]int{2, 1}, 2, 1, 0},
		{[]int{2, 1, 2, 5}, 7, 1, 3},
		{[]int{2, 1, 2, 5}, 1000000, 250000, 0},
		{[]int{2, 1, 5}, 1000000, 333333, 1},
		{[]int{16}, 1000000, 1000000, 0},
		{slices.Repeat([]int{1}, 32), 31, 0, 31},
		{slices.Repeat([]int{1}, 32), 32, 1, 0},
	} {
		round, at, err := plan.Round(x.l, x.slot)
		if round != x.round || at != x.at || err != nil {
			t.Error(x, round, at, err)
		}
	}
}

func TestRoundWrong(t *testing.T) {
	for _, w := range wrongPlans() {
		for _, slot := range []int{0, -1, api.MaxTime + 1} {
			if round, at, err := plan.Round(w.l, slot); round != 0 || at != 0 || !isFault(err, w) {
				t.Error(w, slot, round, at, err)
			}
		}
	}
	for _, slot := range wrongSlots {
		if round, at, err := plan.Round([]int{2, 1}, slot); round != 0 || at != 0 || err != api.ErrBound {
			t.Error(slot, round, at, err)
		}
	}
}

func TestCrew(t *testing.T) {
	for _, x := range []struct {
		l    []int
		want int
	}{
		{[]int{1}, 1},
		{[]int{16}, 32768},
		{[]int{2, 1, 2, 5}, 19},
		{[]int{5, 2, 1}, 19},
		{slices.Repeat([]int{3}, 32), 4},
		{[]int{1, 2, 3, 4, 5, 6, 7, 8, 9, 10, 11, 12, 13, 14, 15, 16}, 65535},
	} {
		if c, err := plan.Crew(x.l); c != x.want || err != nil {
			t.Error(x, c, err)
		}
	}
	for _, w := range wrongPlans() {
		if c, err := plan.Crew(w.l); c != 0 || !isFault(err, w) {
			t.Error(w, c, err)
		}
	}
}

func TestShare(t *testing.T) {
	for _, x := range []struct {
		l          []int
		node, want int
	}{
		{[]int{2, 1, 2, 5}, 2, 2},
		{[]int{2, 1, 2, 5}, 1, 1},
		{[]int{2, 1, 2, 5}, 5, 1},
		{[]int{2, 1, 2, 5}, 3, 0},
		{[]int{2, 1, 2, 5}, 0, 0},
		{[]int{2, 1, 2, 5}, 17, 0},
		{[]int{2, 1, 2, 5}, math.MinInt, 0},
		{slices.Repeat([]int{16}, 32), 16, 32},
		{slices.Repeat([]int{16}, 33), 16, 0},
		{make([]int, 3), 0, 0},
		{[]int{1, 1, 17}, 1, 0},
		{[]int{1, 1, 17}, 17, 0},
	} {
		if n := plan.Share(x.l, x.node); n != x.want {
			t.Error(x, n)
		}
	}
	for _, w := range wrongPlans() {
		for _, node := range []int{0, 1, 16, 17, math.MaxInt} {
			if n := plan.Share(w.l, node); n != 0 {
				t.Error(w, node, n)
			}
		}
	}
}

func TestPlansAreOnlyRead(t *testing.T) {
	memory := []int{2, 1, 9, 17}
	l := memory[:2]
	who, _ := plan.Who(l, 3)
	next, _ := plan.Next(l, 2, 1)
	round, at, _ := plan.Round(l, 3)
	c, err := plan.Crew(l)
	none, missing := plan.Next(l, 9, 0)
	if who != 1 || next != 2 || round != 1 || at != 1 || c != 3 || err != nil || none != 0 || missing != api.ErrNone {
		t.Error(who, next, round, at, c, err, none, missing)
	}
	if plan.Check(l) != nil || plan.Share(l, 9) != 0 || plan.Share(l, 2) != 1 {
		t.Error("behind the length of a plan something was read")
	}
	if !slices.Equal(memory, []int{2, 1, 9, 17}) {
		t.Error(memory)
	}
}

// P21

func TestEachRoundHasEachShare(t *testing.T) {
	for _, l := range plans {
		last := api.MaxTime / len(l)
		for _, round := range []int{0, 1, 2, last - 1} {
			var count [api.MaxNodes + 1]int
			for at := range l {
				slot := round*len(l) + at
				who, err := plan.Who(l, slot)
				r, a, bad := plan.Round(l, slot)
				if err != nil || bad != nil || who != l[at] || r != round || a != at {
					t.Fatal(l, slot, who, r, a, err, bad)
				}
				count[who]++
			}
			for node, n := range count {
				if plan.Share(l, node) != n {
					t.Error(l, round, node, n)
				}
			}
		}
	}
}

func TestSharesMakeARound(t *testing.T) {
	for _, l := range plans {
		sum := 0
		c, _ := plan.Crew(l)
		for node := 1; node <= api.MaxNodes; node++ {
			share := plan.Share(l, node)
			sum += share
			if sends := c>>(node-1)&1 == 1; sends != (share > 0) {
				t.Error(l, node, share, c)
			}
		}
		if sum != len(l) {
			t.Error(l, sum)
		}
	}
}

func TestNobodyWaitsLongerThanARound(t *testing.T) {
	for _, l := range plans {
		for node := 0; node <= api.MaxNodes+1; node++ {
			for from := range 3*len(l) + 1 {
				checkWait(t, l, node, from)
				checkWait(t, l, node, api.MaxTime-from)
			}
		}
	}
}

// checkWait: the next slot is the node's own, none ahead of it is, and it is less than a round away.
func checkWait(t *testing.T, l []int, node, from int) {
	t.Helper()
	next, err := plan.Next(l, node, from)
	if plan.Share(l, node) == 0 {
		if next != 0 || err != api.ErrNone {
			t.Error(l, node, from, next, err)
		}
		return
	}
	if err != nil || next < from || next-from >= len(l) || l[next%len(l)] != node {
		t.Error(l, node, from, next, err)
		return
	}
	for slot := from; slot < next; slot++ {
		if l[slot%len(l)] == node {
			t.Error(l, node, from, next, slot)
		}
	}
}
