package clock_test

import (
	"math"
	"slices"
	"testing"

	"bargelock/api"
	"bargelock/clock"
)

const (
	most  = 1000000
	least = -most
)

var noTimes = []int{most + 1, least - 1, 2 * most, -2 * most, math.MaxInt, math.MinInt}

// told are lists and their middles, worked out by hand.
var told = []struct {
	l       []int
	k, want int
}{
	{[]int{7}, 0, 7},
	{[]int{-7}, 0, -7},
	{[]int{0}, 0, 0},
	{[]int{most}, 0, most},
	{[]int{least}, 0, least},
	{[]int{7, 8}, 0, 7},
	{[]int{8, 7}, 0, 7},
	{[]int{7, 9}, 0, 8},
	{[]int{-8, -7}, 0, -8},
	{[]int{-1, 0}, 0, -1},
	{[]int{0, 1}, 0, 0},
	{[]int{-2, 1}, 0, -1},
	{[]int{-1, 2}, 0, 0},
	{[]int{most, most}, 0, most},
	{[]int{least, least}, 0, least},
	{[]int{most, most - 1}, 0, most - 1},
	{[]int{least, least + 1}, 0, least},
	{[]int{least, most}, 0, 0},
	{[]int{least, most - 1}, 0, -1},
	{[]int{10, 12, 500, 11}, 1, 11},
	{[]int{10, 12, 500, 11}, 0, 255},
	{[]int{3, 1, 2}, 1, 2},
	{[]int{1, 1, 9}, 1, 1},
	{[]int{9, 9, 1}, 1, 9},
	{[]int{0, 0, 100}, 0, 50}, // not the mean, nor the one in the middle
	{[]int{9, -9, 4, 5, 100}, 0, 45},
	{[]int{9, -9, 4, 5, 100}, 1, 6},
	{[]int{9, -9, 4, 5, 100}, 2, 5},
	{[]int{-9, 9, -4, -5, -100}, 1, -7},
	{[]int{least, -3, -4, most}, 1, -4},
	{[]int{10, 9, 100, 2, 1, 20}, 2, 9}, // as numbers, not as texts
	{[]int{5, 5, 5, 5, 5}, 2, 5},
	{append(slices.Repeat([]int{most}, 500), slices.Repeat([]int{least}, 501)...), 500, least},
	{append(slices.Repeat([]int{least}, 500), slices.Repeat([]int{most}, 501)...), 500, most},
}

// wrongLists are what Mid does not take; at below 0: no place is told.
func wrongLists() []struct {
	l     []int
	k, at int
} {
	return []struct {
		l     []int
		k, at int
	}{
		{nil, 0, -1},
		{[]int{}, 0, -1},
		{nil, 1, -1},
		{nil, -1, -1},
		{[]int{1, 2, 3}, -1, -1},
		{[]int{1, 2, 3}, math.MinInt, -1},
		{[]int{1}, 1, -1},
		{[]int{1, 2}, 1, -1},
		{[]int{1, 2, 3}, 2, -1},
		{[]int{1, 2, 3, 4}, 2, -1},
		{[]int{1, 2, 3}, 3, -1},
		{[]int{1, 2, 3}, 4, -1},
		{[]int{1, 2, 3}, math.MaxInt, -1},
		{[]int{1, 2, 3}, math.MaxInt/2 + 1, -1}, // twice that wraps round
		{[]int{1, 2, 3}, math.MaxInt / 2, -1},
		{[]int{most + 1, 2}, 1, -1}, // k is told ahead of a number
		{[]int{most + 1}, -1, -1},
		{[]int{most + 1}, 0, 0},
		{[]int{least - 1}, 0, 0},
		{[]int{math.MaxInt}, 0, 0},
		{[]int{math.MinInt}, 0, 0},
		{[]int{1, 2, most + 1}, 1, 2}, // also one that would be left out
		{[]int{1, least - 1, 3}, 1, 1},
		{[]int{1, most + 1, least - 1}, 0, 1},
		{[]int{1, least - 1, most + 1, 0, 2}, 2, 1},
		{[]int{math.MinInt, math.MaxInt, math.MinInt}, 1, 0},
	}
}

func isBound(err error, at int) bool {
	if at < 0 {
		return err == api.ErrBound
	}
	f, ok := err.(*api.Fault)
	return ok && f.At == at && f.Err == api.ErrBound
}

// P40

func TestMid(t *testing.T) {
	for _, x := range told {
		if n, err := clock.Mid(x.l, x.k); n != x.want || err != nil {
			t.Errorf("%.10v, %d: %d, %v, not %d", x.l, x.k, n, err, x.want)
		}
	}
}

func TestMidWrong(t *testing.T) {
	for _, w := range wrongLists() {
		if n, err := clock.Mid(w.l, w.k); n != 0 || !isBound(err, w.at) {
			t.Error(w, n, err)
		}
	}
}

func TestMidHangsOnNoOrder(t *testing.T) {
	l := []int{4, -9, 5, 100, 9}
	for i := range l {
		for j := range l {
			other := slices.Clone(l)
			other[i], other[j] = other[j], other[i]
			for k, want := range []int{45, 6, 5} {
				if n, err := clock.Mid(other, k); n != want || err != nil {
					t.Error(other, k, n, err)
				}
			}
		}
	}
}

func TestSpread(t *testing.T) {
	for _, x := range []struct {
		l    []int
		want int
	}{
		{nil, 0},
		{[]int{}, 0},
		{[]int{5}, 0},
		{[]int{-5}, 0},
		{[]int{5, 5, 5}, 0},
		{[]int{5, 9}, 4},
		{[]int{9, 5}, 4},
		{[]int{5, -3, 4}, 8},
		{[]int{-5, -3, -4}, 2},
		{[]int{0, most}, most},
		{[]int{least, 0}, most},
		{[]int{most, 0, least}, 2 * most},
	} {
		if n := clock.Spread(x.l); n != x.want {
			t.Error(x.l, n)
		}
	}
}

func TestSpreadOfTimesAlone(t *testing.T) {
	for _, none := range noTimes {
		for _, x := range []struct {
			l    []int
			want int
		}{
			{[]int{none}, 0},
			{[]int{none, none}, 0},
			{[]int{none, 5}, 0},
			{[]int{none, 5, 9}, 4},
			{[]int{5, none, 9}, 4},
			{[]int{-9, -5, none}, 4},
			{[]int{least, most, none}, 2 * most},
		} {
			if n := clock.Spread(x.l); n != x.want {
				t.Error(x.l, n)
			}
		}
	}
	if n := clock.Spread(noTimes); n != 0 {
		t.Error(n)
	}
}

func TestSet(t *testing.T) {
	for _, x := range told {
		for _, own := range []int{0, 1, -1, 11, most, least} {
			if n, err := clock.Set(own, x.l, x.k); n != x.want-own || err != nil {
				t.Errorf("%d, %.10v, %d: %d, %v", own, x.l, x.k, n, err)
			}
		}
	}
}

func TestSetFarthest(t *testing.T) {
	if n, err := clock.Set(least, []int{most}, 0); n != 2*most || err != nil {
		t.Error(n, err)
	}
	if n, err := clock.Set(most, []int{least}, 0); n != -2*most || err != nil {
		t.Error(n, err)
	}
}

func TestSetWrong(t *testing.T) {
	for _, w := range wrongLists() {
		for _, own := range []int{0, 7, most, least} {
			if n, err := clock.Set(own, w.l, w.k); n != 0 || !isBound(err, w.at) {
				t.Error(own, w, n, err)
			}
		}
		// The own one is told ahead of the list: without a place.
		for _, own := range noTimes {
			if n, err := clock.Set(own, w.l, w.k); n != 0 || !isBound(err, -1) {
				t.Error(own, w, n, err)
			}
		}
	}
	for _, own := range noTimes {
		if n, err := clock.Set(own, []int{1, 2, 3}, 1); n != 0 || !isBound(err, -1) {
			t.Error(own, n, err)
		}
	}
}

func TestListsAreOnlyRead(t *testing.T) {
	was := []int{9, 1, 5, most + 1, -8, 3}
	memory := slices.Clone(was)
	l := memory[:3]
	if n, err := clock.Mid(l, 0); n != 5 || err != nil {
		t.Error(n, err)
	}
	if n, err := clock.Set(4, l, 1); n != 1 || err != nil {
		t.Error(n, err)
	}
	if n := clock.Spread(l); n != 8 {
		t.Error(n)
	}
	if _, err := clock.Mid(memory, 1); !isBound(err, 3) {
		t.Error(err)
	}
	if n := clock.Spread(memory); n != 17 {
		t.Error(n)
	}
	if !slices.Equal(memory, was) {
		t.Error(memory)
	}
}

// P41

// lists: all of so many numbers out of some, in every order.
func lists(many int, of []int) [][]int {
	all := [][]int{nil}
	for range many {
		var longer [][]int
		for _, l := range all {
			for _, n := range of {
				longer = append(longer, append(slices.Clone(l), n))
			}
		}
		all = longer
	}
	return all
}

func mid(t *testing.T, l []int, k int) int {
	t.Helper()
	n, err := clock.Mid(l, k)
	if err != nil {
		t.Fatal(l, k, err)
	}
	return n
}

// views: the middles of all who see the right ones, and one of the lists of wrong ones: ahead, behind or among them.
func views(t *testing.T, right []int, wrongs [][]int) []int {
	t.Helper()
	var mids []int
	for i, wrong := range wrongs {
		seen := slices.Insert(slices.Clone(right), i%(len(right)+1), wrong...)
		mids = append(mids, mid(t, seen, len(wrong)))
	}
	return mids
}

func TestMiddleIsAmongTheRight(t *testing.T) {
	for _, x := range []struct {
		right, k int
		rights   []int
		wrongs   []int
	}{
		{1, 0, []int{least, -1, 0, 3, most}, nil},
		{3, 0, []int{least, -1, 0, 3, most}, nil},
		{2, 1, []int{-4, -3, 0, 5}, []int{least, -5, -4, -1, 0, 2, 5, 6, most}}, // 2k and 1 in all
		{3, 1, []int{-4, -3, 0, 5}, []int{least, -5, -4, -1, 0, 2, 5, 6, most}},
		{3, 2, []int{-3, 0, 4}, []int{least, -3, 1, 4, most}},
		{5, 2, []int{-3, 0, 4}, []int{least, -3, 1, 4, most}},
		{4, 3, []int{-3, 4}, []int{least, 0, most}},
	} {
		wrongs := lists(x.k, x.wrongs)
		for _, right := range lists(x.right, x.rights) {
			for i, n := range views(t, right, wrongs) {
				if n < slices.Min(right) || n > slices.Max(right) {
					t.Fatal(right, wrongs[i], n)
				}
			}
		}
	}
}

func TestTwoComeNearer(t *testing.T) {
	for _, x := range []struct {
		right, k int
		rights   []int
		wrongs   []int
	}{
		{3, 1, []int{-7, -6, -1, 0, 3, 8}, []int{least, -8, -7, -6, -5, -1, 0, 1, 2, 3, 5, 8, 9, most}}, // 3k and 1 in all
		{3, 1, []int{least, 0, most}, []int{least, least + 1, -1, 0, 1, most - 1, most}},
		{4, 1, []int{-7, 0, 3, 8}, []int{least, -7, -1, 0, 2, 8, most}},
		{5, 2, []int{-4, 0, 5}, []int{least, -4, -1, 0, 2, 5, most}},
		{7, 3, []int{-3, 4}, []int{least, 0, most}},
	} {
		wrongs := lists(x.k, x.wrongs)
		for _, right := range lists(x.right, x.rights) {
			mids := views(t, right, wrongs)
			apart := slices.Max(mids) - slices.Min(mids)
			if 2*apart > clock.Spread(right)+2 {
				t.Fatal(right, x.k, apart)
			}
		}
	}
}

func TestWithLessThanThreeTimesAndOneTheyNeedNot(t *testing.T) {
	a, b := mid(t, []int{0, 10, -100}, 1), mid(t, []int{0, 10, 100}, 1)
	if a != 0 || b != 10 {
		t.Error(a, b)
	}
}

func TestClocksThatAreSetComeNearer(t *testing.T) {
	right := []int{0, 8, 3}
	after := make([]int, len(right))
	for i, own := range right {
		seen := append(slices.Clone(right), []int{most, least, 4}[i])
		by, err := clock.Set(own, seen, 1)
		if err != nil {
			t.Fatal(own, err)
		}
		after[i] = own + by
	}
	if !slices.Equal(after, []int{5, 1, 3}) || clock.Spread(after) > clock.Spread(right)/2+1 {
		t.Error(after)
	}
}
