package delta_test

import (
	"math"
	"slices"
	"testing"

	"bargelock/api"
	"bargelock/delta"
)

const (
	nodes    = 16
	longest  = 200
	greatest = 1048576
)

// many entries, of which each third one was not heard.
func many(n int) []api.Entry {
	l := make([]api.Entry, n)
	for i := range l {
		l[i] = api.Entry{Slot: i, From: 1 + i*5%nodes}
		if i%3 != 2 {
			l[i].Heard, l[i].Value = true, (i%7-3)*9999
		}
	}
	return l
}

// with another entry at a place.
func with(l []api.Entry, place int, e api.Entry) []api.Entry {
	l = slices.Clone(l)
	l[place] = e
	return l
}

// isTold: is err the error that is wanted, as the document asks: bare, or, at a place from 0 on, a fault with it?
func isTold(err, want error, at int) bool {
	if at < 0 {
		return err == want
	}
	f, ok := err.(*api.Fault)
	return ok && f.At == at && f.Err == want
}

// wrongEntries for a place, each with its error.
func wrongEntries(place int) map[api.Entry]error {
	return map[api.Entry]error{
		{Slot: place + 1, From: 1}:                                api.ErrGap,
		{Slot: place - 1, From: 1}:                                api.ErrGap,
		{Slot: math.MinInt, From: 17, Value: 1}:                   api.ErrGap,
		{Slot: place}:                                             api.ErrNode,
		{Slot: place, From: 17, Heard: true, Value: greatest + 1}: api.ErrNode,
		{Slot: place, From: -1}:                                   api.ErrNode,
		{Slot: place, From: 1, Heard: true, Value: greatest + 1}:  api.ErrBound,
		{Slot: place, From: 1, Value: math.MinInt}:                api.ErrBound,
		{Slot: place, From: 16, Value: -1}:                        api.ErrShape,
	}
}

type wrongHistory struct {
	l    []api.Entry
	want error
	at   int // below 0: no place is told
}

func wrongHistories() []wrongHistory {
	all := []wrongHistory{
		{many(longest + 1), api.ErrFull, -1},
		{make([]api.Entry, 5000), api.ErrFull, -1},
		{make([]api.Entry, longest), api.ErrNode, 0},
		{many(3)[1:], api.ErrGap, 0},
		{slices.Delete(many(5), 2, 3), api.ErrGap, 2},
	}
	for _, n := range []int{1, 2, 40, longest} {
		for _, place := range []int{0, n / 2, n - 1} {
			for e, want := range wrongEntries(place) {
				all = append(all, wrongHistory{with(many(n), place, e), want, place})
			}
		}
	}
	return all
}

// P100: Since

func TestSince(t *testing.T) {
	l := many(5)
	for _, x := range []struct{ have, most, from, to int }{
		{0, 1, 0, 1},
		{0, 2, 0, 2},
		{0, 4, 0, 4},
		{0, 5, 0, 5},
		{0, 6, 0, 5}, // there are no more
		{1, 3, 1, 4},
		{3, 1, 3, 4},
		{3, 2, 3, 5},
		{3, 3, 3, 5},
		{4, 1, 4, 5},
		{5, 1, 5, 5}, // nothing is missing, and that is no error
		{5, 9, 5, 5},
		{0, math.MaxInt, 0, 5},
		{1, math.MaxInt, 1, 5},
		{5, math.MaxInt, 5, 5},
	} {
		if got, err := delta.Since(l, x.have, x.most); !slices.Equal(got, l[x.from:x.to]) || err != nil {
			t.Error(x, got, err)
		}
	}
}

func TestSinceOfNothing(t *testing.T) {
	for _, l := range [][]api.Entry{nil, {}} {
		for _, most := range []int{1, 2, math.MaxInt} {
			if got, err := delta.Since(l, 0, most); len(got) != 0 || err != nil {
				t.Error(most, got, err)
			}
		}
		if got, err := delta.Since(l, 1, 1); len(got) != 0 || err != api.ErrGap {
			t.Error(got, err)
		}
	}
}

func TestSinceOfALongHistory(t *testing.T) {
	l := many(longest)
	for have := range longest + 1 {
		for _, most := range []int{1, 2, 99, longest - 1, longest, longest + 1, math.MaxInt} {
			var want []api.Entry
			for _, e := range l {
				if e.Slot >= have && len(want) < most {
					want = append(want, e)
				}
			}
			if got, err := delta.Since(l, have, most); !slices.Equal(got, want) || err != nil {
				t.Error(have, most, got, err)
			}
		}
	}
}

func TestSinceWrong(t *testing.T) {
	for _, n := range []int{0, 1, 5, longest} {
		for _, x := range []struct {
			have, most int
			want       error
		}{
			{-1, 1, api.ErrBound},
			{math.MinInt, math.MaxInt, api.ErrBound},
			{0, 0, api.ErrBound},
			{n, 0, api.ErrBound},
			{0, -1, api.ErrBound},
			{0, math.MinInt, api.ErrBound},
			{-1, 0, api.ErrBound},
			{n + 1, 0, api.ErrBound}, // told ahead of the gap
			{math.MaxInt, math.MinInt, api.ErrBound},
			{n + 1, 1, api.ErrGap},
			{n + 1, math.MaxInt, api.ErrGap},
			{n + 1<<32, 1, api.ErrGap},
			{math.MaxInt, 1, api.ErrGap},
			{math.MaxInt, math.MaxInt, api.ErrGap},
		} {
			if got, err := delta.Since(many(n), x.have, x.most); len(got) != 0 || err != x.want {
				t.Error(n, x, got, err)
			}
		}
	}
}

func TestSinceOfWrongHistories(t *testing.T) {
	for _, w := range wrongHistories() {
		n := len(w.l)
		// Whatever is asked for, also if what is wrong lies ahead of that, or behind it; and ahead of a wrong number.
		for _, x := range [][2]int{{0, 1}, {0, n}, {n, 1}, {n, math.MaxInt}, {n + 1, 1}, {-1, 1}, {0, 0}, {math.MinInt, math.MinInt}, {math.MaxInt, math.MaxInt}} {
			if got, err := delta.Since(w.l, x[0], x[1]); len(got) != 0 || !isTold(err, w.want, w.at) {
				t.Error(n, w.want, w.at, x, got, err)
			}
		}
	}
}

// P100: Join

func TestJoin(t *testing.T) {
	for _, n := range []int{0, 1, 2, 5, longest - 1, longest} {
		l := many(n)
		for cut := range n + 1 {
			if both, err := delta.Join(l[:cut], l[cut:]); !slices.Equal(both, l) || err != nil {
				t.Error(n, cut, both, err)
			}
		}
	}
}

func TestJoinOfNothing(t *testing.T) {
	for _, l := range [][]api.Entry{nil, {}} {
		for _, m := range [][]api.Entry{nil, {}} {
			if both, err := delta.Join(l, m); len(both) != 0 || err != nil {
				t.Error(both, err)
			}
		}
		if both, err := delta.Join(l, many(2)); !slices.Equal(both, many(2)) || err != nil {
			t.Error(both, err)
		}
		if both, err := delta.Join(many(2), l); !slices.Equal(both, many(2)) || err != nil {
			t.Error(both, err)
		}
	}
}

func TestJoinOfWrongHistories(t *testing.T) {
	for _, w := range wrongHistories() {
		// What is wrong in the first one is told ahead of what both are together.
		for _, m := range [][]api.Entry{nil, {{Slot: len(w.l), From: 1}}, {{Slot: -1, From: 17, Value: 1}}, many(longest + 1)} {
			if both, err := delta.Join(w.l, m); len(both) != 0 || !isTold(err, w.want, w.at) {
				t.Error(len(w.l), len(m), w.want, w.at, both, err)
			}
		}
		if both, err := delta.Join(nil, w.l); len(both) != 0 || !isTold(err, w.want, w.at) {
			t.Error(len(w.l), w.want, w.at, both, err)
		}
	}
}

func TestJoinTellsThePlaceInBoth(t *testing.T) {
	l := many(7)
	for cut := range l {
		for place := cut; place < len(l); place++ {
			for e, want := range wrongEntries(place) {
				if both, err := delta.Join(l[:cut], with(l, place, e)[cut:]); len(both) != 0 || !isTold(err, want, place) {
					t.Error(cut, place, e, both, err)
				}
			}
		}
	}
}

func TestJoinOfWhatDoesNotFit(t *testing.T) {
	l := many(5)
	for _, x := range []struct {
		l, m []api.Entry
		at   int
	}{
		{l, l, 5}, // Slots are counted on
		{l, l[:1], 5},
		{l[:3], l[4:], 3}, // one is missing between
		{l[:3], l[2:], 3}, // one is there twice
		{nil, l[1:], 0},
		{l[1:], l[:1], 0},
	} {
		if both, err := delta.Join(x.l, x.m); len(both) != 0 || !isTold(err, api.ErrGap, x.at) {
			t.Error(len(x.l), len(x.m), both, err)
		}
	}
}

func TestJoinOfTooMany(t *testing.T) {
	for _, n := range []int{longest + 1, longest + 2, 2 * longest} {
		l := many(n)
		for _, cut := range []int{0, 1, longest / 2, longest - 1, longest} {
			if both, err := delta.Join(l[:cut], l[cut:]); len(both) != 0 || err != api.ErrFull {
				t.Error(n, cut, len(both), err)
			}
		}
	}
	// Too many is told ahead of what is wrong at a place.
	if both, err := delta.Join(many(longest), many(1)); len(both) != 0 || err != api.ErrFull {
		t.Error(len(both), err)
	}
	if both, err := delta.Join(many(1), make([]api.Entry, longest)); len(both) != 0 || err != api.ErrFull {
		t.Error(len(both), err)
	}
}

// P100: Agree

func agree(t *testing.T, a, b []api.Entry, want int) {
	t.Helper()
	if n := delta.Agree(a, b); n != want {
		t.Error(len(a), len(b), n, want)
	}
	if n := delta.Agree(b, a); n != want {
		t.Error(len(b), len(a), n, want)
	}
}

func TestAgreeOfOneAndItsFront(t *testing.T) {
	l := many(longest)
	for _, n := range []int{0, 1, 2, 17, longest - 1, longest} {
		agree(t, l, many(n), n)
		agree(t, l[:n], many(n), n)
		agree(t, l[:n], nil, 0)
		agree(t, l[:n], []api.Entry{}, 0)
	}
	agree(t, nil, nil, 0)
	agree(t, nil, []api.Entry{}, 0)
}

func TestAgreeUpToTheFirstOtherOne(t *testing.T) {
	l := many(9)
	for place, e := range l {
		for i, other := range []api.Entry{
			{Slot: e.Slot + 1, From: e.From, Heard: e.Heard, Value: e.Value},
			{Slot: e.Slot, From: e.From + 1, Heard: e.Heard, Value: e.Value},
			{Slot: e.Slot, From: e.From, Heard: !e.Heard, Value: e.Value},
			{Slot: e.Slot, From: e.From, Heard: e.Heard, Value: e.Value + 1},
			{Slot: e.Slot, From: e.From, Heard: e.Heard, Value: e.Value + 1<<32},
			{},
		} {
			if other == e {
				t.Fatal(place, i)
			}
			agree(t, l, with(l, place, other), place) // what is the same behind it does not count
			agree(t, l, with(l, place, other)[:place+1], place)
			agree(t, l[:place+1], with(l, place, other), place)
			agree(t, l[:place], with(l, place, other), place)
		}
	}
	// Of two other ones the first counts.
	agree(t, l, with(with(l, 6, api.Entry{}), 3, api.Entry{}), 3)
	agree(t, l, l[1:], 0)
}

func TestAgreeTakesAnyLists(t *testing.T) {
	// Its sentence names no error: lists that are no histories agree as others do.
	for _, w := range wrongHistories() {
		agree(t, w.l, slices.Clone(w.l), len(w.l))
		agree(t, w.l, w.l[:len(w.l)/2], len(w.l)/2)
	}
	odd := []api.Entry{{Slot: math.MinInt, From: math.MaxInt, Value: 3}, {}}
	agree(t, odd, slices.Clone(odd), 2)
	agree(t, odd, with(odd, 1, api.Entry{Slot: -1}), 1)
}

// P3, P4

func TestListsAreOnlyRead(t *testing.T) {
	was := append(many(5), api.Entry{Slot: -1, From: 17, Value: 5}, api.Entry{})
	memory := slices.Clone(was)
	l := memory[:3]
	m := slices.Clone(was)[3:4]
	if got, err := delta.Since(l, 1, 9); !slices.Equal(got, was[1:3]) || err != nil {
		t.Error(got, err)
	}
	if got, err := delta.Since(l, 4, 1); len(got) != 0 || err != api.ErrGap {
		t.Error(got, err)
	}
	if both, err := delta.Join(l, m); !slices.Equal(both, was[:4]) || err != nil {
		t.Error(both, err)
	}
	// Also what is wrong is not written behind the first one.
	if both, err := delta.Join(l, was[5:]); len(both) != 0 || !isTold(err, api.ErrGap, 3) {
		t.Error(both, err)
	}
	if n := delta.Agree(l, was); n != 3 {
		t.Error(n)
	}
	if !slices.Equal(memory, was) || m[:2][1] != was[4] {
		t.Error(memory, m[:2])
	}
}

func TestAnswersAreNewMemory(t *testing.T) {
	l := many(5)
	answer := func(got []api.Entry, err error) []api.Entry {
		t.Helper()
		if err != nil {
			t.Fatal(err)
		}
		return got
	}
	for range 2 {
		for _, got := range [][]api.Entry{
			answer(delta.Since(l, 0, 5)),
			answer(delta.Since(l, 2, 2)),
			answer(delta.Since(l, 5, 1)),
			answer(delta.Join(l, nil)),
			answer(delta.Join(nil, l)),
			answer(delta.Join(l[:2], l[2:])),
		} {
			clear(got)
			clear(append(got, api.Entry{From: 9})[:cap(got)])
			if !slices.Equal(l, many(5)) {
				t.Fatal(l)
			}
		}
	}
}

func TestAnswersAreNotTheListsLater(t *testing.T) {
	l := many(5)
	since, e1 := delta.Since(l, 1, 3)
	both, e2 := delta.Join(l[:2], l[2:])
	clear(l)
	if !slices.Equal(since, many(5)[1:4]) || !slices.Equal(both, many(5)) || e1 != nil || e2 != nil {
		t.Error(since, both, e1, e2)
	}
}

// P101

// byPieces takes a history, so many entries at most at a time, behind what is there.
func byPieces(t *testing.T, l, have []api.Entry, most int) []api.Entry {
	t.Helper()
	for range len(l) + 1 {
		piece, err := delta.Since(l, len(have), most)
		if err != nil || len(piece) > most {
			t.Fatal(len(l), len(have), most, len(piece), err)
		}
		if len(piece) == 0 {
			break
		}
		both, err := delta.Join(have, piece)
		if err != nil || len(both) != len(have)+len(piece) || delta.Agree(both, l) != len(both) {
			t.Fatal(len(l), len(have), most, both, err)
		}
		have = both
	}
	return have
}

func TestPieceByPieceItBecomesAll(t *testing.T) {
	for _, n := range []int{0, 1, 2, 3, 10, longest - 1, longest} {
		l := many(n)
		for _, most := range []int{1, 2, 3, 7, n + 1, longest, math.MaxInt} {
			if got := byPieces(t, l, nil, most); !slices.Equal(got, l) {
				t.Error(n, most, got)
			}
		}
	}
}

func TestFromWhereTwoAgreeItBecomesAll(t *testing.T) {
	l := many(12)
	for place := range l {
		other := with(many(12), place, api.Entry{Slot: place, From: 16, Heard: true, Value: greatest})
		for n := range len(other) + 1 {
			front := delta.Agree(other[:n], l)
			if front != min(n, place) {
				t.Fatal(place, n, front)
			}
			for _, most := range []int{1, 5, 12} {
				if got := byPieces(t, l, other[:front], most); !slices.Equal(got, l) {
					t.Error(place, n, most, got)
				}
			}
		}
	}
}
