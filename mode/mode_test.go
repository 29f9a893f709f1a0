package mode_test

import (
	"math"
	"slices"
	"testing"

	"bargelock/api"
	"bargelock/mode"
)

const (
	modes   = 4
	most    = 16
	nothing = -1
)

// noModes are numbers beside those of the modes.
func noModes() []int {
	return []int{modes, -1, -2, modes + 1, 16, 1 << 32, 1<<32 + 1, -1 << 32, math.MaxInt, math.MinInt}
}

// allPairs of modes.
func allPairs() []mode.Pair {
	var l []mode.Pair
	for from := range modes {
		for to := range modes {
			l = append(l, mode.Pair{From: from, To: to})
		}
	}
	return l
}

// pairsOf a number: the bit of 2 to the power of n is that of the n-th of all pairs.
func pairsOf(number int) []mode.Pair {
	var l []mode.Pair
	for n, p := range allPairs() {
		if number>>n&1 == 1 {
			l = append(l, p)
		}
	}
	return l
}

func board(t *testing.T, l []mode.Pair) *mode.Board {
	t.Helper()
	b, err := mode.New(l)
	if b == nil || err != nil {
		t.Fatal(l, b, err)
	}
	return b
}

// isThere: does the board tell this mode, and that this one is asked for?
func isThere(t *testing.T, b *mode.Board, now, asked int) {
	t.Helper()
	if b.Now() != now || b.Asked() != asked {
		t.Error(b.Now(), b.Asked(), "not", now, asked)
	}
}

// ask for a mode; behind that the board tells what is wanted.
func ask(t *testing.T, b *mode.Board, to int, want error, now, asked int) {
	t.Helper()
	if err := b.Ask(to); err != want {
		t.Error(to, err, "not", want)
	}
	isThere(t, b, now, asked)
}

// turn to a mode; behind that nothing is asked for.
func turn(t *testing.T, b *mode.Board, want int) {
	t.Helper()
	if n := b.Turn(); n != want {
		t.Error(n, "not", want)
	}
	isThere(t, b, want, nothing)
}

// P110: New

func TestNewBoard(t *testing.T) {
	for _, l := range [][]mode.Pair{
		nil,
		{},
		{{From: 0, To: 0}},
		{{From: 3, To: 3}},
		{{From: 3, To: 0}, {From: 0, To: 3}},
		{{From: 1, To: 2}, {From: 1, To: 2}, {From: 1, To: 2}}, // one pair, told three times
		allPairs(),
		make([]mode.Pair, most),
	} {
		b := board(t, l)
		isThere(t, b, 0, nothing)
		turn(t, b, 0)
		isThere(t, b.Copy(), 0, nothing)
	}
}

func newWrong(t *testing.T, l []mode.Pair, want error, at int) {
	t.Helper()
	b, err := mode.New(l)
	if b != nil {
		t.Error(len(l), b)
	}
	if at < 0 {
		if err != want {
			t.Error(len(l), err, "not", want)
		}
		return
	}
	if f, ok := err.(*api.Fault); !ok || f.At != at || f.Err != want {
		t.Error(len(l), err, "not", want, "at", at)
	}
}

func TestNewOfTooMany(t *testing.T) {
	for _, n := range []int{most + 1, most + 2, 100, 5000} {
		newWrong(t, make([]mode.Pair, n), api.ErrFull, -1) // also if they are one pair, told often
		l := make([]mode.Pair, n)
		l[0].To = modes
		newWrong(t, l, api.ErrFull, -1) // told ahead of what is wrong at a place
	}
	newWrong(t, append(allPairs(), mode.Pair{}), api.ErrFull, -1)
}

func TestNewOfWrongPairs(t *testing.T) {
	for _, n := range noModes() {
		for _, p := range []mode.Pair{{From: n}, {To: n}, {From: n, To: 3}, {From: 3, To: n}, {From: n, To: n}} {
			newWrong(t, []mode.Pair{p}, api.ErrBound, 0)
			for place := range most {
				l := allPairs()
				l[place] = p
				newWrong(t, l, api.ErrBound, place)
				l[most-1] = mode.Pair{From: -1, To: modes}
				newWrong(t, l, api.ErrBound, place) // the first one is told
			}
		}
	}
}

// P110: Ask

func TestAsk(t *testing.T) {
	for _, p := range allPairs() {
		if p.From != 0 {
			continue
		}
		b := board(t, []mode.Pair{{From: 2, To: 1}, p})
		for to := range modes {
			if to != p.To {
				ask(t, b, to, api.ErrShape, 0, nothing) // 0 also: it is the mode, and still no pair
			}
		}
		ask(t, b, p.To, nil, 0, p.To) // what was not allowed left nothing behind
		turn(t, b, p.To)
	}
}

func TestAskOfNoMode(t *testing.T) {
	for _, l := range [][]mode.Pair{nil, allPairs()} {
		for _, to := range noModes() {
			ask(t, board(t, l), to, api.ErrBound, 0, nothing)
		}
	}
	b := board(t, allPairs())
	ask(t, b, 3, nil, 0, 3)
	for _, to := range noModes() {
		ask(t, b, to, api.ErrBound, 0, 3) // told ahead of what is asked for
	}
	turn(t, b, 3)
	for _, to := range noModes() {
		ask(t, b, to, api.ErrBound, 3, nothing)
	}
}

func TestAskTwice(t *testing.T) {
	b := board(t, []mode.Pair{{From: 0, To: 1}, {From: 0, To: 0}, {From: 1, To: 2}})
	ask(t, b, 1, nil, 0, 1)
	for to := range modes {
		// Told ahead of a pair that is not allowed; the first one stays asked for.
		ask(t, b, to, api.ErrExist, 0, 1)
	}
	turn(t, b, 1)
	ask(t, b, 2, nil, 1, 2)
	ask(t, b, 2, api.ErrExist, 1, 2)
	turn(t, b, 2)
}

func TestAskForTheModeThatIs(t *testing.T) {
	b := board(t, []mode.Pair{{From: 0, To: 0}})
	for range 3 {
		ask(t, b, 0, nil, 0, 0) // mode 0 is asked for, which is not nothing
		ask(t, b, 0, api.ErrExist, 0, 0)
		turn(t, b, 0)
	}
	ask(t, b, 1, api.ErrShape, 0, nothing)
}

func TestPairsGoOneWay(t *testing.T) {
	b := board(t, []mode.Pair{{From: 0, To: 1}, {From: 2, To: 0}})
	ask(t, b, 2, api.ErrShape, 0, nothing)
	ask(t, b, 1, nil, 0, 1)
	turn(t, b, 1)
	ask(t, b, 0, api.ErrShape, 1, nothing)
	ask(t, b, 2, api.ErrShape, 1, nothing)
}

func TestAskLooksFromTheModeThatIs(t *testing.T) {
	b := board(t, []mode.Pair{{From: 0, To: 1}, {From: 1, To: 2}})
	ask(t, b, 2, api.ErrShape, 0, nothing) // not by two pairs at once
	ask(t, b, 1, nil, 0, 1)
	ask(t, b, 2, api.ErrExist, 0, 1) // what is asked for is not yet the mode
	turn(t, b, 1)
	ask(t, b, 1, api.ErrShape, 1, nothing)
	ask(t, b, 2, nil, 1, 2)
	turn(t, b, 2)
}

// P110: Turn

func TestTurnOfNothing(t *testing.T) {
	b := board(t, []mode.Pair{{From: 0, To: 3}})
	for range 3 {
		turn(t, b, 0)
	}
	ask(t, b, 3, nil, 0, 3)
	for range 3 {
		turn(t, b, 3) // asked for once, and the mode stays
	}
}

// P110, P4: Copy

func TestCopyIsTheSame(t *testing.T) {
	b := board(t, []mode.Pair{{From: 0, To: 2}, {From: 2, To: 1}, {From: 1, To: 1}})
	isThere(t, b.Copy(), 0, nothing)
	ask(t, b.Copy(), 2, nil, 0, 2) // it has the pairs, too
	ask(t, b.Copy(), 1, api.ErrShape, 0, nothing)
	ask(t, b, 2, nil, 0, 2)
	ask(t, b.Copy(), 2, api.ErrExist, 0, 2)
	turn(t, b.Copy(), 2)
	turn(t, b, 2)
	isThere(t, b.Copy(), 2, nothing)
	ask(t, b.Copy().Copy(), 1, nil, 2, 1)
}

func TestCopyGoesItsOwnWay(t *testing.T) {
	b := board(t, allPairs())
	ask(t, b, 2, nil, 0, 2)
	c := b.Copy()
	turn(t, b, 2)
	isThere(t, c, 0, 2)
	turn(t, c, 2)
	ask(t, c, 3, nil, 2, 3)
	isThere(t, b, 2, nothing)
	turn(t, c, 3)
	isThere(t, b, 2, nothing)
	ask(t, b, 1, nil, 2, 1)
	isThere(t, c, 3, nothing)
	if b.Copy() == b || b.Copy() == b.Copy() {
		t.Error("a copy is no other board")
	}
}

func TestBoardsAreApart(t *testing.T) {
	l := allPairs()
	a, b := board(t, l), board(t, l)
	ask(t, a, 1, nil, 0, 1)
	isThere(t, b, 0, nothing)
	turn(t, a, 1)
	ask(t, b, 3, nil, 0, 3)
	isThere(t, a, 1, nothing)
}

// P3, P4

func TestListIsOnlyReadAndNotKept(t *testing.T) {
	was := []mode.Pair{{From: 0, To: 1}, {From: 1, To: 2}, {From: 0, To: 3}, {From: -1, To: 9}}
	memory := slices.Clone(was)
	l := memory[:2]
	b := board(t, l)
	ask(t, b, 3, api.ErrShape, 0, nothing) // it lies behind the list's length
	ask(t, b, 1, nil, 0, 1)
	turn(t, b, 1)
	if !slices.Equal(memory, was) {
		t.Error(memory)
	}
	l[1] = mode.Pair{From: 1, To: 3}
	ask(t, b, 3, api.ErrShape, 1, nothing)
	ask(t, b.Copy(), 3, api.ErrShape, 1, nothing)
	ask(t, b, 2, nil, 1, 2)
}

// P111

// checkWays of a board that was just made: from each mode to which allowed pairs lead just these can be asked for.
func checkWays(t *testing.T, b *mode.Board, l []mode.Pair) {
	t.Helper()
	seen := [modes]bool{true}
	for at := []*mode.Board{b}; len(at) > 0; at = at[1:] {
		from := at[0].Now()
		for to := range modes {
			c := at[0].Copy()
			allowed := slices.Contains(l, mode.Pair{From: from, To: to})
			if err := c.Ask(to); allowed != (err == nil) || !allowed && err != api.ErrShape {
				t.Fatal(l, from, to, err)
			}
			want := from
			if allowed {
				want = to
			}
			if n := c.Turn(); n != want || c.Now() != want || c.Asked() != nothing {
				t.Fatal(l, from, to, n, c.Now(), c.Asked())
			}
			if !seen[want] {
				seen[want] = true
				at = append(at, c)
			}
		}
	}
}

func TestModeOnlyGoesByAllowedPairs(t *testing.T) {
	for number := 0; number < 1<<most; number += 29 {
		l := pairsOf(number)
		checkWays(t, board(t, l), l)
	}
	for _, l := range [][]mode.Pair{nil, allPairs(), pairsOf(1), pairsOf(1 << 15), make([]mode.Pair, most)} {
		checkWays(t, board(t, l), l)
		slices.Reverse(l)
		checkWays(t, board(t, l), l)
	}
}

// TestModeThroughManyCalls holds the mode ahead of each call against the one behind it: only a Turn makes another one, that was asked for from there.
func TestModeThroughManyCalls(t *testing.T) {
	for _, number := range []int{0, 0x8421, 0x1248, 0x2c91, 0x7bde, 1<<most - 1} {
		l := pairsOf(number)
		b := board(t, l)
		now, asked := 0, nothing
		for i, seed := 0, number+1; i < 3000; i++ {
			seed = (seed*257 + i) % 65521
			if to := seed%9 - 1; to <= modes { // also -1 and 4, which are no modes
				var want error
				switch {
				case to < 0 || to == modes:
					want = api.ErrBound
				case asked != nothing:
					want = api.ErrExist
				case !slices.Contains(l, mode.Pair{From: now, To: to}):
					want = api.ErrShape
				default:
					asked = to
				}
				ask(t, b, to, want, now, asked)
				continue
			}
			if asked != nothing {
				now, asked = asked, nothing
			}
			turn(t, b, now)
		}
	}
}
