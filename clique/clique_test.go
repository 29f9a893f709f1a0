package clique_test

import (
	"math"
	"slices"
	"strings"
	"testing"

	"bargelock/api"
	"bargelock/clique"
	"bargelock/member"
)

const (
	most     = 200
	longest  = 32
	greatest = 1048576
)

var wrongRounds = []int{0, -1, 33, 200, 1 << 32, 1 + 1<<32, math.MinInt, math.MaxInt}

// history of a text: h was heard, a dot was not.
func history(s string) []api.Entry {
	var l []api.Entry
	for i, sign := range s {
		e := api.Entry{Slot: i, From: 1 + i*5%16, Heard: sign == 'h'}
		if e.Heard {
			e.Value = i%7 - 3
		}
		l = append(l, e)
	}
	return l
}

// with another entry at a place.
func with(l []api.Entry, place int, e api.Entry) []api.Entry {
	l = slices.Clone(l)
	l[place] = e
	return l
}

type wrongHistory struct {
	l    []api.Entry
	want error
	at   int // below 0: no place is told
}

// isTold: is err the error that is wanted, as the document asks: bare, or a fault with its place?
func (w wrongHistory) isTold(err error) bool {
	if w.at < 0 {
		return err == w.want
	}
	f, ok := err.(*api.Fault)
	return ok && f.At == w.at && f.Err == w.want
}

// wrongEntries for a place, each with its error: all that is named behind that in Check's sentence is wrong in some of them as well.
func wrongEntries(place int) map[api.Entry]error {
	return map[api.Entry]error{
		{Slot: place + 1, From: 1}:                                api.ErrGap,
		{Slot: place - 1, From: 1}:                                api.ErrGap,
		{Slot: -place - 1, From: 16, Heard: true}:                 api.ErrGap,
		{Slot: place + 1<<32, From: 16, Heard: true}:              api.ErrGap,
		{Slot: math.MinInt, From: 1}:                              api.ErrGap,
		{Slot: math.MaxInt, From: 17, Value: greatest + 1}:        api.ErrGap,
		{Slot: place + 1, From: 0, Heard: true}:                   api.ErrGap,
		{Slot: place + 1, From: 1, Value: 1}:                      api.ErrGap,
		{Slot: place}:                                             api.ErrNode,
		{Slot: place, Heard: true}:                                api.ErrNode,
		{Slot: place, From: 17, Heard: true}:                      api.ErrNode,
		{Slot: place, From: -1}:                                   api.ErrNode,
		{Slot: place, From: 1 + 1<<32}:                            api.ErrNode,
		{Slot: place, From: math.MinInt, Value: math.MinInt}:      api.ErrNode,
		{Slot: place, From: math.MaxInt, Value: 1}:                api.ErrNode,
		{Slot: place, From: 1, Heard: true, Value: greatest + 1}:  api.ErrBound,
		{Slot: place, From: 1, Heard: true, Value: -greatest - 1}: api.ErrBound,
		{Slot: place, From: 16, Heard: true, Value: math.MinInt}:  api.ErrBound,
		{Slot: place, From: 16, Heard: true, Value: math.MaxInt}:  api.ErrBound,
		{Slot: place, From: 1, Value: greatest + 1}:               api.ErrBound,
		{Slot: place, From: 1, Value: -greatest - 1}:              api.ErrBound,
		{Slot: place, From: 1, Value: 1}:                          api.ErrShape,
		{Slot: place, From: 1, Value: -1}:                         api.ErrShape,
		{Slot: place, From: 16, Value: greatest}:                  api.ErrShape,
		{Slot: place, From: 16, Value: -greatest}:                 api.ErrShape,
	}
}

func wrongHistories() []wrongHistory {
	far := history(strings.Repeat("h", most+1))
	worse := with(far, 0, api.Entry{Slot: 9, From: 17, Value: math.MaxInt})
	all := []wrongHistory{
		{far, api.ErrFull, -1},
		{worse, api.ErrFull, -1}, // told ahead of what is wrong at a place
		{make([]api.Entry, most+1), api.ErrFull, -1},
		{make([]api.Entry, 5000), api.ErrFull, -1},
		{make([]api.Entry, most), api.ErrNode, 0},
		{history("hhh")[1:], api.ErrGap, 0}, // Slots are counted from 0 on
		{append(history("h.h"), history("h.")...), api.ErrGap, 3},
		{slices.Delete(history("hhhhh"), 2, 3), api.ErrGap, 2},
	}
	for _, many := range []int{1, 2, 40, most} {
		for _, place := range []int{0, many / 2, many - 1} {
			for e, want := range wrongEntries(place) {
				l := with(history(strings.Repeat("h..", most)[:many]), place, e)
				all = append(all, wrongHistory{l, want, place})
			}
		}
	}
	return all
}

// P80

func TestCheck(t *testing.T) {
	for _, s := range []string{"", "h", ".", "h.h", strings.Repeat("h", most), strings.Repeat(".", most), strings.Repeat("h.", most/2)} {
		if err := clique.Check(history(s)); err != nil {
			t.Errorf("%.20q: %v", s, err)
		}
	}
	if err := clique.Check([]api.Entry{}); err != nil {
		t.Error(err)
	}
	for _, e := range []api.Entry{
		{From: 1},
		{From: 16},
		{From: 1, Heard: true}, // a Value of 0 is heard as well
		{From: 16, Heard: true, Value: greatest},
		{From: 1, Heard: true, Value: -greatest},
	} {
		if err := clique.Check([]api.Entry{e}); err != nil {
			t.Error(e, err)
		}
	}
}

func TestCheckWrong(t *testing.T) {
	for _, w := range wrongHistories() {
		if err := clique.Check(w.l); !w.isTold(err) {
			t.Error(len(w.l), w.want, w.at, err)
		}
	}
}

func TestTheFirstWrongEntryIsTold(t *testing.T) {
	// Whatever is wrong behind it, also what is named ahead of it.
	for first, want := range wrongEntries(2) {
		for second := range wrongEntries(3) {
			l := with(with(history("h..h."), 2, first), 3, second)
			w := wrongHistory{l, want, 2}
			if err := clique.Check(l); !w.isTold(err) {
				t.Error(first, second, err)
			}
		}
	}
}

func TestTally(t *testing.T) {
	for _, x := range []struct {
		s                string
		round, good, bad int
	}{
		{"", 1, 0, 0}, // none: all are none
		{"", longest, 0, 0},
		{"h", 1, 1, 0},
		{".", 1, 0, 1},
		{"h", longest, 1, 0},
		{".h", 1, 1, 0}, // the last ones count, not the first
		{"h.", 1, 0, 1},
		{"h.h", 3, 2, 1},
		{"h.h", 4, 2, 1}, // fewer than a round: all
		{"h.h", 2, 1, 1},
		{"hhh...", 3, 0, 3},
		{"hhh...", 4, 1, 3},
		{"hhh...", 5, 2, 3},
		{"hhh...", 6, 3, 3},
		{"...hhh", 5, 3, 2},
		{strings.Repeat("h", most), longest, longest, 0},
		{strings.Repeat(".", most), longest, 0, longest},
		{strings.Repeat("h", most-longest) + strings.Repeat(".", longest), longest, 0, longest},
		{strings.Repeat("h", most-longest+1) + strings.Repeat(".", longest-1), longest, 1, longest - 1},
		{strings.Repeat(".h", most/2), 31, 16, 15},
		{strings.Repeat("h.", most/2), 31, 15, 16},
	} {
		l := history(x.s)
		good, bad, err := clique.Tally(l, x.round)
		if good != x.good || bad != x.bad || err != nil {
			t.Errorf("%.20q %d: %d %d %v", x.s, x.round, good, bad, err)
		}
		// As many heard as not: it does not stay.
		if stays, err := clique.Stays(l, x.round); stays != (x.good > x.bad) || err != nil {
			t.Errorf("%.20q %d: %t %v", x.s, x.round, stays, err)
		}
	}
}

func TestStays(t *testing.T) {
	for _, x := range []struct {
		s     string
		round int
		want  bool
	}{
		{"", 3, false}, // nothing heard is not more than nothing not heard
		{"h", 3, true},
		{".", 3, false},
		{"h.", 2, false},
		{"hh..", 4, false},
		{"hh.", 4, true},
		{"..h", 3, false},
		{"....hh.", 3, true},
		{"hhhh..h", 3, false},
		{strings.Repeat("h.", 16), longest, false},
		{strings.Repeat("h.", 15) + "hh", longest, true},
	} {
		if stays, err := clique.Stays(history(x.s), x.round); stays != x.want || err != nil {
			t.Error(x, stays, err)
		}
	}
}

func TestWhatWasSaidDoesNotCount(t *testing.T) {
	l := []api.Entry{
		{Slot: 0, From: 4, Heard: true, Value: greatest},
		{Slot: 1, From: 4, Heard: true},
		{Slot: 2, From: 4, Heard: true, Value: -greatest},
		{Slot: 3, From: 4},
		{Slot: 4, From: 9},
	}
	good, bad, err := clique.Tally(l, 5)
	if good != 3 || bad != 2 || err != nil {
		t.Error(good, bad, err)
	}
}

func TestTallyOfWrongHistories(t *testing.T) {
	for _, w := range wrongHistories() {
		// Check's is told of all entries, also of those ahead of the round, and ahead of a wrong round.
		for _, round := range append([]int{1, 3, longest}, wrongRounds...) {
			if good, bad, err := clique.Tally(w.l, round); good != 0 || bad != 0 || !w.isTold(err) {
				t.Error(len(w.l), w.want, w.at, round, good, bad, err)
			}
			if stays, err := clique.Stays(w.l, round); stays || !w.isTold(err) {
				t.Error(len(w.l), w.want, w.at, round, stays, err)
			}
		}
	}
}

func TestWrongRounds(t *testing.T) {
	for _, s := range []string{"", "h", "h.h", strings.Repeat("h", most)} {
		for _, round := range wrongRounds {
			if good, bad, err := clique.Tally(history(s), round); good != 0 || bad != 0 || err != api.ErrBound {
				t.Error(len(s), round, good, bad, err)
			}
			if stays, err := clique.Stays(history(s), round); stays || err != api.ErrBound {
				t.Error(len(s), round, stays, err)
			}
		}
	}
}

func TestTallyIsOfTheLastRound(t *testing.T) {
	for many := range most + 1 {
		s := strings.Repeat("hh.h...h.", most)[:many]
		for round := 1; round <= longest; round++ {
			last := s[max(0, many-round):]
			good, bad, err := clique.Tally(history(s), round)
			if good != strings.Count(last, "h") || bad != strings.Count(last, ".") || err != nil {
				t.Fatal(many, round, good, bad, err)
			}
		}
	}
}

func TestHistoriesAreOnlyRead(t *testing.T) {
	was := append(history("h.h"), api.Entry{Slot: -1, From: 17, Value: 5}, api.Entry{})
	memory := slices.Clone(was)
	l := memory[:3]
	good, bad, err := clique.Tally(l, 3)
	stays, also := clique.Stays(l, 3)
	if good != 2 || bad != 1 || !stays || err != nil || also != nil || clique.Check(l) != nil {
		t.Error(good, bad, stays, err, also)
	}
	if !slices.Equal(memory, was) {
		t.Error(memory)
	}
}

// P81

// signs of the bits of a number: those that are set were heard.
func signs(many, bits int) string {
	s := make([]byte, many)
	for i := range s {
		s[i] = '.'
		if bits>>i&1 == 1 {
			s[i] = 'h'
		}
	}
	return string(s)
}

func stays(t *testing.T, l []api.Entry, round int) bool {
	t.Helper()
	ok, err := clique.Stays(l, round)
	if err != nil {
		t.Fatal(l, round, err)
	}
	return ok
}

func TestOfTwoWhoHeardNothingAlikeOneStays(t *testing.T) {
	for many := range 7 {
		both, none := 0, 0
		for a := range 1 << many {
			for b := range 1 << many {
				if a&b != 0 {
					continue
				}
				for round := max(1, many); round <= many+2; round++ {
					one := stays(t, history(signs(many, a)), round)
					two := stays(t, history(signs(many, b)), round)
					if one && two {
						both++
					}
					if !one && !two {
						none++
					}
				}
			}
		}
		if both != 0 || none == 0 {
			t.Error(many, both, none)
		}
	}
}

func TestWhatWasAheadOfTheRoundKeepsNobody(t *testing.T) {
	// Both heard all the same ahead of the last round, and nothing alike in it.
	for _, ahead := range []int{0, 1, 5, 168} {
		early := strings.Repeat("h", ahead)
		for round := 1; round <= longest; round++ {
			for cut := range round + 1 {
				a := early + strings.Repeat("h", cut) + strings.Repeat(".", round-cut)
				b := early + strings.Repeat(".", cut) + strings.Repeat("h", round-cut)
				one, two := stays(t, history(a), round), stays(t, history(b), round)
				if one && two || one != (2*cut > round) || two != (2*cut < round) {
					t.Fatal(ahead, round, cut, one, two)
				}
			}
		}
	}
}

func TestTwoWhoHeardSomethingAlikeMayBothStay(t *testing.T) {
	if !stays(t, history("hh."), 3) || !stays(t, history(".hh"), 3) {
		t.Error("one of two goes, though each heard more than it did not")
	}
}

func TestOfABusInTwoOneSideStays(t *testing.T) {
	l := []int{1, 2, 3, 4, 5, 2}
	for side := range 32 {
		one := sideOf(t, l, side)
		two := sideOf(t, l, ^side&31)
		for i, e := range one {
			if e.Heard && two[i].Heard {
				t.Fatal(side, i, e, two[i])
			}
		}
		if stays(t, one, len(l)) && stays(t, two, len(l)) {
			t.Error(side, one, two)
		}
	}
}

// sideOf a bus of five nodes: the history of those who hear, for two rounds, one another and nobody else.
func sideOf(t *testing.T, l []int, side int) []api.Entry {
	t.Helper()
	v := api.View{Members: 31}
	var entries []api.Entry
	for slot := range 2 * len(l) {
		heard, who := "", l[slot%len(l)]
		if side>>(who-1)&1 == 1 {
			s, err := member.Send(l, v, who, slot)
			if err != nil {
				t.Fatal(side, slot, err)
			}
			heard = s
		}
		next, e, err := member.Step(l, v, heard)
		if err != nil || e.Heard != (heard != "") {
			t.Fatal(side, slot, e, err)
		}
		v, entries = next, append(entries, e)
	}
	return entries
}
