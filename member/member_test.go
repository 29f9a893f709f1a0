package member_test

import (
	"math"
	"slices"
	"strconv"
	"strings"
	"testing"

	"bargelock/api"
	"bargelock/frame"
	"bargelock/member"
)

const (
	most      = 1000000
	greatest  = 1048576
	everybody = 65535
)

var plans = [][]int{
	{1},
	{16},
	{2, 1},
	{2, 1, 2, 5},
	{3, 3, 3},
	{4, 4, 9, 4, 4},
	{1, 2, 3, 4, 5, 6, 7, 8, 9, 10, 11, 12, 13, 14, 15, 16},
	slices.Repeat([]int{7, 16, 1, 7}, 8),
}

// wrongViews are what Check does not take.
var wrongViews = []api.View{
	{Members: -1},
	{Members: everybody + 1},
	{Members: everybody + 2},
	{Members: math.MinInt},
	{Members: math.MaxInt},
	{Mode: -1},
	{Mode: 4},
	{Mode: math.MinInt},
	{Mode: math.MaxInt},
	{Slot: -1},
	{Slot: most + 1},
	{Slot: math.MinInt},
	{Slot: math.MaxInt},
	{Members: -1, Mode: -1, Slot: -1},
	{Members: everybody, Mode: 3, Slot: most + 1},
	{Members: everybody, Mode: 4, Slot: most}, // Check's is told ahead of ErrFull
	{Members: everybody + 1, Mode: 3, Slot: most},
}

type wrongPlan struct {
	l    []int
	want error
	at   int // below 0: no place is told
}

func wrongPlans() []wrongPlan {
	return []wrongPlan{
		{nil, api.ErrNone, -1},
		{[]int{}, api.ErrNone, -1},
		{make([]int, 33), api.ErrFull, -1},
		{slices.Repeat([]int{2}, 33), api.ErrFull, -1},
		{[]int{0}, api.ErrNode, 0},
		{[]int{2, 1, 17, 0}, api.ErrNode, 2},
		{[]int{2, math.MinInt}, api.ErrNode, 1},
		{append(slices.Repeat([]int{2}, 31), math.MaxInt), api.ErrNode, 31},
	}
}

// isTold: is err the plan's error, as the document asks: bare, or a fault with its place?
func (w wrongPlan) isTold(err error) bool {
	if w.at < 0 {
		return err == w.want
	}
	f, ok := err.(*api.Fault)
	return ok && f.At == w.at && f.Err == w.want
}

func made(t *testing.T, from, members, mode, slot, value int) string {
	t.Helper()
	s, err := frame.Make(api.Frame{From: from, View: api.View{Members: members, Mode: mode, Slot: slot}, Value: value})
	if err != nil {
		t.Fatal(from, members, mode, slot, value, err)
	}
	return s
}

// summed: a text with its sum behind it, also where it is none that Make would make.
func summed(s string) string { return s + " " + strconv.Itoa(frame.Sum(s)) }

func nothing(v api.View, e api.Entry) bool { return v == api.View{} && e == api.Entry{} }

// P70

func TestCheck(t *testing.T) {
	for _, members := range []int{0, 1, 2, 5, 32768, everybody} {
		for mode := range 4 {
			for _, slot := range []int{0, 1, most - 1, most} {
				v := api.View{Members: members, Mode: mode, Slot: slot}
				if err := member.Check(v); err != nil {
					t.Error(v, err)
				}
			}
		}
	}
	for _, v := range wrongViews {
		if err := member.Check(v); err != api.ErrBound {
			t.Error(v, err)
		}
	}
}

func TestStepOfAGoodFrame(t *testing.T) {
	for _, x := range []struct {
		l       []int
		v       api.View
		heard   string // its sum was worked out apart from the program, where it is written out
		members int
		entry   api.Entry
	}{
		{[]int{2, 1}, api.View{Members: 3, Mode: 1, Slot: 5}, "frame 1 1,2 1 5 -7 31564", 3, api.Entry{Slot: 5, From: 1, Heard: true, Value: -7}},
		{[]int{2, 1}, api.View{Members: 2, Mode: 1, Slot: 5}, "frame 1 1,2 1 5 -7 31564", 3, api.Entry{Slot: 5, From: 1, Heard: true, Value: -7}}, // it comes again
		{[]int{1}, api.View{}, "frame 1 1 0 0 0 14385", 1, api.Entry{From: 1, Heard: true}},                                                       // as the only one
		{[]int{1}, api.View{Members: 1}, "frame 1 1 0 0 0 14385", 1, api.Entry{From: 1, Heard: true}},                                             // a Value of 0 is heard as well
		{[]int{2, 1, 2, 5}, api.View{Members: 3, Mode: 2, Slot: 3}, made(t, 5, 19, 2, 3, 4), 19, api.Entry{Slot: 3, From: 5, Heard: true, Value: 4}},
		{[]int{2, 1, 2, 5}, api.View{Members: 19, Mode: 2, Slot: 6}, made(t, 2, 19, 2, 6, 4), 19, api.Entry{Slot: 6, From: 2, Heard: true, Value: 4}},
		{[]int{2, 1}, api.View{Members: 60, Slot: 1}, made(t, 1, 61, 0, 1, 8), 61, api.Entry{Slot: 1, From: 1, Heard: true, Value: 8}}, // members who are none of the plan stay
		{[]int{16}, api.View{Members: everybody, Mode: 3, Slot: most - 1}, made(t, 16, everybody, 3, most-1, greatest), everybody, api.Entry{Slot: most - 1, From: 16, Heard: true, Value: greatest}},
		{[]int{16}, api.View{Members: 32767, Mode: 3, Slot: most - 1}, made(t, 16, everybody, 3, most-1, -greatest), everybody, api.Entry{Slot: most - 1, From: 16, Heard: true, Value: -greatest}},
	} {
		v, e, err := member.Step(x.l, x.v, x.heard)
		if v != (api.View{Members: x.members, Mode: x.v.Mode, Slot: x.v.Slot + 1}) || e != x.entry || err != nil {
			t.Error(x, v, e, err)
		}
	}
}

// notGood are what is heard of node 2 in its slot 3, where the members are 1 to 3, or 1 and 3, and the mode is 1.
func notGood(t *testing.T) []string {
	good := made(t, 2, 7, 1, 3, 9)
	return []string{
		"", " ", "-", "x", "frame", "\x00", "\xff", strings.Repeat("x", 100), strings.Repeat("x", 101), strings.Repeat(good+" ", 1000),
		good + " ", " " + good, good + "\n", good[:len(good)-1], good + "0", strings.ToUpper(good), good + good,
		strings.Replace(good, " 9 ", " 8 ", 1), // another byte, and the sum is not right any more
		summed("frame 2 1,2,3 1 3 1048577"),    // these are no frames, though their sums are right
		summed("frame 2 1,2,3 1 3 -0"),
		summed("frame 02 1,2,3 1 3 9"),
		summed("frame 2 1,2,3 1 03 9"),
		summed("frame 2 2,1,3 1 3 9"),
		summed("frame 2 1,3 1 3 9"), // the view of who let node 2 go, but node 2 is not in its own
		summed("frame 2 - 1 3 9"),
		made(t, 1, 7, 1, 3, 9), // of another node
		made(t, 3, 7, 1, 3, 9),
		made(t, 1, 5, 1, 3, 9),
		made(t, 3, 5, 1, 3, 9),
		made(t, 16, 32775, 1, 3, 9),
		made(t, 2, 2, 1, 3, 9), // of another view
		made(t, 2, 3, 1, 3, 9),
		made(t, 2, 6, 1, 3, 9),
		made(t, 2, 15, 1, 3, 9),
		made(t, 2, everybody, 1, 3, 9),
		made(t, 2, 7, 0, 3, 9),
		made(t, 2, 7, 2, 3, 9),
		made(t, 2, 7, 3, 3, 9),
		made(t, 2, 7, 1, 0, 9), // slots of the same node, in other rounds
		made(t, 2, 7, 1, 6, 9),
		made(t, 2, 7, 1, 2, 9),
		made(t, 2, 7, 1, 4, 9),
		made(t, 2, 7, 1, most, 9),
	}
}

func TestStepOfWhatIsNotGood(t *testing.T) {
	l := []int{2, 1, 3}
	for _, members := range []int{7, 5} {
		v := api.View{Members: members, Mode: 1, Slot: 3}
		for _, heard := range notGood(t) {
			got, e, err := member.Step(l, v, heard)
			if got != (api.View{Members: 5, Mode: 1, Slot: 4}) || e != (api.Entry{Slot: 3, From: 2}) || err != nil {
				t.Errorf("%d %.60q: %v %v %v", members, heard, got, e, err)
			}
		}
	}
}

func TestStepOfNothing(t *testing.T) {
	for _, x := range []struct {
		l             []int
		v             api.View
		members, from int
	}{
		{[]int{1}, api.View{}, 0, 1},
		{[]int{1}, api.View{Members: 1}, 0, 1}, // also the last one goes
		{[]int{1}, api.View{Members: 2, Mode: 2}, 2, 1},
		{[]int{2, 1}, api.View{Members: everybody, Slot: 1}, everybody - 1, 1},
		{[]int{2, 1}, api.View{Members: everybody, Slot: 2}, everybody - 2, 2},
		{[]int{16}, api.View{Members: everybody, Mode: 3, Slot: most - 1}, 32767, 16},
		{[]int{16}, api.View{Members: 32767, Mode: 3, Slot: most - 1}, 32767, 16},
	} {
		v, e, err := member.Step(x.l, x.v, "")
		if v != (api.View{Members: x.members, Mode: x.v.Mode, Slot: x.v.Slot + 1}) || e != (api.Entry{Slot: x.v.Slot, From: x.from}) || err != nil {
			t.Error(x, v, e, err)
		}
	}
}

func TestAnotherViewIsNotKept(t *testing.T) {
	l := []int{1, 2, 3}
	all := api.View{Members: 7}
	sent, err := member.Send(l, all, 1, 4)
	if err != nil {
		t.Fatal(err)
	}
	heardIt, _, _ := member.Step(l, all, sent)
	lostIt, _, _ := member.Step(l, all, "")
	if heardIt.Members != 7 || lostIt.Members != 6 {
		t.Fatal(heardIt, lostIt)
	}
	second, err := member.Send(l, heardIt, 2, 5)
	if err != nil {
		t.Fatal(err)
	}
	// Node 2 has node 1 for a member still: who let that go lets node 2 go as well.
	v, e, err := member.Step(l, lostIt, second)
	if v != (api.View{Members: 4, Slot: 2}) || e != (api.Entry{Slot: 1, From: 2}) || err != nil {
		t.Error(v, e, err)
	}
}

func TestStepAtTheEndOfTime(t *testing.T) {
	for _, l := range plans {
		who := l[most%len(l)]
		own := 1 << (who - 1)
		for _, heard := range []string{"", "x", made(t, who, own, 0, most, 0)} {
			for _, members := range []int{0, own, everybody} {
				v, e, err := member.Step(l, api.View{Members: members, Slot: most}, heard)
				if !nothing(v, e) || err != api.ErrFull {
					t.Error(l, members, heard, v, e, err)
				}
			}
		}
	}
}

func TestSend(t *testing.T) {
	for _, x := range []struct {
		l           []int
		v           api.View
		node, value int
		want        string // its sum was worked out apart from the program, where it is written out
	}{
		{[]int{1}, api.View{}, 1, 0, "frame 1 1 0 0 0 14385"}, // it is in its Members then
		{[]int{1}, api.View{Members: 1}, 1, 0, "frame 1 1 0 0 0 14385"},
		{[]int{2, 1}, api.View{Members: 2, Mode: 1, Slot: 5}, 1, -7, "frame 1 1,2 1 5 -7 31564"},
		{[]int{2, 1}, api.View{Members: 3, Mode: 1, Slot: 5}, 1, -7, "frame 1 1,2 1 5 -7 31564"},
		{[]int{3, 1, 3}, api.View{Members: 1, Mode: 2, Slot: 41}, 3, 12, summed("frame 3 1,3 2 41 12")},
		{[]int{2}, api.View{}, 2, -greatest, "frame 2 2 0 0 -1048576 16308"},
		{[]int{16}, api.View{Mode: 3, Slot: most}, 16, greatest, "frame 16 16 3 1000000 1048576 21385"}, // the last slot is none too many
		{[]int{16}, api.View{Members: everybody, Mode: 3, Slot: most}, 16, -greatest, "frame 16 1,2,3,4,5,6,7,8,9,10,11,12,13,14,15,16 3 1000000 -1048576 19320"},
	} {
		if s, err := member.Send(x.l, x.v, x.node, x.value); s != x.want || err != nil {
			t.Error(x, s, err)
		}
	}
}

func TestSendInAnothersSlot(t *testing.T) {
	l := []int{2, 1, 2, 5}
	for slot := range 9 {
		for node := -1; node <= 18; node++ {
			// Also with a value that is not right: ErrLate is told ahead of it.
			for _, value := range []int{0, greatest + 1} {
				s, err := member.Send(l, api.View{Members: 19, Slot: slot}, node, value)
				if node != l[slot%4] && (s != "" || err != api.ErrLate) {
					t.Error(slot, node, value, s, err)
				}
				if node == l[slot%4] && (s == "") != (err != nil) {
					t.Error(slot, node, value, s, err)
				}
			}
		}
	}
	for _, node := range []int{math.MinInt, math.MaxInt, most, 1 << 32, 2 + 1<<32} {
		if s, err := member.Send(l, api.View{Members: 19}, node, 0); s != "" || err != api.ErrLate {
			t.Error(node, s, err)
		}
	}
}

func TestSendOfWrongValues(t *testing.T) {
	for _, value := range []int{greatest + 1, -greatest - 1, math.MinInt, math.MaxInt} {
		for _, members := range []int{0, 2, everybody} {
			if s, err := member.Send([]int{2, 1}, api.View{Members: members}, 2, value); s != "" || err != api.ErrBound {
				t.Error(value, members, s, err)
			}
		}
	}
}

func TestWrongViews(t *testing.T) {
	for _, w := range wrongViews {
		for _, heard := range []string{"", "frame 2 2 0 0 -1048576 16308"} {
			if v, e, err := member.Step([]int{2, 1}, w, heard); !nothing(v, e) || err != api.ErrBound {
				t.Error(w, heard, v, e, err)
			}
		}
		// Ahead of ErrLate.
		for _, node := range []int{2, 1, 3, 0, 17} {
			if s, err := member.Send([]int{2, 1}, w, node, 0); s != "" || err != api.ErrBound {
				t.Error(w, node, s, err)
			}
		}
	}
}

func TestWrongPlans(t *testing.T) {
	views := append([]api.View{{}, {Members: everybody, Mode: 3, Slot: most - 1}, {Slot: most}}, wrongViews...)
	for _, w := range wrongPlans() {
		// Ahead of all other errors.
		for _, x := range views {
			if v, e, err := member.Step(w.l, x, "frame 2 2 0 0 -1048576 16308"); !nothing(v, e) || !w.isTold(err) {
				t.Error(w, x, v, e, err)
			}
			for _, node := range []int{2, 1, 0, 17} {
				if s, err := member.Send(w.l, x, node, greatest+1); s != "" || !w.isTold(err) {
					t.Error(w, x, node, s, err)
				}
			}
		}
	}
}

func TestPlansAreOnlyRead(t *testing.T) {
	was := []int{2, 1, 9, 17}
	memory := slices.Clone(was)
	l := memory[:2]
	v := api.View{Members: 3, Slot: 2}
	s, err := member.Send(l, v, 2, 6)
	if err != nil {
		t.Error(err)
	}
	if s, err := member.Send(l, v, 9, 6); s != "" || err != api.ErrLate {
		t.Error(s, err)
	}
	next, e, err := member.Step(l, v, s)
	if next != (api.View{Members: 3, Slot: 3}) || e != (api.Entry{Slot: 2, From: 2, Heard: true, Value: 6}) || err != nil {
		t.Error(next, e, err)
	}
	if !slices.Equal(memory, was) {
		t.Error(memory)
	}
}

func TestWhatIsSentIsGood(t *testing.T) {
	for _, l := range plans {
		for slot := range 2*len(l) + 1 {
			who := l[slot%len(l)]
			for _, members := range []int{0, 1, 1 << (who - 1), 4660, 65535 &^ (1 << (who - 1)), everybody} {
				v := api.View{Members: members, Mode: slot % 4, Slot: slot}
				s, err := member.Send(l, v, who, slot-5)
				if err != nil {
					t.Fatal(l, v, err)
				}
				next, e, err := member.Step(l, v, s)
				want := api.View{Members: members | 1<<(who-1), Mode: slot % 4, Slot: slot + 1}
				if next != want || e != (api.Entry{Slot: slot, From: who, Heard: true, Value: slot - 5}) || err != nil {
					t.Fatal(l, v, s, next, e, err)
				}
			}
		}
	}
}

// P71

func TestWhoHearsTheSameHasOneView(t *testing.T) {
	for _, l := range plans {
		for bad := range 5 {
			runTwo(t, l, bad)
		}
	}
}

// runTwo who begin with one view, each with a plan of its own, through four rounds; a third one, that hears nothing, makes its steps between theirs.
func runTwo(t *testing.T, l []int, bad int) {
	t.Helper()
	one, two, deaf := api.View{Members: everybody, Mode: 1}, api.View{Members: everybody, Mode: 1}, api.View{Members: everybody, Mode: 1}
	for slot := range 4 * len(l) {
		heard, err := member.Send(l, one, l[slot%len(l)], slot)
		if err != nil {
			t.Fatal(l, slot, err)
		}
		switch (slot*3 + slot/len(l) + bad) % 5 {
		case 0:
			heard = ""
		case 1:
			heard = heard[1:]
		}
		var e1, e2 api.Entry
		one, e1, _ = member.Step(l, one, heard)
		deaf, _, _ = member.Step(l, deaf, "")
		two, e2, _ = member.Step(slices.Clone(l), two, heard)
		if one != two || e1 != e2 || one.Slot != slot+1 || deaf.Slot != slot+1 {
			t.Fatal(l, slot, one, two, e1, e2, deaf)
		}
	}
}

func TestNobodyElseComesOrGoes(t *testing.T) {
	for _, l := range plans {
		for slot := range len(l) + 1 {
			who := l[slot%len(l)]
			for _, members := range []int{0, 1, 21845, 43690, 1 << (who - 1), everybody} {
				checkOthers(t, l, api.View{Members: members, Mode: 2, Slot: slot}, who)
			}
		}
	}
}

// checkOthers: whoever's frame is heard, and of whichever view, all but who has the slot are members as they were.
func checkOthers(t *testing.T, l []int, v api.View, who int) {
	t.Helper()
	own := 1 << (who - 1)
	for from := 1; from <= 16; from++ {
		for _, members := range []int{v.Members, 0, everybody, v.Members ^ 1, v.Members ^ 32768, ^v.Members & everybody} {
			for slot := max(0, v.Slot-1); slot <= v.Slot+1; slot++ {
				members |= 1 << (from - 1)
				good := from == who && members == v.Members|own && slot == v.Slot
				want := v.Members &^ own
				if good {
					want = members
				}
				next, e, err := member.Step(l, v, made(t, from, members, 2, slot, 1))
				if next != (api.View{Members: want, Mode: 2, Slot: v.Slot + 1}) || e.Heard != good || e.From != who || err != nil {
					t.Fatal(l, v, from, members, slot, next, e, err)
				}
				if (next.Members^v.Members)&^own != 0 {
					t.Fatal(l, v, from, members, slot, next)
				}
			}
		}
	}
}
