package fold_test

import (
	"math"
	"regexp"
	"slices"
	"strconv"
	"strings"
	"testing"

	"bargelock/api"
	"bargelock/fold"
	"bargelock/member"
)

const (
	nodes    = 16
	most     = 200
	greatest = 1048576
)

func said(from, value int) api.Entry { return api.Entry{From: from, Heard: true, Value: value} }

func missed(from int) api.Entry { return api.Entry{From: from} }

// history of entries, in their places.
func history(entries ...api.Entry) []api.Entry {
	l := slices.Clone(entries)
	for i := range l {
		l[i].Slot = i
	}
	return l
}

// values of all nodes: those of a map, else 0.
func values(of map[int]int) []int {
	l := make([]int, nodes)
	for node, value := range of {
		l[node-1] = value
	}
	return l
}

// told are histories, their texts, and what was heard last.
func told() []struct {
	l    []api.Entry
	text string
	last map[int]int
} {
	return []struct {
		l    []api.Entry
		text string
		last map[int]int
	}{
		{nil, "-", nil},
		{[]api.Entry{}, "-", nil},
		{history(missed(1)), "1!", nil},
		{history(missed(16)), "16!", nil},
		{history(said(1, 0)), "1:0", nil},
		{history(said(1, 7)), "1:7", map[int]int{1: 7}},
		{history(said(16, -7)), "16:-7", map[int]int{16: -7}},
		{history(said(1, greatest), said(2, -greatest)), "1:1048576,2:-1048576", map[int]int{1: greatest, 2: -greatest}},
		{history(said(3, 1), said(3, 2)), "3:1,3:2", map[int]int{3: 2}},
		{history(said(3, 2), said(3, 1)), "3:2,3:1", map[int]int{3: 1}}, // the last, not the greatest
		{history(said(3, 2), said(3, 0)), "3:2,3:0", nil},               // a 0 that was heard is the last
		{history(said(3, 2), missed(3)), "3:2,3!", map[int]int{3: 2}},   // what was not heard is none
		{history(missed(3), said(3, 2)), "3!,3:2", map[int]int{3: 2}},
		{history(said(3, 2), said(4, 9), missed(3), said(4, -9), missed(4)), "3:2,4:9,3!,4:-9,4!", map[int]int{3: 2, 4: -9}},
		{history(said(10, 10), said(1, 1), missed(9), said(15, -1000000)), "10:10,1:1,9!,15:-1000000", map[int]int{1: 1, 10: 10, 15: -1000000}},
	}
}

type wrongHistory struct {
	l    []api.Entry
	want error
	at   int // below 0: no place is told
}

// isTold: is err the error that is wanted, as the document asks: bare, or a fault with its place?
func isTold(err, want error, at int) bool {
	if at < 0 {
		return err == want
	}
	f, ok := err.(*api.Fault)
	return ok && f.At == at && f.Err == want
}

func wrongHistories() []wrongHistory {
	all := []wrongHistory{
		{make([]api.Entry, most+1), api.ErrFull, -1},
		{many(most + 1), api.ErrFull, -1},
		{make([]api.Entry, most), api.ErrNode, 0},
		{many(3)[1:], api.ErrGap, 0},
		{slices.Delete(many(5), 2, 3), api.ErrGap, 2},
		{append(many(4), many(2)...), api.ErrGap, 4},
	}
	for _, place := range []int{0, 1, 100, most - 1} {
		for e, want := range map[api.Entry]error{
			{Slot: place + 1, From: 1, Heard: true}:                   api.ErrGap,
			{Slot: -1, From: 17, Value: 1}:                            api.ErrGap,
			{Slot: place, From: 0, Heard: true, Value: 1}:             api.ErrNode,
			{Slot: place, From: 17, Heard: true, Value: 1}:            api.ErrNode,
			{Slot: place, From: -1}:                                   api.ErrNode,
			{Slot: place, From: math.MaxInt, Heard: true}:             api.ErrNode,
			{Slot: place, From: math.MinInt, Heard: true}:             api.ErrNode,
			{Slot: place, From: 1, Heard: true, Value: 1 << 21}:       api.ErrBound,
			{Slot: place, From: 1, Heard: true, Value: greatest + 1}:  api.ErrBound,
			{Slot: place, From: 1, Heard: true, Value: -greatest - 1}: api.ErrBound,
			{Slot: place, From: 1, Heard: true, Value: math.MinInt}:   api.ErrBound,
			{Slot: place, From: 1, Value: 1}:                          api.ErrShape,
		} {
			l := many(most)
			l[place] = e
			all = append(all, wrongHistory{l, want, place})
		}
	}
	return all
}

// many entries, of which each third one was not heard.
func many(n int) []api.Entry {
	l := make([]api.Entry, n)
	for i := range l {
		l[i] = missed(1 + i*5%nodes)
		if i%3 != 2 {
			l[i] = said(1+i*5%nodes, (i%7-3)*9999)
		}
	}
	return history(l...)
}

// P90

func TestLastAndTotal(t *testing.T) {
	for _, x := range told() {
		if last, err := fold.Last(x.l); !slices.Equal(last, values(x.last)) || err != nil {
			t.Error(x.text, last, err)
		}
		total := 0
		for _, value := range x.last {
			total += value
		}
		if n, err := fold.Total(x.l); n != total || err != nil {
			t.Error(x.text, n, err)
		}
	}
}

func TestTotalOfAll(t *testing.T) {
	for _, x := range []struct{ value, want int }{{greatest, 16777216}, {-greatest, -16777216}, {1, 16}, {0, 0}} {
		var l []api.Entry
		for node := range nodes {
			l = append(l, said(node+1, -5), said(node+1, x.value), missed(node+1))
		}
		if n, err := fold.Total(history(l...)); n != x.want || err != nil {
			t.Error(x, n, err)
		}
	}
}

func TestText(t *testing.T) {
	for _, x := range told() {
		if s, err := fold.Text(x.l); s != x.text || err != nil {
			t.Error(x.text, s, err)
		}
	}
}

func TestRead(t *testing.T) {
	for _, x := range told() {
		if l, err := fold.Read(x.text); !slices.Equal(l, x.l) || err != nil {
			t.Error(x.text, l, err)
		}
	}
}

func TestWrongHistories(t *testing.T) {
	for _, w := range wrongHistories() {
		last, e1 := fold.Last(w.l)
		total, e2 := fold.Total(w.l)
		s, e3 := fold.Text(w.l)
		if len(last) != 0 || total != 0 || s != "" {
			t.Error(len(w.l), w.want, w.at, last, total, s)
		}
		for i, err := range []error{e1, e2, e3} {
			if !isTold(err, w.want, w.at) {
				t.Error(i, len(w.l), w.want, w.at, err)
			}
		}
	}
}

func readWrong(t *testing.T, s string, want error, at int) {
	t.Helper()
	if l, err := fold.Read(s); len(l) != 0 || !isTold(err, want, at) {
		t.Errorf("%.60q: %v, %v, not %v at %d", s, l, err, want, at)
	}
}

func TestReadNoHistory(t *testing.T) {
	for _, s := range []string{
		"", " ", "--", "- ", " -", "-\n", "1", "16", "!", ":", "1:", ":1", ":!", "!:", "1!:", "1:!", "1!2", "1:2!", "1!!", "1!:2", "1:2:3", "1::2", "1 :2", "1: 2", " 1:2", "1:2 ", "1!\n", "1;2", "1.2", "1=2", "1\x00!", "\xff",
		",", ",,", "1!,", ",1!", "1!,,1!", "1! ,1!", "1!, 1!", "1!;1!", "-,1!", "1!,-", "1!,1", "1,1!", "1:2,3", "none", "nil",
	} {
		readWrong(t, s, api.ErrText, -1)
	}
}

func TestReadNoNumbers(t *testing.T) {
	for _, word := range []string{"", "-", "--", "x", "1x", "x1", "+", "+1", "+0", "-0", "00", "01", "-01", "1.0", "1e0", "0x1", "1_0", "\u0661", "1\x00", " 1", "1 ", "10000000", "-10000000", "12345678", "-12345678", "00000001", "18446744073709551617", strings.Repeat("1", 3000)} {
		readWrong(t, word+"!", api.ErrText, -1)
		readWrong(t, word+":1", api.ErrText, -1)
		readWrong(t, "1:"+word, api.ErrText, -1)
		readWrong(t, "1!,2:3,"+word+"!,1!", api.ErrText, -1)
		readWrong(t, "1!,2:3,4:"+word+",1!", api.ErrText, -1)
	}
}

func TestReadWrongHistory(t *testing.T) {
	for _, x := range []struct {
		s    string
		want error
		at   int
	}{
		{"0!", api.ErrNode, 0},
		{"17!", api.ErrNode, 0},
		{"-1!", api.ErrNode, 0}, // a number, and no node
		{"9999999!", api.ErrNode, 0},
		{"-9999999:9999999", api.ErrNode, 0},
		{"1!,2:3,0:1,17!", api.ErrNode, 2},
		{"1:1048577", api.ErrBound, 0},
		{"1:-1048577", api.ErrBound, 0},
		{"1:9999999", api.ErrBound, 0},
		{"1:-9999999", api.ErrBound, 0},
		{"1:1048576,2:1048577,0!", api.ErrBound, 1},
		{strings.Repeat("1!,", most-1) + "0!", api.ErrNode, most - 1},
		{strings.Repeat("1!,", most) + "1!", api.ErrFull, -1},
		{strings.Repeat("0!,", most) + "1!", api.ErrFull, -1},
		{strings.Repeat("1!,", 1332) + "1:10", api.ErrFull, -1}, // of 4000 bytes
	} {
		readWrong(t, x.s, x.want, x.at)
	}
}

func TestReadTellsTextFirst(t *testing.T) {
	// What is no text is told ahead of what is wrong in the history, also if it stands behind that.
	for _, s := range []string{"0!,x", "17:1,1:", "1:1048577,", "x,0!", strings.Repeat("1!,", most) + "x", strings.Repeat("0!,", most+1)} {
		readWrong(t, s, api.ErrText, -1)
	}
}

func TestReadTooLong(t *testing.T) {
	for _, s := range []string{strings.Repeat("x", 4001), strings.Repeat("-", 4001), strings.Repeat("1!,", 1333) + "1!", strings.Repeat("1!,", 1332) + "1:100", strings.Repeat("0!,", 100000)} {
		readWrong(t, s, api.ErrBound, -1)
	}
	// With 4000 bytes it is not the length that is told.
	readWrong(t, strings.Repeat("x", 4000), api.ErrText, -1)
	readWrong(t, "-"+strings.Repeat(" ", 3999), api.ErrText, -1)
}

func TestReadTakesAWholeHistory(t *testing.T) {
	s := strings.TrimSuffix(strings.Repeat("16:-1048576,", most), ",")
	l, err := fold.Read(s)
	if len(l) != most || err != nil {
		t.Fatal(len(l), err)
	}
	for i, e := range l {
		if e != (api.Entry{Slot: i, From: 16, Heard: true, Value: -greatest}) {
			t.Error(i, e)
		}
	}
	if again, err := fold.Text(l); again != s || err != nil {
		t.Error(again, err)
	}
}

func TestHistoriesAreOnlyRead(t *testing.T) {
	was := append(history(said(1, 4), missed(2), said(1, 5)), api.Entry{Slot: -1, From: 17, Value: 5}, api.Entry{})
	memory := slices.Clone(was)
	l := memory[:3]
	last, e1 := fold.Last(l)
	total, e2 := fold.Total(l)
	s, e3 := fold.Text(l)
	if !slices.Equal(last, values(map[int]int{1: 5})) || total != 5 || s != "1:4,2!,1:5" || e1 != nil || e2 != nil || e3 != nil {
		t.Error(last, total, s, e1, e2, e3)
	}
	if !slices.Equal(memory, was) {
		t.Error(memory)
	}
}

func TestAnswersAreNewMemory(t *testing.T) {
	l := history(said(1, 4), missed(2))
	for range 2 {
		last, err := fold.Last(l)
		if !slices.Equal(last, values(map[int]int{1: 4})) || err != nil {
			t.Fatal(last, err)
		}
		read, err := fold.Read("1:4,2!")
		if !slices.Equal(read, l) || err != nil {
			t.Fatal(read, err)
		}
		for i := range last {
			last[i] = -1
		}
		clear(read)
	}
}

// P91

func checkBack(t *testing.T, l []api.Entry) {
	t.Helper()
	s, err := fold.Text(l)
	if err != nil || len(s) > api.MaxText {
		t.Fatal(l, s, err)
	}
	if back, err := fold.Read(s); !slices.Equal(back, l) || err != nil {
		t.Fatal(l, s, back, err)
	}
}

func TestWhatIsWrittenIsRead(t *testing.T) {
	for _, x := range told() {
		checkBack(t, x.l)
	}
	for n := range most + 1 {
		checkBack(t, many(n))
	}
	for node := 1; node <= nodes; node++ {
		checkBack(t, history(missed(node)))
		for _, value := range []int{0, 1, -1, 9, 10, -10, 99999, 1000000, -1000000, greatest, -greatest} {
			checkBack(t, history(said(node, value)))
			checkBack(t, history(missed(1), said(node, value), missed(node)))
		}
	}
}

func TestWhatIsReadIsWrittenSo(t *testing.T) {
	number := "(0|-?[1-9][0-9]{0,6})"
	entry := number + "(!|:" + number + ")"
	right := regexp.MustCompile("^(-|" + entry + "(," + entry + ")*)$")
	count := 0
	for _, s := range texts("019-+:!, ", 6) {
		l, err := fold.Read(s)
		if right.MatchString(s) != (err != api.ErrText) {
			t.Fatalf("%q: %v", s, err)
		}
		if err != nil {
			if len(l) != 0 {
				t.Fatalf("%q: %v", s, l)
			}
			continue
		}
		count++
		if again, err := fold.Text(l); again != s || err != nil {
			t.Fatalf("%q is read as %v", s, l)
		}
	}
	if count < 100 {
		t.Error(count)
	}
}

// texts of signs, of so many bytes at most.
func texts(signs string, longest int) []string {
	all := []string{""}
	from := 0
	for range longest {
		to := len(all)
		for _, s := range all[from:to] {
			for i := range signs {
				all = append(all, s+signs[i:i+1])
			}
		}
		from = to
	}
	return all
}

func TestFirstAndThenIsTheLastOfBoth(t *testing.T) {
	kinds := []api.Entry{missed(1), missed(2), said(1, 0), said(1, 5), said(1, -5), said(2, 0), said(2, 8)}
	lists := [][]api.Entry{nil}
	for from, n := 0, 0; n < 3; n++ {
		to := len(lists)
		for _, l := range lists[from:to] {
			for _, e := range kinds {
				lists = append(lists, append(slices.Clone(l), e))
			}
		}
		from = to
	}
	for _, a := range lists {
		for _, b := range lists {
			checkBoth(t, a, b)
		}
	}
}

func TestFirstAndThenOfLongHistories(t *testing.T) {
	l := many(most)
	for cut := range most + 1 {
		checkBoth(t, l[:cut], l[cut:])
	}
}

// checkBoth: of what was heard first, and of what then, the last of both is the last of the second, but of nodes of which nothing was heard then.
func checkBoth(t *testing.T, a, b []api.Entry) {
	t.Helper()
	first, e1 := fold.Last(history(a...))
	then, e2 := fold.Last(history(b...))
	both, e3 := fold.Last(history(append(slices.Clone(a), b...)...))
	total, e4 := fold.Total(history(append(slices.Clone(a), b...)...))
	if e1 != nil || e2 != nil || e3 != nil || e4 != nil || len(both) != nodes {
		t.Fatal(a, b, e1, e2, e3, e4, both)
	}
	sum := 0
	for i := range nodes {
		want := first[i]
		if slices.ContainsFunc(b, func(e api.Entry) bool { return e.From == i+1 && e.Heard }) {
			want = then[i]
		}
		if both[i] != want {
			t.Fatal(a, b, i, both, want)
		}
		sum += want
	}
	if total != sum {
		t.Fatal(a, b, total, sum)
	}
}

func TestWhatMembersHeard(t *testing.T) {
	l := []int{1, 2, 3, 2}
	v := api.View{Members: 7}
	var entries []api.Entry
	var words []string
	for slot := range 12 {
		who, value := l[slot%len(l)], slot*slot-20
		text, err := member.Send(l, v, who, value)
		if err != nil {
			t.Fatal(slot, err)
		}
		word := strconv.Itoa(who) + ":" + strconv.Itoa(value)
		if slot%5 == 4 || slot == 10 { // lost, and node 3 for the last time
			text, word = "", strconv.Itoa(who)+"!"
		}
		next, e, err := member.Step(l, v, text)
		if err != nil {
			t.Fatal(slot, err)
		}
		v, entries, words = next, append(entries, e), append(words, word)
	}
	if s, err := fold.Text(entries); s != strings.Join(words, ",") || err != nil {
		t.Error(s, words, err)
	}
	checkBack(t, entries)
	want := values(map[int]int{1: 44, 2: 101, 3: 16})
	if last, err := fold.Last(entries); !slices.Equal(last, want) || err != nil {
		t.Error(last, want, err)
	}
}
