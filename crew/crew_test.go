package crew_test

import (
	"math"
	"slices"
	"strings"
	"testing"

	"bargelock/api"
	"bargelock/crew"
)

const everybody = 65535

var (
	right = []int{0, 1, 2, 5, 255, 256, 32767, 32768, 65534, everybody}
	wrong = []int{-1, everybody + 1, -everybody, 1 << 20, math.MinInt, math.MaxInt}
)

// P10

func TestCheck(t *testing.T) {
	for _, c := range right {
		if err := crew.Check(c); err != nil {
			t.Error(c, err)
		}
	}
	for _, c := range wrong {
		if err := crew.Check(c); err != api.ErrBound {
			t.Error(c, err)
		}
	}
}

func TestOf(t *testing.T) {
	for _, x := range []struct {
		l    []int
		want int
	}{
		{nil, 0},
		{[]int{}, 0},
		{[]int{1}, 1},
		{[]int{16}, 32768},
		{[]int{1, 3}, 5},
		{[]int{3, 1}, 5},
		{[]int{3, 1, 3, 1, 1}, 5},
		{[]int{16, 15, 14, 13, 12, 11, 10, 9, 8, 7, 6, 5, 4, 3, 2, 1}, everybody},
	} {
		if c, err := crew.Of(x.l); c != x.want || err != nil {
			t.Error(x.l, c, err)
		}
	}
}

func TestOfWrong(t *testing.T) {
	for _, x := range []struct {
		l  []int
		at int
	}{
		{[]int{0}, 0},
		{[]int{17}, 0},
		{[]int{1, 2, -1}, 2},
		{[]int{16, 17, 0}, 1},
		{[]int{1, math.MinInt}, 1},
		{[]int{1, math.MaxInt}, 1},
		{[]int{1, 65}, 1},
	} {
		c, err := crew.Of(x.l)
		f, ok := err.(*api.Fault)
		if c != 0 || !ok || f.At != x.at || f.Err != api.ErrNode {
			t.Error(x.l, c, err)
		}
	}
}

func TestOfOnlyReads(t *testing.T) {
	memory := []int{3, 1, 99, 0}
	if c, err := crew.Of(memory[:2]); c != 5 || err != nil {
		t.Error(c, err)
	}
	if !slices.Equal(memory, []int{3, 1, 99, 0}) {
		t.Error(memory)
	}
}

func TestList(t *testing.T) {
	for _, x := range []struct {
		c    int
		want []int
	}{
		{0, nil},
		{1, []int{1}},
		{5, []int{1, 3}},
		{32768, []int{16}},
		{32769, []int{1, 16}},
		{everybody, []int{1, 2, 3, 4, 5, 6, 7, 8, 9, 10, 11, 12, 13, 14, 15, 16}},
	} {
		if l := crew.List(x.c); !slices.Equal(l, x.want) {
			t.Error(x.c, l)
		}
	}
	for _, c := range wrong {
		if l := crew.List(c); len(l) != 0 {
			t.Error(c, l)
		}
	}
}

func TestListIsNew(t *testing.T) {
	l := crew.List(5)
	l[0] = 9
	if again := crew.List(5); !slices.Equal(again, []int{1, 3}) {
		t.Error(again)
	}
}

func TestHas(t *testing.T) {
	for _, c := range right {
		for node := 1; node <= api.MaxNodes; node++ {
			if crew.Has(c, node) != slices.Contains(crew.List(c), node) {
				t.Error(c, node)
			}
		}
	}
	for _, node := range []int{0, -1, 17, 64, 65, math.MinInt, math.MaxInt} {
		if crew.Has(everybody, node) {
			t.Error(node)
		}
	}
	for _, c := range wrong {
		for node := -1; node <= 65; node++ {
			if crew.Has(c, node) {
				t.Error(c, node)
			}
		}
	}
}

func TestMany(t *testing.T) {
	for c, want := range map[int]int{0: 0, 1: 1, 5: 2, 32768: 1, 65534: 15, everybody: 16} {
		if n := crew.Many(c); n != want {
			t.Error(c, n)
		}
	}
	for _, c := range wrong {
		if n := crew.Many(c); n != 0 {
			t.Error(c, n)
		}
	}
}

func TestTwoCrews(t *testing.T) {
	for _, x := range []struct{ a, b, both, either, less int }{
		{7, 12, 4, 15, 3},
		{12, 7, 4, 15, 8},
		{0, 0, 0, 0, 0},
		{0, 5, 0, 5, 0},
		{5, 0, 0, 5, 5},
		{5, 5, 5, 5, 0},
		{everybody, 1, 1, everybody, 65534},
		{32767, 32768, 0, everybody, 32767},
	} {
		both, e1 := crew.Both(x.a, x.b)
		either, e2 := crew.Either(x.a, x.b)
		less, e3 := crew.Less(x.a, x.b)
		if both != x.both || either != x.either || less != x.less || e1 != nil || e2 != nil || e3 != nil {
			t.Error(x, both, either, less, e1, e2, e3)
		}
	}
}

func TestTwoCrewsWrong(t *testing.T) {
	for name, call := range map[string]func(a, b int) (int, error){"both": crew.Both, "either": crew.Either, "less": crew.Less} {
		for _, bad := range wrong {
			for _, pair := range [][2]int{{bad, 1}, {1, bad}, {bad, bad}, {bad, 0}, {0, bad}} {
				if c, err := call(pair[0], pair[1]); c != 0 || err != api.ErrBound {
					t.Error(name, pair, c, err)
				}
			}
		}
	}
}

func TestListAndOfGoBackAndForth(t *testing.T) {
	for c := 0; c <= everybody; c++ {
		l := crew.List(c)
		back, err := crew.Of(l)
		if back != c || err != nil || crew.Many(c) != len(l) || !slices.IsSorted(l) {
			t.Fatal(c, l, back, err)
		}
	}
}

// P11

func TestText(t *testing.T) {
	for c, want := range map[int]string{0: "-", 1: "1", 4: "3", 5: "1,3", 512: "10", 32769: "1,16", everybody: "1,2,3,4,5,6,7,8,9,10,11,12,13,14,15,16"} {
		if s := crew.Text(c); s != want {
			t.Error(c, s)
		}
		if back, err := crew.Read(want); back != c || err != nil {
			t.Error(want, back, err)
		}
	}
	for _, c := range wrong {
		if s := crew.Text(c); s != "" {
			t.Error(c, s)
		}
	}
}

func TestReadWrong(t *testing.T) {
	for _, s := range []string{
		"", "0", "17", "99", "100", "-1", "+1", "01", "1.", "1.0", "0x1", "1_0", "1e0", "x", "1x", "\x00", "1\x00", "١",
		",", "1,", ",1", "1,,2", "1,-", "-,1", "--", "- ", " -",
		" 1", "1 ", "1, 2", "1 ,2", "1 2", "1;2", "1\n", "1,2\n",
		"2,1", "1,1", "1,3,2", "9,10,9", "16,16", "10,2", "1,0", "1,17", "1,02", "1,+2",
		"1,2,3,4,5,6,7,8,9,10,11,12,13,14,15,16,17",
		"18446744073709551617", "4294967297", "65537", strings.Repeat("1", 100000), strings.Repeat("1,", 100000), strings.Repeat(",", 100000),
	} {
		if c, err := crew.Read(s); c != 0 || err != api.ErrText {
			t.Errorf("%.40q: %d, %v", s, c, err)
		}
	}
}

func TestEachCrewIsReadAsWritten(t *testing.T) {
	for c := 0; c <= everybody; c++ {
		if back, err := crew.Read(crew.Text(c)); back != c || err != nil {
			t.Fatal(c, crew.Text(c), back, err)
		}
	}
}

func TestWhatIsReadIsWrittenSo(t *testing.T) {
	signs := []string{"", "-", "+", ",", " ", "0", "1", "2", "6", "7"}
	for _, a := range signs {
		for _, b := range signs {
			for _, c := range signs {
				for _, d := range signs {
					s := a + b + c + d
					if got, err := crew.Read(s); err == nil && crew.Text(got) != s {
						t.Errorf("%q is read as %d", s, got)
					}
				}
			}
		}
	}
}

func TestMost(t *testing.T) {
	for _, x := range []struct {
		l           []int
		best, often int
	}{
		{nil, 0, 0},
		{[]int{}, 0, 0},
		{[]int{7}, 7, 1},
		{[]int{0}, 0, 1},
		{[]int{3, 2, 1}, 3, 1},
		{[]int{1, 2, 2, 3}, 2, 2},
		{[]int{5, 6, 6, 5}, 5, 2},
		{[]int{9, 6, 6, 5, 5}, 6, 2},
		{[]int{1, 2, 2, 1, 2}, 2, 3},
		{[]int{-1, -1, 4}, -1, 2},
		{[]int{math.MaxInt, math.MinInt, math.MinInt}, math.MinInt, 2},
	} {
		for range 20 { // the order in which a map is gone through would show
			if best, often := crew.Most(x.l); best != x.best || often != x.often {
				t.Fatal(x, best, often)
			}
		}
	}
}

func TestMostOnlyReads(t *testing.T) {
	memory := []int{2, 1, 1, 2, 2}
	if best, often := crew.Most(memory[:3]); best != 1 || often != 2 {
		t.Error(best, often)
	}
	if !slices.Equal(memory, []int{2, 1, 1, 2, 2}) {
		t.Error(memory)
	}
}

// P12

// someCrews are all crews of five nodes, the least and the greatest among them.
func someCrews(t *testing.T) []int {
	places := []int{1, 2, 8, 15, 16}
	var crews []int
	for pick := range 1 << len(places) {
		var l []int
		for i, node := range places {
			if pick>>i&1 == 1 {
				l = append(l, node)
			}
		}
		crews = append(crews, of(t, l...))
	}
	return crews
}

func of(t *testing.T, l ...int) int {
	t.Helper()
	c, err := crew.Of(l)
	if err != nil {
		t.Fatal(l, err)
	}
	return c
}

func both(t *testing.T, a, b int) int {
	t.Helper()
	c, err := crew.Both(a, b)
	if err != nil {
		t.Fatal(a, b, err)
	}
	return c
}

func TestLessAndBothMakeTheWhole(t *testing.T) {
	crews := append(someCrews(t), right...)
	for _, a := range crews {
		for _, b := range crews {
			less, err := crew.Less(a, b)
			if err != nil {
				t.Fatal(a, b, err)
			}
			if whole, err := crew.Either(less, both(t, a, b)); whole != a || err != nil {
				t.Fatal(a, b, whole, err)
			}
			if both(t, less, b) != 0 {
				t.Fatal(a, b, less)
			}
		}
	}
}

func TestTwoMajoritiesMeet(t *testing.T) {
	crews := someCrews(t)
	for _, third := range crews {
		var major []int
		for _, c := range crews {
			if 2*crew.Many(both(t, c, third)) > crew.Many(third) {
				major = append(major, c)
			}
		}
		if third != 0 && len(major) == 0 {
			t.Fatal(third, "has no majority")
		}
		for _, a := range major {
			for _, b := range major {
				if both(t, a, b) == 0 {
					t.Fatal(third, a, b)
				}
			}
		}
	}
}

func TestTwoHalvesNeedNotMeet(t *testing.T) {
	a, b, third := of(t, 1, 16), of(t, 8, 15), of(t, 1, 8, 15, 16)
	if 2*crew.Many(a) != crew.Many(third) || 2*crew.Many(b) != crew.Many(third) || both(t, a, b) != 0 {
		t.Error(a, b, third)
	}
}
