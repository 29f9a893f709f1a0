package frame_test

import (
	"math"
	"strconv"
	"strings"
	"testing"

	"bargelock/api"
	"bargelock/frame"
)

const everybody = "1,2,3,4,5,6,7,8,9,10,11,12,13,14,15,16"

// told are frames and their texts, the sums worked out apart from the program.
var told = []struct {
	f    api.Frame
	text string
}{
	{made(1, 1, 0, 0, 0), "frame 1 1 0 0 0 14385"},
	{made(1, 3, 1, 5, -7), "frame 1 1,2 1 5 -7 31564"},
	{made(3, 5, 2, 40, 12), "frame 3 1,3 2 40 12 3491"},
	{made(2, 2, 0, 0, -1048576), "frame 2 2 0 0 -1048576 16308"},
	{made(16, 32768, 3, 1000000, 1048576), "frame 16 16 3 1000000 1048576 21385"},
	{made(16, 65535, 3, 1000000, -1048576), "frame 16 " + everybody + " 3 1000000 -1048576 19320"},
}

func made(from, members, mode, slot, value int) api.Frame {
	return api.Frame{From: from, View: api.View{Members: members, Mode: mode, Slot: slot}, Value: value}
}

// summed: a text with the sum that the document asks for.
func summed(s string) string {
	n := 1
	for _, b := range []byte(s) {
		n = (n*257 + int(b) + 1) % 65521
	}
	return s + " " + strconv.Itoa(n)
}

// P30

func wrongFrames() []struct {
	f    api.Frame
	want error
} {
	return []struct {
		f    api.Frame
		want error
	}{
		{api.Frame{}, api.ErrNode},
		{made(0, 1, 0, 0, 0), api.ErrNode},
		{made(17, 1, 0, 0, 0), api.ErrNode},
		{made(-1, 1, 0, 0, 0), api.ErrNode},
		{made(math.MinInt, 1, 0, 0, 0), api.ErrNode},
		{made(math.MaxInt, 1, 0, 0, 0), api.ErrNode},
		{made(17, -1, 9, -1, math.MaxInt), api.ErrNode},
		{made(1, -1, 0, 0, 0), api.ErrBound},
		{made(1, 65536, 0, 0, 0), api.ErrBound},
		{made(1, 65537, 0, 0, 0), api.ErrBound},
		{made(1, math.MinInt, 0, 0, 0), api.ErrBound},
		{made(1, math.MaxInt, 0, 0, 0), api.ErrBound},
		{made(1, 0, 0, 0, 0), api.ErrShape},
		{made(1, 65534, 0, 0, 0), api.ErrShape},
		{made(16, 32767, 0, 0, 0), api.ErrShape},
		{made(2, 5, 4, -1, math.MaxInt), api.ErrShape},
		{made(1, 1, -1, 0, 0), api.ErrBound},
		{made(1, 1, 4, 0, 0), api.ErrBound},
		{made(1, 1, math.MinInt, 0, 0), api.ErrBound},
		{made(1, 1, math.MaxInt, 0, 0), api.ErrBound},
		{made(1, 1, 0, -1, 0), api.ErrBound},
		{made(1, 1, 0, 1000001, 0), api.ErrBound},
		{made(1, 1, 0, math.MinInt, 0), api.ErrBound},
		{made(1, 1, 0, math.MaxInt, 0), api.ErrBound},
		{made(1, 1, 0, 0, 1048577), api.ErrBound},
		{made(1, 1, 0, 0, -1048577), api.ErrBound},
		{made(1, 1, 0, 0, math.MinInt), api.ErrBound},
		{made(1, 1, 0, 0, math.MaxInt), api.ErrBound},
	}
}

func TestCheckAndMake(t *testing.T) {
	for _, x := range told {
		if err := frame.Check(x.f); err != nil {
			t.Error(x.f, err)
		}
		if s, err := frame.Make(x.f); s != x.text || err != nil {
			t.Error(x.f, s, err)
		}
	}
}

func TestCheckAndMakeWrong(t *testing.T) {
	for _, w := range wrongFrames() {
		if err := frame.Check(w.f); err != w.want {
			t.Error(w.f, err, w.want)
		}
		if s, err := frame.Make(w.f); s != "" || err != w.want {
			t.Error(w.f, s, err, w.want)
		}
	}
}

func TestSum(t *testing.T) {
	for _, x := range []struct {
		s    string
		want int
	}{
		{"", 1},
		{"a", 355},
		{"ab", 25813},
		{"ba", 26069},
		{"\x00", 258},
		{"\x00\x00", 786},
		{"\xff", 513},
		{"\xff\xff", 1055},
		{"\xff\xff\xff", 9307},
		{"\u00e9", 51070}, // two bytes, one sign: bytes are summed
		{"frame 1 1,2 1 5 -7", 31564},
		{strings.Repeat("x", 100000), 5465},
	} {
		if n := frame.Sum(x.s); n != x.want {
			t.Errorf("%.40q: %d, not %d", x.s, n, x.want)
		}
	}
}

func TestRead(t *testing.T) {
	for _, x := range told {
		if f, err := frame.Read(x.text); f != x.f || err != nil {
			t.Error(x.text, f, err)
		}
	}
}

func TestReadNoFrame(t *testing.T) {
	for _, s := range []string{
		"", " ", "      ", "frame", "frame ", "frame 1 1 0 0 0", "frame 1 1 0 0 0 ", "frame 1 1 0 0 0 x",
		summed(""), summed("frame 1 1 0 0"), summed("frame 1 1 0 0 0 0"), strings.Repeat(" ", 100), strings.Repeat("x", 100),
		summed("1 1 0 0 0 frame"), summed("frames 1 1 0 0 0"), summed("Frame 1 1 0 0 0"), summed("fram 1 1 0 0 0"), summed(" 1 1 0 0 0"),
		summed(" frame 1 1 0 0 0"), summed("frame  1 1 0 0 0"), summed("frame 1 1  0 0"), summed("frame 1 1 0 0 0 "), summed("frame\t1 1 0 0 0"), summed("frame 1\n1 0 0 0"),
		summed("frame 1 1 0 0 0") + " ", summed("frame 1 1 0 0 0") + "\n", " " + summed("frame 1 1 0 0 0"),
	} {
		readWrong(t, s, api.ErrText)
	}
}

const (
	valueWord = 5
	sumWord   = 6
)

func TestReadNoNumbers(t *testing.T) {
	none := []string{"", "x", "1x", "-", "--1", "+1", "-0", "+0", "00", "01", "-01", "1.0", "1e0", "0x1", "1_0", "\x00", "1\x00", "\u0661", "12345678", "-12345678", "10000000", "-10000000", "00000001", "18446744073709551617", strings.Repeat("1", 60)}
	belowNothing := []string{"-1", "-7", "-9999999"}
	for _, at := range []int{1, 3, 4, valueWord, sumWord} {
		for _, word := range none {
			readWrong(t, withWord(at, word), api.ErrText)
		}
		for _, word := range belowNothing {
			if at != valueWord { // of the words this one alone may have a sign
				readWrong(t, withWord(at, word), api.ErrText)
			}
		}
	}
}

// withWord: a frame's text with another word at a place, and the sum that is right then, but where it is the sum that is another one.
func withWord(at int, word string) string {
	words := []string{"frame", "1", "1", "0", "0", "0", "14385"}
	words[at] = word
	if at == sumWord {
		return strings.Join(words, " ")
	}
	return summed(strings.Join(words[:sumWord], " "))
}

func TestNumber(t *testing.T) {
	for word, want := range map[string]int{"0": 0, "7": 7, "-1": -1, "10": 10, "-100": -100, "1048576": 1048576, "9999999": 9999999, "-9999999": -9999999} {
		if n, ok := frame.Number(word); n != want || !ok {
			t.Error(word, n, ok)
		}
	}
	for _, word := range []string{"", "-", "x", "+1", "-0", "00", "01", "-01", " 1", "1 ", "1.0", "0x1", "1_0", "10000000", "-10000000", "18446744073709551617"} {
		if n, ok := frame.Number(word); n != 0 || ok {
			t.Errorf("%q: %d %t", word, n, ok)
		}
	}
}

func TestReadNoMembers(t *testing.T) {
	for _, word := range []string{"", "0", "17", "01", "+1", "-1", "--", "x", "2,1", "1,1", "1,", ",1", "1,,2", "1,17", "1,x", "1;2"} {
		readWrong(t, summed("frame 1 "+word+" 0 0 0"), api.ErrText)
	}
}

func TestReadWrongSum(t *testing.T) {
	for _, s := range []string{
		"frame 1 1 0 0 0 14384", "frame 1 1 0 0 0 14386", "frame 1 1 0 0 0 0", "frame 1 1 0 0 0 1", "frame 1 1 0 0 0 9999999",
		"frame 1 1 0 0 0 79906", // the right one, and 65521
		"frame 1 1 0 0 1 14385",
		"frame 0 - 9 9999999 -9999999 1",
	} {
		readWrong(t, s, api.ErrSum)
	}
}

func TestReadWrongFrame(t *testing.T) {
	for _, x := range []struct {
		s    string
		want error
	}{
		{"frame 0 1 0 0 0", api.ErrNode},
		{"frame 17 1 0 0 0", api.ErrNode},
		{"frame 9999999 - 9 9999999 9999999", api.ErrNode},
		{"frame 1 - 0 0 0", api.ErrShape},
		{"frame 1 2 9 9999999 9999999", api.ErrShape},
		{"frame 1 1 4 0 0", api.ErrBound},
		{"frame 1 1 9999999 0 0", api.ErrBound},
		{"frame 1 1 0 1000001 0", api.ErrBound},
		{"frame 1 1 0 9999999 0", api.ErrBound},
		{"frame 1 1 0 0 1048577", api.ErrBound},
		{"frame 1 1 0 0 -1048577", api.ErrBound},
		{"frame 1 1 0 0 9999999", api.ErrBound},
		{"frame 1 1 0 0 -9999999", api.ErrBound},
	} {
		readWrong(t, summed(x.s), x.want)
	}
}

func TestReadTooLong(t *testing.T) {
	right := summed("frame 1 1 0 0 0")
	for _, s := range []string{
		strings.Repeat("x", 101),
		strings.Repeat(" ", 101),
		right + strings.Repeat(" ", 101-len(right)),
		strings.Repeat(right+" ", 10000),
	} {
		readWrong(t, s, api.ErrBound)
	}
	// With a hundred bytes it is not the length that is told.
	readWrong(t, right+strings.Repeat(" ", 100-len(right)), api.ErrText)
}

func readWrong(t *testing.T, s string, want error) {
	t.Helper()
	if f, err := frame.Read(s); f != (api.Frame{}) || err != want {
		t.Errorf("%.100q: %v, %v, not %v", s, f, err, want)
	}
}

// P31

func TestFramesAreReadAsMade(t *testing.T) {
	count := 0
	for from := 1; from <= api.MaxNodes; from++ {
		own := 1 << (from - 1)
		for _, members := range []int{own, own | 1, own | 32768, own | 1234, 65535} {
			for mode := range api.MaxModes {
				for _, slot := range []int{0, 1, 9, 10, 999999, api.MaxTime} {
					for _, value := range []int{-api.MaxNum, -1000000, -10, -1, 0, 1, 9, 99, api.MaxNum} {
						checkBack(t, made(from, members, mode, slot, value))
						count++
					}
				}
			}
		}
	}
	if count != 17280 {
		t.Error(count)
	}
}

func checkBack(t *testing.T, f api.Frame) {
	t.Helper()
	s, err := frame.Make(f)
	if err != nil || len(s) > 100 {
		t.Fatal(f, s, err)
	}
	if back, err := frame.Read(s); back != f || err != nil {
		t.Fatal(f, s, back, err)
	}
}

func TestOneOtherByteMakesItNone(t *testing.T) {
	for _, x := range told {
		for at := range strings.LastIndex(x.text, " ") {
			for other := range 256 {
				d := []byte(x.text)
				if d[at] == byte(other) {
					continue
				}
				d[at] = byte(other)
				f, err := frame.Read(string(d))
				if f != (api.Frame{}) || err != api.ErrText && err != api.ErrSum {
					t.Fatalf("%q: %v, %v", d, f, err)
				}
			}
		}
	}
}

func TestOneOtherByteMakesAnotherSum(t *testing.T) {
	for _, x := range told {
		sum := frame.Sum(x.text)
		for at := range len(x.text) {
			for other := range 256 {
				d := []byte(x.text)
				if d[at] == byte(other) {
					continue
				}
				d[at] = byte(other)
				if frame.Sum(string(d)) == sum {
					t.Fatalf("%q has the sum of %q", d, x.text)
				}
			}
		}
	}
}

func TestWhatIsReadIsMadeSo(t *testing.T) {
	signs := []string{"", "-", "+", ",", " ", "0", "1", "2"}
	for _, a := range signs {
		for _, b := range signs {
			for _, c := range signs {
				for _, s := range []string{"frame " + a + b + c + " 1,2 0 0 0", "frame 1 " + a + b + c + " 0 0 0", "frame 1 1 " + a + b + c + " 0 0", "frame 1 1 0 0 " + a + b + c} {
					f, err := frame.Read(summed(s))
					if err != nil {
						continue
					}
					if again, err := frame.Make(f); again != summed(s) || err != nil {
						t.Errorf("%q is read as %v", s, f)
					}
				}
			}
		}
	}
}
