// Package crew: crews: see ../shared/doc/01-crew.md.
package crew

import (
	"iter"
	"math/bits"
	"strconv"
	"strings"

	"bargelock/api"
)

const (
	everybody = 1<<api.MaxNodes - 1
	nobody    = "-"
	between   = ","
)

// Check a crew.
func Check(c int) error {
	if c < 0 || c > everybody {
		return api.ErrBound
	}
	return nil
}

// Of nodes.
func Of(l []int) (int, error) {
	c := 0
	for i, node := range l {
		b := bit(node)
		if b == 0 {
			return 0, &api.Fault{At: i, Err: api.ErrNode}
		}
		c |= b
	}
	return c, nil
}

// List of a crew.
func List(c int) []int {
	var l []int
	for node := range nodes(c) {
		l = append(l, node)
	}
	return l
}

// Has a crew a node?
func Has(c, node int) bool {
	return Check(c) == nil && c&bit(node) != 0
}

// Many nodes.
func Many(c int) int {
	if Check(c) != nil {
		return 0
	}
	return bits.OnesCount(uint(c))
}

// Both have these.
func Both(a, b int) (int, error) {
	if err := checkTwo(a, b); err != nil {
		return 0, err
	}
	return a & b, nil
}

// Either has these.
func Either(a, b int) (int, error) {
	if err := checkTwo(a, b); err != nil {
		return 0, err
	}
	return a | b, nil
}

// Less: one without the other one.
func Less(a, b int) (int, error) {
	if err := checkTwo(a, b); err != nil {
		return 0, err
	}
	return a &^ b, nil
}

// Text of a crew.
func Text(c int) string {
	if Check(c) != nil {
		return ""
	}
	if c == 0 {
		return nobody
	}
	var words []string
	for node := range nodes(c) {
		words = append(words, strconv.Itoa(node))
	}
	return strings.Join(words, between)
}

// Read a crew.
func Read(s string) (int, error) {
	if s == nobody {
		return 0, nil
	}
	c, last := 0, 0
	for more := true; more; {
		var word string
		word, s, more = strings.Cut(s, between)
		node := readNode(word)
		if node <= last {
			return 0, api.ErrText
		}
		c |= bit(node)
		last = node
	}
	return c, nil
}

// Most of numbers.
func Most(l []int) (int, int) {
	count := make(map[int]int)
	for _, n := range l {
		count[n]++
	}
	best, often := 0, 0
	// The list is gone through, not the map: of several that are as often the first one counts.
	for _, n := range l {
		if count[n] > often {
			best, often = n, count[n]
		}
	}
	return best, often
}

// nodes hands over the nodes of a crew, rising; none, if it is not right.
func nodes(c int) iter.Seq[int] {
	return func(yield func(int) bool) {
		if Check(c) != nil {
			return
		}
		for rest := uint(c); rest != 0; rest &= rest - 1 {
			if !yield(bits.TrailingZeros(rest) + 1) {
				return
			}
		}
	}
}

// bit of a node; 0, if it is none.
func bit(node int) int {
	if node < 1 || node > api.MaxNodes {
		return 0
	}
	return 1 << (node - 1)
}

func checkTwo(a, b int) error {
	if err := Check(a); err != nil {
		return err
	}
	return Check(b)
}

// readNode of a word; 0, if it is none.
func readNode(word string) int {
	node, err := strconv.Atoi(word)
	// Written again it must be the same: Atoi also takes a sign and needless zeros.
	if err != nil || strconv.Itoa(node) != word || bit(node) == 0 {
		return 0
	}
	return node
}
