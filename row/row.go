// Package row: rows: see ../shared/doc/01-row.md.
package row

import (
	"cmp"
	"slices"
	"strconv"
	"strings"

	"deedbox/api"
)

// maxSigns of a number: the longest one that is in bounds has as many, its `-` too.
const maxSigns = 11

// Name: is a text one?
func Name(s string) bool { return Word(s, api.MaxName) }

// Word: has a text 1 to most signs, all of them a name's? A name is one; the layers above have longer ones.
func Word(s string, most int) bool {
	if len(s) < 1 || len(s) > most {
		return false
	}
	for i := 0; i < len(s); i++ {
		if !nameByte(s[i]) {
			return false
		}
	}
	return true
}

func nameByte(b byte) bool {
	return 'a' <= b && b <= 'z' || '0' <= b && b <= '9'
}

// Check a row.
func Check(r api.Row) error {
	if !Name(r.Part) {
		return api.ErrName
	}
	if !InBounds(r.Key) || !InBounds(r.Val) {
		return api.ErrBound
	}
	return nil
}

// InBounds: may a number be a key, or a value?
func InBounds(n int) bool {
	return -api.MaxNum <= n && n <= api.MaxNum
}

// Text of a row.
func Text(r api.Row) string {
	if Check(r) != nil {
		return ""
	}
	return r.Part + " " + strconv.Itoa(r.Key) + " " + strconv.Itoa(r.Val)
}

// Read a row.
func Read(s string) (api.Row, error) {
	words := strings.Split(s, " ")
	if len(words) != 3 {
		return api.Row{}, api.ErrText
	}
	numbers, ok := Numbers(words[1:])
	if !ok {
		return api.Row{}, api.ErrText
	}
	r := api.Row{Part: words[0], Key: numbers[0], Val: numbers[1]}
	if err := Check(r); err != nil {
		return api.Row{}, err
	}
	return r, nil
}

// Number that a word is, if it is one. Bounds are not its matter: it is for every text with numbers as a row's.
func Number(s string) (int, bool) {
	if len(s) > maxSigns {
		return 0, false
	}
	n, err := strconv.Atoi(s)
	// Atoi takes more than is a number here (+1, 007, -0): none of that is what would be written.
	if err != nil || strconv.Itoa(n) != s {
		return 0, false
	}
	return n, true
}

// Numbers that words are, if all of them are.
func Numbers(words []string) ([]int, bool) {
	numbers := make([]int, len(words))
	for i, word := range words {
		n, ok := Number(word)
		if !ok {
			return nil, false
		}
		numbers[i] = n
	}
	return numbers, true
}

// Less: does a row come ahead of another one?
func Less(a, b api.Row) bool { return order(a, b) < 0 }

func order(a, b api.Row) int {
	return cmp.Or(strings.Compare(a.Part, b.Part), cmp.Compare(a.Key, b.Key), cmp.Compare(a.Val, b.Val))
}

// Sort rows.
func Sort(l []api.Row) []api.Row {
	sorted := slices.Clone(l)
	slices.SortFunc(sorted, order)
	return sorted
}

// Same rows, in any order?
func Same(a, b []api.Row) bool {
	return slices.Equal(Sort(a), Sort(b))
}

// Drop rows of some keys.
func Drop(l []api.Row, keys []int) []api.Row {
	rising := slices.Clone(keys)
	slices.Sort(rising)
	return cut(l, func(r api.Row) bool {
		_, dropped := slices.BinarySearch(rising, r.Key)
		return !dropped
	})
}

// Within: rows of some keys.
func Within(l []api.Row, lo, hi int) []api.Row {
	return cut(l, func(r api.Row) bool { return lo <= r.Key && r.Key <= hi })
}

// cut makes a list anew, and never within the old one: that one is only lent.
func cut(l []api.Row, keep func(api.Row) bool) []api.Row {
	var kept []api.Row
	for _, r := range l {
		if keep(r) {
			kept = append(kept, r)
		}
	}
	return kept
}
