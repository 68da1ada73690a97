package data

import (
	"strconv"
	"strings"

	"deedbox/api"
	"deedbox/row"
)

// What files of rows and files of keys have in common stands here: a head, its sum, and lines of which each has a key.

const lineEnd = "\n"

// head is what a file's first line says of the lines behind it, the sum aside.
type head struct {
	n, lo, hi int
}

// count one more line. Keys need not rise: rows stand by their parts first.
func (h *head) count(key int) {
	if h.n == 0 || key < h.lo {
		h.lo = key
	}
	if h.n == 0 || key > h.hi {
		h.hi = key
	}
	h.n++
}

func (h head) text(kind string, sum uint32) string {
	words := []string{kind, strconv.Itoa(h.n), strconv.Itoa(h.lo), strconv.Itoa(h.hi), strconv.FormatUint(uint64(sum), 10)}
	return strings.Join(words, " ")
}

// readHead answers the sum as an int, since a text may say one that no sum is.
func readHead(kind, line string) (h head, sum int, ok bool) {
	words := strings.Split(line, " ")
	if len(words) != 5 || words[0] != kind {
		return head{}, 0, false
	}
	numbers, ok := row.Numbers(words[1:])
	if !ok {
		return head{}, 0, false
	}
	return head{n: numbers[0], lo: numbers[1], hi: numbers[2]}, numbers[3], true
}

// WriteLines makes a file of that kind, of things in their order; line answers a thing's text and its key.
func WriteLines[T any](kind string, l []T, line func(T) (string, int)) string {
	var h head
	var b strings.Builder
	for _, x := range l {
		text, key := line(x)
		h.count(key)
		b.WriteString(text)
		b.WriteString(lineEnd)
	}
	body := b.String()
	return h.text(kind, Sum(body)) + lineEnd + body
}

// ReadLines of a file of that kind; take answers a line's key, or what is wrong with it. What it took counts only where there is no error.
func ReadLines(kind, s string, take func(line string) (int, error)) error {
	if len(s) > api.MaxText {
		return api.ErrBound
	}
	first, body, ended := strings.Cut(s, lineEnd)
	said, sum, ok := readHead(kind, first)
	if !ended || !ok {
		return api.ErrText
	}
	if sum != int(Sum(body)) {
		return api.ErrSum
	}
	var h head
	err := EachLine(body, func(line string) error {
		key, err := take(line)
		if err != nil {
			return err
		}
		h.count(key)
		return nil
	})
	if err != nil {
		return err
	}
	if h.n > api.MaxRows {
		return api.ErrFull
	}
	if h != said {
		return api.ErrShape
	}
	return nil
}

// EachLine hands every line to take, up to the first that has no end or is refused; the error has that line's place.
func EachLine(s string, take func(line string) error) error {
	for at := 0; s != ""; at++ {
		line, rest, ended := strings.Cut(s, lineEnd)
		if !ended {
			return &api.Fault{At: at, Err: api.ErrText}
		}
		if err := take(line); err != nil {
			return &api.Fault{At: at, Err: err}
		}
		s = rest
	}
	return nil
}
