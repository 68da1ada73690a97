package script

import (
	"strconv"
	"strings"

	"deedbox/api"
	"deedbox/row"
)

const (
	comma   = "," // between a line's rows, or keys
	colon   = ":" // between what a row has
	noItems = "-" // of a line's list

	nothing = "nothing" // of an answer's list
)

func items(word string) []string {
	if word == noItems {
		return nil
	}
	return strings.Split(word, comma)
}

func readKeys(word string) ([]int, bool) { return row.Numbers(items(word)) }

// readRows as they are written. Whether they are right is for the lake to tell, which asks for the index ahead of them.
func readRows(word string) ([]api.Row, bool) {
	var l []api.Row
	for _, item := range items(word) {
		words := strings.Split(item, colon)
		if len(words) != 3 {
			return nil, false
		}
		n, ok := row.Numbers(words[1:])
		if !ok {
			return nil, false
		}
		l = append(l, api.Row{Part: words[0], Key: n[0], Val: n[1]})
	}
	return l, true
}

func number(n int, err error) (string, error) {
	if err != nil {
		return "", err
	}
	return strconv.Itoa(n), nil
}

func done(err error) (string, error) {
	if err != nil {
		return "", err
	}
	return "ok", nil
}

func rows(l []api.Row, err error) (string, error) {
	if err != nil {
		return "", err
	}
	return joined(l, func(r api.Row) string { return strings.ReplaceAll(row.Text(r), blank, colon) }), nil
}

func ids(l []int) string { return joined(l, strconv.Itoa) }

func paths(l []api.File) string {
	return joined(l, func(f api.File) string { return f.Path })
}

func joined[T any](l []T, word func(T) string) string {
	if len(l) == 0 {
		return nothing
	}
	words := make([]string, len(l))
	for i, item := range l {
		words[i] = word(item)
	}
	return strings.Join(words, blank)
}
