package script

import (
	"errors"
	"strings"
	"testing"

	"deedbox/api"
)

// pair of a line and its answer; an error's answer is its last word and `!`.
type pair struct{ line, answer string }

// pairs: one a text line, `LINE = ANSWER`.
func pairs(text string) []pair {
	var l []pair
	for s := range strings.Lines(text) {
		line, answer, found := strings.Cut(strings.Trim(s, "\t\n"), " = ")
		if found {
			l = append(l, pair{line, answer})
		}
	}
	return l
}

func answerOf(word string) string {
	if short, isError := strings.CutSuffix(word, "!"); isError {
		return "deedbox: " + short
	}
	return word
}

func played(t *testing.T, spec string, lines []string) []string {
	t.Helper()
	l, err := Play(spec, lines)
	if err != nil {
		t.Fatalf("Play of %q: %v", lines, err)
	}
	if len(l) != len(lines) {
		t.Fatalf("Play of %q: %d answers of %d lines", lines, len(l), len(lines))
	}
	return l
}

func check(t *testing.T, spec string, l []pair) {
	t.Helper()
	var lines []string
	for _, p := range l {
		lines = append(lines, p.line)
	}
	for i, got := range played(t, spec, lines) {
		if want := answerOf(l[i].answer); got != want {
			t.Errorf("%d %q: %q, not %q", i, l[i].line, got, want)
		}
	}
}

func checkText(t *testing.T, spec, text string) {
	t.Helper()
	l := pairs(text)
	if len(l) == 0 {
		t.Fatal("no pairs")
	}
	check(t, spec, l)
}

// wrong: Play answers just this error, without a place, and nothing else.
func wrong(t *testing.T, spec string, lines []string, want error) {
	t.Helper()
	l, err := Play(spec, lines)
	var f *api.Fault
	if !errors.Is(err, want) || errors.As(err, &f) || l != nil {
		t.Errorf("Play by %q of %d lines: %v, %v, not %v", spec, len(lines), l, err, want)
	}
}
