package tests

import (
	"regexp"
	"strings"
	"testing"
)

// textForm tells how lists are written, with a line for each element, to check what parses them.
type textForm[T any] struct {
	parse   func(string) ([]T, bool)
	isValid func([]T) bool
	// textOf writes the text of a valid list.
	textOf func([]T) string
	// lines matches the strings that consist of lines of valid elements.
	lines *regexp.Regexp
}

// check checks what is parsed from a string of any form.
func (f textForm[T]) check(t *testing.T, s string) {
	t.Helper()
	list, ok := f.parse(s)
	matches := f.lines.MatchString(s)
	if ok && (!matches || !f.isValid(list) || f.textOf(list) != s) || !ok && len(list) > 0 {
		t.Errorf("of %.80q: %v, %v", s, list, ok)
	}
	// A single line has no other one with which it could be at odds.
	if strings.Count(s, "\n") == 1 && ok != matches {
		t.Errorf("of %.80q: %v, %v", s, list, ok)
	}
}

// checkNone checks that nothing is parsed from a string.
func (f textForm[T]) checkNone(t *testing.T, s string) {
	t.Helper()
	if list, ok := f.parse(s); ok || len(list) != 0 {
		t.Errorf("of %.80q: %v, %v", s, list, ok)
	}
	f.check(t, s)
}

// checkCuts checks that the beginnings of a text are parsed exactly where a line ends.
func (f textForm[T]) checkCuts(t *testing.T, text string) {
	t.Helper()
	for i := range len(text) + 1 {
		ended := i == 0 || text[i-1] == '\n'
		if list, ok := f.parse(text[:i]); ok != ended || !ok && len(list) != 0 {
			t.Errorf("of %q: %v, %v", text[:i], list, ok)
		}
		f.check(t, text[:i])
	}
}
