package tests

import (
	"fmt"
	"math"
	"regexp"
	"slices"
	"strings"
	"testing"

	"loop.example/g00909/impl"
)

// insertion returns the Amendment that inserts words.
func insertion(at int, words ...string) impl.Amendment {
	return impl.Amendment{Kind: impl.AmendInsert, At: at, Words: words}
}

// strike returns the Amendment that strikes words, as its line says it.
func strike(count int, at int) impl.Amendment {
	return impl.Amendment{Kind: impl.AmendStrike, At: at, Count: count}
}

// replacement returns the Amendment that replaces words, as its line says it.
func replacement(count int, at int, words ...string) impl.Amendment {
	return impl.Amendment{Kind: impl.AmendReplace, At: at, Count: count, Words: words}
}

// textFrom returns n different words; no two of them are in two such texts with other starts.
func textFrom(start string, n int) []string {
	text := []string{}
	for i := range n {
		text = append(text, start+string(rune('a'+i/26%26))+string(rune('a'+i%26)))
	}
	return text
}

// fee is a text of four words.
func fee() []string { return []string{"the", "fee", "is", "ten"} }

// isAmendmentLine matches the lines of valid Amendments.
var isAmendmentLine = regexp.MustCompile(
	`\A(strike [1-5] at ([0-9]|1[0-9]|20)|(insert|replace [1-5]) at ([0-9]|1[0-9]|20):( [a-z]{1,10}){1,5})\z`)

// lineOfAmendment writes the line of an Amendment, which is one of a valid Amendment only if it is
// valid and none of its Words has a space.
func lineOfAmendment(a impl.Amendment) string {
	line := map[int]string{impl.AmendInsert: "insert", impl.AmendStrike: "strike", impl.AmendReplace: "replace"}[a.Kind]
	if a.Kind != impl.AmendInsert || a.Count != 0 {
		line += fmt.Sprint(" ", a.Count)
	}
	line += fmt.Sprint(" at ", a.At)
	if len(a.Words) > 0 {
		line += ":"
	}
	for _, word := range a.Words {
		line += " " + word
	}
	return line
}

// isAmendment reports whether an Amendment is valid.
func isAmendment(a impl.Amendment) bool {
	for _, word := range a.Words {
		if !isTitle.MatchString(word) {
			return false
		}
	}
	return isAmendmentLine.MatchString(lineOfAmendment(a))
}

// sameAmendment reports whether two Amendments are equal.
func sameAmendment(a impl.Amendment, b impl.Amendment) bool {
	return a.Kind == b.Kind && a.At == b.At && a.Count == b.Count && slices.Equal(a.Words, b.Words)
}

// sameAmendments reports whether two lists of Amendments are equal.
func sameAmendments(a []impl.Amendment, b []impl.Amendment) bool {
	return slices.EqualFunc(a, b, sameAmendment)
}

// amended goes through a text word by word and returns what it becomes by a valid Amendment, and
// its inverse; it fails if the Amendment does not fit.
func amended(text []string, a impl.Amendment) ([]string, impl.Amendment, bool) {
	result, struck, reached := []string{}, []string{}, false
	for place := 0; place <= len(text); place++ {
		if place == a.At {
			reached = true
			result = append(result, a.Words...)
		}
		if place == len(text) {
			break
		}
		if place < a.At || place-a.At >= a.Count {
			result = append(result, text[place])
		} else {
			struck = append(struck, text[place])
		}
	}
	if !reached || len(struck) != a.Count || len(result) > 20 || slices.Equal(result, text) {
		return nil, impl.Amendment{}, false
	}
	inverse := map[int]impl.Amendment{
		impl.AmendInsert:  strike(len(a.Words), a.At),
		impl.AmendStrike:  insertion(a.At, struck...),
		impl.AmendReplace: replacement(len(a.Words), a.At, struck...),
	}[a.Kind]
	return result, inverse, true
}

// checkText checks the text that a call returns; where it has to fail, want is nil.
func checkText(t *testing.T, call string, got []string, ok bool, want []string, fine bool) {
	t.Helper()
	if ok != fine || !slices.Equal(got, want) {
		t.Errorf("%s: %.100q, %v; want %q, %v", call, got, ok, want, fine)
	}
}

// checkIsAmendment checks the Amendment that a call returns.
func checkIsAmendment(t *testing.T, call string, got impl.Amendment, ok bool, want impl.Amendment, fine bool) {
	t.Helper()
	if ok != fine || !sameAmendment(got, want) {
		t.Errorf("%s: %v, %v; want %v, %v", call, got, ok, want, fine)
	}
}

// checkAmendment checks all that is done with an Amendment of any kind and a text.
func checkAmendment(t *testing.T, text []string, a impl.Amendment) {
	t.Helper()
	if !isAmendment(a) {
		checkNoAmendment(t, text, a)
		return
	}
	if !impl.IsValidAmendment(a) {
		t.Errorf("not valid: %v", a)
	}
	want, inverse, fits := amended(text, a)
	if got, ok := impl.FitsText(text, a); got != fits || !ok {
		t.Errorf("FitsText of %v to %v: %v, %v; want %v", a, text, got, ok, fits)
	}
	got, ok := impl.ApplyAmendment(text, a)
	checkText(t, fmt.Sprint("ApplyAmendment ", a, " to ", text), got, ok, want, fits)
	back, ok := impl.InverseAmendment(text, a)
	checkIsAmendment(t, fmt.Sprint("InverseAmendment of ", a, " to ", text), back, ok, inverse, fits)
	if fits {
		checkLeadsBack(t, text, a)
	}
}

// checkLeadsBack checks that the inverse of an Amendment that fits leads back, and its own inverse
// forth again.
func checkLeadsBack(t *testing.T, text []string, a impl.Amendment) {
	t.Helper()
	after, _ := impl.ApplyAmendment(text, a)
	inverse, _ := impl.InverseAmendment(text, a)
	if !impl.IsText(after) || !impl.IsValidAmendment(inverse) || inverse.At != a.At {
		t.Errorf("%v to %v: %v, inverse %v", a, text, after, inverse)
	}
	if fits, ok := impl.FitsText(after, inverse); !fits || !ok {
		t.Errorf("the inverse %v of %v does not fit %v", inverse, a, after)
	}
	before, ok := impl.ApplyAmendment(after, inverse)
	checkText(t, fmt.Sprint("back by ", inverse), before, ok, text, true)
	again, ok := impl.InverseAmendment(after, inverse)
	checkIsAmendment(t, fmt.Sprint("inverse of ", inverse), again, ok, a, true)
}

// checkNoAmendment checks that every function fails for an Amendment that is not valid.
func checkNoAmendment(t *testing.T, text []string, a impl.Amendment) {
	t.Helper()
	if impl.IsValidAmendment(a) {
		t.Errorf("valid: %.200v", a)
	}
	if line, ok := impl.AmendmentLine(a); ok || line != "" {
		t.Errorf("AmendmentLine of %.200v: %q, %v", a, line, ok)
	}
	checkFailures(t, text, a)
	history := []impl.Amendment{a}
	checkNoHistory(t, text, history)
	checkNoHistory(t, text, append(history, insertion(0, "x")))
	// Even where the list would not be followed up to it.
	checkNoHistory(t, text, []impl.Amendment{insertion(0, "x"), strike(5, 20), a})
}

// checkFailures checks that a text or an Amendment which is not valid is not amended.
func checkFailures(t *testing.T, text []string, a impl.Amendment) {
	t.Helper()
	if fits, ok := impl.FitsText(text, a); ok || fits {
		t.Errorf("FitsText of %.200v to %.200v: %v, %v", a, text, fits, ok)
	}
	got, ok := impl.ApplyAmendment(text, a)
	checkText(t, "ApplyAmendment", got, ok, nil, false)
	inverse, ok := impl.InverseAmendment(text, a)
	checkIsAmendment(t, "InverseAmendment", inverse, ok, impl.Amendment{}, false)
}

// checkNoHistory checks that nothing is rebuilt and nothing undone.
func checkNoHistory(t *testing.T, text []string, list []impl.Amendment) {
	t.Helper()
	got, n, ok := impl.RebuildText(text, list)
	checkText(t, "RebuildText", got, ok, nil, false)
	undo, fine := impl.UndoAmendments(text, list)
	if n != 0 || fine || len(undo) != 0 {
		t.Errorf("of %.200v by %.200v: %d applied; undo %v, %v", text, list, n, undo, fine)
	}
}

// checkNoText checks that every function fails for a list that is no text.
func checkNoText(t *testing.T, name string, text []string) {
	t.Helper()
	if impl.IsText(text) {
		t.Errorf("%s: a text: %.200q", name, text)
	}
	for _, a := range []impl.Amendment{
		insertion(0, "x"), insertion(20, "x"), strike(1, 0), strike(5, 16), replacement(1, 0, "x"), replacement(2, 1, "x", "y"),
	} {
		checkFailures(t, text, a)
		checkNoHistory(t, text, []impl.Amendment{a})
	}
	checkNoHistory(t, text, nil)
	for _, other := range [][]string{nil, {"x"}, textFrom("w", 20), text[:min(len(text), 20)], text} {
		change, ok := impl.SingleChange(text, other)
		checkIsAmendment(t, name, change, ok, impl.Amendment{}, false)
		change, ok = impl.SingleChange(other, text)
		if !impl.IsText(other) || !impl.IsText(text) {
			checkIsAmendment(t, name, change, ok, impl.Amendment{}, false)
		}
	}
}

// checkHistory checks what is rebuilt from a text, and what is undone.
func checkHistory(t *testing.T, text []string, list []impl.Amendment) {
	t.Helper()
	if len(list) > 8 || slices.ContainsFunc(list, func(a impl.Amendment) bool { return !isAmendment(a) }) {
		checkNoHistory(t, text, list)
		return
	}
	want, undo := slices.Clone(text), []impl.Amendment{}
	for _, a := range list {
		next, inverse, fits := amended(want, a)
		if !fits {
			break
		}
		want, undo = next, append([]impl.Amendment{inverse}, undo...)
	}
	got, n, ok := impl.RebuildText(text, list)
	checkText(t, fmt.Sprint("RebuildText of ", text, " by ", list), got, ok, want, true)
	if n != len(undo) {
		t.Errorf("RebuildText of %v by %v: %d applied; want %d", text, list, n, len(undo))
	}
	all := len(undo) == len(list)
	if !all {
		undo = nil
	}
	back, ok := impl.UndoAmendments(text, list)
	if ok != all || !sameAmendments(back, undo) {
		t.Errorf("UndoAmendments of %v by %v: %v, %v; want %v, %v", text, list, back, ok, undo, all)
	}
	if all {
		before, m, ok := impl.RebuildText(got, back)
		checkText(t, fmt.Sprint("undone by ", back), before, ok && m == len(back), text, true)
	}
}

// changeBetween tries all beginnings and ends that two texts have in common, the longest beginnings
// first, and returns the Amendment that leads from the one to the other.
func changeBetween(a []string, b []string) (impl.Amendment, bool) {
	for begin := len(a); begin >= 0; begin-- {
		for end := len(a) - begin; end >= 0; end-- {
			if begin+end > len(b) || !slices.Equal(a[:begin], b[:begin]) || !slices.Equal(a[len(a)-end:], b[len(b)-end:]) {
				continue
			}
			words := b[begin : len(b)-end]
			for _, change := range []impl.Amendment{
				insertion(begin, words...), strike(len(a)-begin-end, begin), replacement(len(a)-begin-end, begin, words...),
			} {
				if got, _, fits := amended(a, change); isAmendment(change) && fits && slices.Equal(got, b) {
					return change, true
				}
			}
			return impl.Amendment{}, false
		}
	}
	return impl.Amendment{}, false
}

// checkChange checks the change from one text to another one, and that back.
func checkChange(t *testing.T, a []string, b []string) {
	t.Helper()
	want, fine := changeBetween(a, b)
	change, ok := impl.SingleChange(a, b)
	checkIsAmendment(t, fmt.Sprint("SingleChange from ", a, " to ", b), change, ok, want, fine)
	back, fineToo := impl.SingleChange(b, a)
	if !ok {
		checkIsAmendment(t, fmt.Sprint("SingleChange from ", b, " to ", a), back, fineToo, impl.Amendment{}, false)
		return
	}
	got, ok := impl.ApplyAmendment(a, change)
	checkText(t, fmt.Sprint("changed by ", change), got, ok, b, true)
	inverse, ok := impl.InverseAmendment(a, change)
	checkIsAmendment(t, fmt.Sprint("SingleChange from ", b, " to ", a), back, fineToo && ok, inverse, true)
}

// eachText calls visit with all lists of at most so many of these words.
func eachText(most int, words []string, visit func([]string)) {
	list := []string{}
	var fill func()
	fill = func() {
		visit(slices.Clone(list))
		if len(list) == most {
			return
		}
		for _, word := range words {
			list = append(list, word)
			fill()
			list = list[:len(list)-1]
		}
	}
	fill()
}

func TestConstantsOfAmendments(t *testing.T) {
	if impl.MaxWords != 20 || impl.MaxPhrase != 5 || impl.MaxAmendments != 8 {
		t.Error("limits", impl.MaxWords, impl.MaxPhrase, impl.MaxAmendments)
	}
	if impl.AmendInsert != 1 || impl.AmendStrike != 2 || impl.AmendReplace != 3 {
		t.Error("kinds", impl.AmendInsert, impl.AmendStrike, impl.AmendReplace)
	}
}

func TestIsText(t *testing.T) {
	for _, text := range [][]string{
		nil, {}, {"a"}, {"z"}, {"abcdefghij"}, {"at", "at"}, {"insert", "strike", "replace", "at"}, fee(),
		textFrom("w", 5), textFrom("w", 6), textFrom("w", 19), textFrom("w", 20), slices.Repeat([]string{"a"}, 20),
	} {
		if !impl.IsText(text) {
			t.Errorf("no text: %q", text)
		}
		checkHistory(t, text, nil)
	}
	for _, n := range []int{21, 22, 40, 256, 100000} {
		checkNoText(t, fmt.Sprint(n, " words"), textFrom("w", n))
	}
	for _, word := range noWords {
		checkNoText(t, "alone", []string{word})
		for _, at := range []int{0, 7, 19} {
			text := textFrom("w", 20)
			text[at] = word
			checkNoText(t, fmt.Sprintf("%.20q at %d", word, at), text)
		}
	}
}

func TestEveryByteInATextAndAPhrase(t *testing.T) {
	for c := range 256 {
		for _, word := range []string{string([]byte{byte(c)}), string([]byte{'a', byte(c)}), string([]byte{byte(c), 'z'})} {
			if want := c >= 'a' && c <= 'z'; impl.IsText([]string{"a", word}) != want {
				t.Errorf("in a text: %q", word)
			}
			checkAmendment(t, fee(), insertion(1, word))
			checkAmendment(t, fee(), replacement(1, 1, word, "a"))
			checkAmendment(t, fee(), replacement(1, 1, "a", word))
		}
	}
}

func TestValidAmendments(t *testing.T) {
	for name, a := range map[string]impl.Amendment{
		"insertion of one word":              insertion(0, "a"),
		"insertion of MaxPhrase words":       insertion(0, textFrom("x", 5)...),
		"insertion of equal words":           insertion(0, "a", "a", "a"),
		"insertion at MaxWords":              insertion(20, "abcdefghij"),
		"strike of one word":                 strike(1, 0),
		"strike of MaxPhrase words":          strike(5, 0),
		"strike at MaxWords, of no text":     strike(5, 20),
		"strike with an empty slice":         {Kind: impl.AmendStrike, Count: 1, Words: []string{}},
		"replacement of one word":            replacement(1, 0, "a"),
		"replacement of MaxPhrase words":     replacement(5, 0, "a"),
		"replacement by MaxPhrase words":     replacement(1, 0, textFrom("x", 5)...),
		"replacement at MaxWords":            replacement(5, 20, textFrom("x", 5)...),
		"replacement by words of the line":   replacement(2, 3, "insert", "at", "strike", "at", "replace"),
		"insertion before the last possible": insertion(19, "a"),
	} {
		if !isAmendment(a) {
			t.Error("wrong test:", name)
		}
		if !impl.IsValidAmendment(a) {
			t.Error("not valid:", name)
		}
		for _, n := range []int{0, 1, 4, 19, 20} {
			checkAmendment(t, textFrom("w", n), a)
		}
	}
}

// invalidAmendments returns Amendments that are not valid, by what is wrong with them.
func invalidAmendments() map[string]impl.Amendment {
	return map[string]impl.Amendment{
		"zero":                             {},
		"zero Kind":                        {At: 1, Count: 1, Words: []string{"a"}},
		"Kind above the last":              {Kind: 4, At: 1, Count: 1, Words: []string{"a"}},
		"Kind above the last, no Count":    {Kind: 4, At: 1, Words: []string{"a"}},
		"Kind above the last, no Words":    {Kind: 4, At: 1, Count: 1},
		"negative Kind":                    {Kind: -1, At: 1, Words: []string{"a"}},
		"great Kind":                       {Kind: 1<<32 + 1, At: 1, Words: []string{"a"}},
		"greatest Kind":                    {Kind: math.MaxInt, At: 1, Count: 1},
		"insertion without Words":          insertion(1),
		"insertion with a Count":           {Kind: impl.AmendInsert, At: 1, Count: 1, Words: []string{"a"}},
		"insertion with a negative Count":  {Kind: impl.AmendInsert, At: 1, Count: -1, Words: []string{"a"}},
		"insertion with a great Count":     {Kind: impl.AmendInsert, At: 1, Count: 1 << 32, Words: []string{"a"}},
		"insertion of too many Words":      insertion(1, textFrom("x", 6)...),
		"insertion of very many Words":     insertion(1, textFrom("x", 100000)...),
		"insertion before the first":       insertion(-1, "a"),
		"insertion above MaxWords":         insertion(21, "a"),
		"insertion far below":              insertion(math.MinInt, "a"),
		"insertion far above":              insertion(math.MaxInt, "a"),
		"strike with Words":                {Kind: impl.AmendStrike, At: 1, Count: 1, Words: []string{"a"}},
		"strike with words struck":         {Kind: impl.AmendStrike, At: 1, Count: 2, Words: []string{"fee", "is"}},
		"strike without a Count":           strike(0, 1),
		"strike of a negative Count":       strike(-1, 1),
		"strike of more than MaxPhrase":    strike(6, 0),
		"strike of the least Count":        strike(math.MinInt, 1),
		"strike of the greatest Count":     strike(math.MaxInt, 1),
		"strike before the first":          strike(1, -1),
		"strike above MaxWords":            strike(1, 21),
		"strike far above":                 strike(1, math.MaxInt),
		"replacement without Words":        replacement(1, 1),
		"replacement without a Count":      replacement(0, 1, "a"),
		"replacement of a negative Count":  replacement(-1, 1, "a"),
		"replacement of too many":          replacement(6, 0, "a"),
		"replacement by too many":          replacement(1, 1, textFrom("x", 6)...),
		"replacement of the greatest":      replacement(math.MaxInt, 1, "a"),
		"replacement before the first":     replacement(1, -1, "a"),
		"replacement above MaxWords":       replacement(1, 21, "a"),
		"replacement far below":            replacement(1, math.MinInt, "a"),
		"replacement by nothing and of it": replacement(0, 1),
	}
}

func TestInvalidAmendments(t *testing.T) {
	for name, a := range invalidAmendments() {
		if isAmendment(a) {
			t.Error("wrong test:", name)
		}
		for _, text := range [][]string{nil, fee(), textFrom("w", 20)} {
			checkNoAmendment(t, text, a)
		}
	}
	for _, word := range noWords {
		for _, words := range [][]string{{word}, {word, "a", "b"}, {"a", word, "b"}, {"a", "b", "c", "d", word}} {
			checkNoAmendment(t, fee(), insertion(1, words...))
			checkNoAmendment(t, fee(), replacement(1, 1, words...))
		}
		checkNoAmendment(t, fee(), impl.Amendment{Kind: impl.AmendStrike, At: 1, Count: 1, Words: []string{word}})
	}
}

func TestEveryShapeOfAnAmendment(t *testing.T) {
	for n := range 21 {
		text := textFrom("w", n)
		for kind := range 5 {
			for at := -1; at <= 22; at++ {
				for count := -1; count <= 7; count++ {
					for words := range 7 {
						checkAmendment(t, text, impl.Amendment{Kind: kind, At: at, Count: count, Words: textFrom("x", words)})
					}
				}
			}
		}
	}
}

func TestTheInverseOfAnAmendmentLeadsBack(t *testing.T) {
	led := 0
	eachText(4, []string{"a", "b"}, func(text []string) {
		eachText(3, []string{"a", "b"}, func(words []string) {
			for at := range 7 {
				for count := range 6 {
					for kind := impl.AmendInsert; kind <= impl.AmendReplace; kind++ {
						a := impl.Amendment{Kind: kind, At: at, Count: count, Words: words}
						checkAmendment(t, text, a)
						if _, ok := impl.InverseAmendment(text, a); ok {
							led++
						}
					}
				}
			}
		})
	})
	if led < 3000 {
		t.Error("only", led, "Amendments fit")
	}
}

// amendmentCase is a text, an Amendment that fits it, the amended text and the inverse.
type amendmentCase struct {
	text    string
	a       impl.Amendment
	want    string
	inverse impl.Amendment
}

func TestApplyAmendment(t *testing.T) {
	nineteen, sixteen := strings.Join(textFrom("w", 19), " "), strings.Join(textFrom("w", 16), " ")
	twenty, fifteen := strings.Join(textFrom("w", 20), " "), strings.Join(textFrom("w", 15), " ")
	for name, c := range map[string]amendmentCase{
		"insertion at the beginning":     {"the fee is ten", insertion(0, "now"), "now the fee is ten", strike(1, 0)},
		"insertion between":              {"the fee is ten", insertion(1, "yearly", "high"), "the yearly high fee is ten", strike(2, 1)},
		"insertion before the last word": {"the fee is ten", insertion(3, "not"), "the fee is not ten", strike(1, 3)},
		"insertion at the end":           {"the fee is ten", insertion(4, "or", "less"), "the fee is ten or less", strike(2, 4)},
		"insertion at the end of one":    {"fee", insertion(1, "fee"), "fee fee", strike(1, 1)},
		"insertion into an empty text":   {"", insertion(0, "all", "is", "new"), "all is new", strike(3, 0)},
		"insertion of MaxPhrase words":   {"a", insertion(0, "b", "c", "d", "e", "f"), "b c d e f a", strike(5, 0)},
		"insertion up to MaxWords":       {nineteen, insertion(19, "x"), nineteen + " x", strike(1, 19)},
		"insertion of five up to it":     {fifteen, insertion(15, "x", "x", "x", "x", "x"), fifteen + " x x x x x", strike(5, 15)},
		"insertion before up to it":      {nineteen, insertion(0, "x"), "x " + nineteen, strike(1, 0)},
		"strike of the first word":       {"the fee is ten", strike(1, 0), "fee is ten", insertion(0, "the")},
		"strike of the first words":      {"the fee is ten", strike(3, 0), "ten", insertion(0, "the", "fee", "is")},
		"strike between":                 {"the fee is ten", strike(2, 1), "the ten", insertion(1, "fee", "is")},
		"strike of the last word":        {"the fee is ten", strike(1, 3), "the fee is", insertion(3, "ten")},
		"strike of the last words":       {"the fee is ten", strike(2, 2), "the fee", insertion(2, "is", "ten")},
		"strike of all":                  {"the fee is ten", strike(4, 0), "", insertion(0, "the", "fee", "is", "ten")},
		"strike of the only word":        {"fee", strike(1, 0), "", insertion(0, "fee")},
		"strike of the last of MaxWords": {twenty, strike(1, 19), nineteen, insertion(19, "wat")},
		"strike of the last five of it":  {twenty, strike(5, 15), fifteen, insertion(15, "wap", "waq", "war", "was", "wat")},
		"replacement by fewer words":     {"the fee is ten", replacement(3, 1, "x"), "the x", replacement(1, 1, "fee", "is", "ten")},
		"replacement by as many words":   {"the fee is ten", replacement(2, 0, "our", "due"), "our due is ten", replacement(2, 0, "the", "fee")},
		"replacement by more words":      {"the fee is ten", replacement(1, 3, "up", "to", "six"), "the fee is up to six", replacement(3, 3, "ten")},
		"replacement of all":             {"the fee", replacement(2, 0, "x", "y", "z"), "x y z", replacement(3, 0, "the", "fee")},
		"replacement in a full text":     {twenty, replacement(1, 19, "x"), nineteen + " x", replacement(1, 19, "wat")},
		"replacement up to MaxWords":     {sixteen, replacement(1, 15, "a", "b", "c", "d", "e"), fifteen + " a b c d e", replacement(5, 15, "wap")},
		"replacement in another order":   {"a b", replacement(2, 0, "b", "a"), "b a", replacement(2, 0, "a", "b")},
		"replacement by a longer phrase": {"a b", replacement(1, 0, "a", "a"), "a a b", replacement(2, 0, "a")},
		"replacement by the beginning":   {"a b", replacement(2, 0, "a"), "a", replacement(1, 0, "a", "b")},
	} {
		text := strings.Fields(c.text)
		if fits, ok := impl.FitsText(text, c.a); !fits || !ok {
			t.Error(name, fits, ok)
		}
		got, ok := impl.ApplyAmendment(text, c.a)
		checkText(t, name, got, ok, strings.Fields(c.want), true)
		inverse, ok := impl.InverseAmendment(text, c.a)
		checkIsAmendment(t, name, inverse, ok, c.inverse, true)
		checkLeadsBack(t, text, c.a)
	}
}

func TestAmendmentsThatDoNotFit(t *testing.T) {
	twenty := textFrom("w", 20)
	for name, c := range map[string]struct {
		text []string
		a    impl.Amendment
	}{
		"insertion behind the end":            {fee(), insertion(5, "x")},
		"insertion behind the end of nothing": {nil, insertion(1, "x")},
		"insertion far behind the end":        {fee(), insertion(20, "x")},
		"insertion above MaxWords, first":     {twenty, insertion(0, "x")},
		"insertion above MaxWords, between":   {twenty, insertion(10, "x")},
		"insertion above MaxWords, last":      {twenty, insertion(20, "x")},
		"insertion of five above MaxWords":    {twenty[:16], insertion(16, "a", "b", "c", "d", "e")},
		"strike of nothing":                   {nil, strike(1, 0)},
		"strike at the end":                   {fee(), strike(1, 4)},
		"strike at MaxWords":                  {twenty, strike(1, 20)},
		"strike one word past the end":        {fee(), strike(3, 2)},
		"strike of all and one more":          {fee(), strike(5, 0)},
		"strike one past the end of MaxWords": {twenty, strike(5, 16)},
		"replacement of nothing":              {nil, replacement(1, 0, "x")},
		"replacement at the end":              {fee(), replacement(1, 4, "x")},
		"replacement one word past the end":   {fee(), replacement(2, 3, "x")},
		"replacement one past the end, same":  {fee(), replacement(2, 3, "ten")},
		"replacement by the same word":        {fee(), replacement(1, 3, "ten")},
		"replacement by the same words":       {fee(), replacement(2, 1, "fee", "is")},
		"replacement of all by the same":      {fee(), replacement(4, 0, "the", "fee", "is", "ten")},
		"replacement above MaxWords":          {twenty, replacement(1, 0, "x", "y")},
		"replacement of two above MaxWords":   {twenty[:19], replacement(2, 17, "a", "b", "c", "d")},
	} {
		if !impl.IsValidAmendment(c.a) {
			t.Error("not valid:", name)
		}
		if fits, ok := impl.FitsText(c.text, c.a); fits || !ok {
			t.Error(name, fits, ok)
		}
		checkAmendment(t, c.text, c.a)
	}
}

func TestAmendmentLine(t *testing.T) {
	for line, a := range map[string]impl.Amendment{
		"insert at 0: now":                  insertion(0, "now"),
		"insert at 20: abcdefghij":          insertion(20, "abcdefghij"),
		"insert at 10: a b c d e":           insertion(10, "a", "b", "c", "d", "e"),
		"insert at 9: at at":                insertion(9, "at", "at"),
		"insert at 1: insert at":            insertion(1, "insert", "at"),
		"strike 2 at 1":                     strike(2, 1),
		"strike 1 at 0":                     strike(1, 0),
		"strike 5 at 20":                    strike(5, 20),
		"replace 2 at 3: shall not":         replacement(2, 3, "shall", "not"),
		"replace 1 at 0: replace":           replacement(1, 0, "replace"),
		"replace 5 at 20: at strike at a z": replacement(5, 20, "at", "strike", "at", "a", "z"),
	} {
		if got, ok := impl.AmendmentLine(a); !ok || got != line {
			t.Errorf("AmendmentLine of %v: %q, %v; want %q", a, got, ok, line)
		}
		got, ok := impl.ParseAmendment(line)
		checkIsAmendment(t, line, got, ok, a, true)
	}
}

func TestAmendmentsAreRecoveredFromTheirLines(t *testing.T) {
	for kind := range 5 {
		for at := -1; at <= 22; at++ {
			for count := -1; count <= 7; count++ {
				for words := range 7 {
					a := impl.Amendment{Kind: kind, At: at, Count: count, Words: textFrom("x", words)}
					line := lineOfAmendment(a)
					checkParseAmendment(t, line)
					if isAmendment(a) {
						got, ok := impl.ParseAmendment(line)
						checkIsAmendment(t, line, got, ok, a, true)
					}
				}
			}
		}
	}
}

// checkParseAmendment checks what is parsed from a string of any form.
func checkParseAmendment(t *testing.T, s string) {
	t.Helper()
	a, ok := impl.ParseAmendment(s)
	if ok != isAmendmentLine.MatchString(s) || ok && lineOfAmendment(a) != s || !ok && !sameAmendment(a, impl.Amendment{}) {
		t.Errorf("ParseAmendment of %.200q: %v, %v", s, a, ok)
	}
	if line, fine := impl.AmendmentLine(a); fine != ok || ok && line != s {
		t.Errorf("AmendmentLine of what is parsed from %.200q: %.200q, %v", s, line, fine)
	}
}

func TestParseAmendmentInvalid(t *testing.T) {
	for _, s := range []string{
		"", " ", ":", ": ", ": a", "at", " at ", "insert", "insert at", "insert at ", "strike at 1", "replace at 1: a",
		"insert at 0", "insert at 0:", "insert at 0: ", "insert at 0:a", "insert at 0 a", "insert at 0 : a", "insert at 0:: a",
		"insert at 0: :", "insert at 0: a:", "insert at 0: a: b", "insert at 0: a\n", "\ninsert at 0: a", "insert at 0:\ta",
		"insert  at 0: a", "insert at  0: a", "insert at 0:  a", "insert at 0: a  b", "insert at 0: a ", " insert at 0: a",
		"insert at +1: a", "insert at -1: a", "insert at -0: a", "insert at 00: a", "insert at 01: a", "insert at 21: a",
		"insert at 020: a", "insert at x: a", "insert at : a", "insert at: a", "insert at 1 at 2: a", "insert at 1.0: a",
		"insert at 999999: a", "insert at 1000000: a", "insert at 99999999999999999999: a", "insert at 18446744073709551617: a",
		"insert 0 at 1: a", "insert 1 at 1: a", "insert at at 1: a", "insert at 1: A", "insert at 1: a1", "insert at 1: abcdefghijk",
		"insert at 1: a b c d e f", "Insert at 1: a", "insert At 1: a", "inserts at 1: a", "inser at 1: a", "insert 1: a",
		"strike 2 at 1:", "strike 2 at 1: ", "strike 2 at 1: x", "strike 2 at 1 x", "strike 2 at 1 ", " strike 2 at 1", "strike 2  at 1",
		"strike  2 at 1", "strike 2 at  1", "strike 0 at 1", "strike 6 at 1", "strike -1 at 1", "strike +1 at 1", "strike 01 at 1",
		"strike 1 at 01", "strike 1 at -1", "strike 1 at +1", "strike 1 at 21", "strike 1 at -0", "strike 1 at", "strike 1 at ",
		"strike 1 1", "strike 1", "strike x at 1", "strike 1 at x", "strike 1 at 1 at 1", "strike 1 1 at 1", "strike", "strike 2 at 1\n",
		"strike 99999999999999999999 at 1", "strike 1 at 99999999999999999999", "STRIKE 1 at 1", "delete 1 at 1",
		"replace 2 at 3", "replace 2 at 3:", "replace 2 at 3: ", "replace 2 at 3 shall not", "replace 2 at 3:shall", "replace 0 at 3: x",
		"replace 6 at 3: x", "replace -2 at 3: x", "replace 02 at 3: x", "replace 2 at 21: x", "replace 2 at 03: x", "replace at 3: x",
		"replace  2 at 3: x", "replace 2 at 3: x  y", "replace 2 at 3: a b c d e f", "replace 2 at 3: x,", "replace 2 at 3: x y:",
		"replace 2 at 3: \u00e9", "replace two at 3: x", "strike 2 at 1; strike 2 at 1", "insert at 0: a\x00",
		"insert at 0: " + strings.Repeat("a", 100000), "insert at 0:" + strings.Repeat(" a", 100000), strings.Repeat(" ", 100000),
		"strike " + strings.Repeat("0", 100000) + "1 at 1", "strike 1 at 1" + strings.Repeat(" ", 100000), strings.Repeat(": ", 100000),
		"strike 1 at 1: " + strings.Repeat("a ", 4000), strings.Repeat(" at ", 100000),
	} {
		if isAmendmentLine.MatchString(s) {
			t.Errorf("wrong test: %.100q", s)
		}
		checkParseAmendment(t, s)
	}
}

func TestParseAmendmentWithEveryNumber(t *testing.T) {
	for n := -30; n <= 1030; n++ {
		for _, form := range []string{"insert at %d: a", "strike %d at 1", "strike 1 at %d", "replace %d at 1: a", "replace 1 at %d: a", "insert %d at 0: a"} {
			checkParseAmendment(t, fmt.Sprintf(form, n))
			checkParseAmendment(t, strings.Replace(fmt.Sprintf(form, n), "-", "0", 1))
			checkParseAmendment(t, strings.Replace(fmt.Sprintf(form, n), "-", "+", 1))
		}
	}
}

func TestParseAmendmentOnChangedLines(t *testing.T) {
	for _, line := range []string{
		"insert at 0: now", "insert at 20: a b c d e", "strike 2 at 1", "strike 5 at 19", "replace 2 at 3: shall not", "replace 1 at 10: at at",
	} {
		checkParseAmendment(t, line)
		eachChange(line, func(s string) { checkParseAmendment(t, s) })
		words := strings.Split(line, " ")
		eachOrder(words, 0, func(other []string) { checkParseAmendment(t, strings.Join(other, " ")) })
	}
}

func TestParseAmendmentOnSequencesOfWords(t *testing.T) {
	words := []string{"insert", "strike", "replace", "at", "1", "1:", "", "a"}
	for _, start := range []string{"", "insert", "strike", "replace"} {
		eachSequence(words, 5, start, func(s string) {
			checkParseAmendment(t, s)
			checkParseAmendment(t, strings.TrimPrefix(s, " "))
		})
	}
}

func TestRebuildText(t *testing.T) {
	step := func(words ...string) impl.Amendment { return insertion(0, words...) }
	misfit := strike(1, 20)
	for name, c := range map[string]struct {
		text []string
		list []impl.Amendment
		want string
		n    int
	}{
		"nothing":                     {fee(), nil, "the fee is ten", 0},
		"nothing of nothing":          {nil, nil, "", 0},
		"one":                         {fee(), []impl.Amendment{replacement(1, 3, "six")}, "the fee is six", 1},
		"each on the text before it":  {fee(), []impl.Amendment{step("now"), strike(1, 4), insertion(4, "six")}, "now the fee is six", 3},
		"a word inserted is replaced": {fee(), []impl.Amendment{insertion(4, "a", "b"), replacement(1, 5, "c")}, "the fee is ten a c", 2},
		"there and back":              {fee(), []impl.Amendment{step("x"), strike(1, 0), step("x"), strike(1, 0)}, "the fee is ten", 4},
		"the same one twice":          {fee(), []impl.Amendment{strike(1, 0), strike(1, 0)}, "is ten", 2},
		"all struck and new words":    {fee(), []impl.Amendment{strike(4, 0), insertion(0, "x")}, "x", 2},
		"MaxAmendments":               {nil, slices.Repeat([]impl.Amendment{step("x")}, 8), "x x x x x x x x", 8},
		"the first does not fit":      {fee(), []impl.Amendment{misfit, step("x"), step("y")}, "the fee is ten", 0},
		"the middle does not fit":     {fee(), []impl.Amendment{step("x"), misfit, step("y")}, "x the fee is ten", 1},
		"the last does not fit":       {fee(), []impl.Amendment{step("x"), step("y"), misfit}, "y x the fee is ten", 2},
		"no longer fits":              {fee(), []impl.Amendment{strike(1, 3), strike(1, 3)}, "the fee is", 1},
		"fits only later":             {fee(), []impl.Amendment{insertion(5, "x"), step("y")}, "the fee is ten", 0},
		"none fits":                   {fee(), []impl.Amendment{misfit, misfit, misfit}, "the fee is ten", 0},
		"the text gets too long":      {textFrom("w", 4), slices.Repeat([]impl.Amendment{step("a", "b", "c", "d", "e")}, 4), strings.Repeat("a b c d e ", 3) + "waa wab wac wad", 3},
		"the eighth does not fit":     {nil, append(slices.Repeat([]impl.Amendment{step("x")}, 7), misfit), "x x x x x x x", 7},
		"the first of eight does not": {nil, append([]impl.Amendment{misfit}, slices.Repeat([]impl.Amendment{step("x")}, 7)...), "", 0},
	} {
		got, n, ok := impl.RebuildText(c.text, c.list)
		checkText(t, name, got, ok, strings.Fields(c.want), true)
		if n != c.n {
			t.Error(name, n)
		}
		if undo, ok := impl.UndoAmendments(c.text, c.list); ok != (c.n == len(c.list)) || ok && len(undo) != c.n || !ok && len(undo) != 0 {
			t.Error(name, undo, ok)
		}
		checkHistory(t, c.text, c.list)
	}
}

func TestTooManyAndInvalidAmendmentsInAList(t *testing.T) {
	for _, n := range []int{9, 10, 16, 256, 100000} {
		checkNoHistory(t, fee(), slices.Repeat([]impl.Amendment{insertion(0, "x")}, n))
		checkNoHistory(t, fee(), slices.Repeat([]impl.Amendment{strike(1, 20)}, n))
		checkNoHistory(t, nil, make([]impl.Amendment, n))
	}
	for _, a := range invalidAmendments() {
		for _, n := range []int{1, 3, 8} {
			for _, at := range []int{0, n / 2, n - 1} {
				for _, other := range []impl.Amendment{insertion(0, "x"), strike(1, 20)} {
					list := slices.Repeat([]impl.Amendment{other}, n)
					list[at] = a
					checkNoHistory(t, fee(), list)
				}
			}
		}
	}
}

func TestUndoAmendments(t *testing.T) {
	for name, c := range map[string]struct {
		list []impl.Amendment
		want []impl.Amendment
	}{
		"nothing":               {nil, nil},
		"an insertion":          {[]impl.Amendment{insertion(4, "x")}, []impl.Amendment{strike(1, 4)}},
		"a strike":              {[]impl.Amendment{strike(2, 2)}, []impl.Amendment{insertion(2, "is", "ten")}},
		"a replacement":         {[]impl.Amendment{replacement(1, 0, "a", "b")}, []impl.Amendment{replacement(2, 0, "the")}},
		"the last inverse goes": {[]impl.Amendment{insertion(0, "x"), strike(3, 1)}, []impl.Amendment{insertion(1, "the", "fee", "is"), strike(1, 0)}},
		"words put and struck": {
			[]impl.Amendment{replacement(1, 1, "due"), strike(2, 1), insertion(2, "six")},
			[]impl.Amendment{strike(1, 2), insertion(1, "due", "is"), replacement(1, 1, "fee")}},
		"one word again and again": {
			[]impl.Amendment{replacement(1, 0, "a"), replacement(1, 0, "b"), replacement(1, 0, "c")},
			[]impl.Amendment{replacement(1, 0, "b"), replacement(1, 0, "a"), replacement(1, 0, "the")}},
	} {
		if got, ok := impl.UndoAmendments(fee(), c.list); !ok || !sameAmendments(got, c.want) {
			t.Errorf("%s: %v, %v; want %v", name, got, ok, c.want)
		}
		checkHistory(t, fee(), c.list)
	}
}

// someAmendments are Amendments of each kind, also at the end of short texts.
func someAmendments() []impl.Amendment {
	return []impl.Amendment{
		insertion(0, "a"), insertion(1, "b", "a"), insertion(3, "b"), insertion(5, "c", "c", "c", "c", "c"), strike(1, 0), strike(2, 1), strike(3, 0),
		replacement(1, 0, "b"), replacement(1, 1, "a", "a"), replacement(2, 0, "a", "b"), replacement(2, 2, "a"), {Kind: impl.AmendStrike},
	}
}

func TestEveryHistory(t *testing.T) {
	lists := [][]impl.Amendment{nil}
	for i := 0; i < 157; i++ {
		for _, a := range someAmendments() {
			lists = append(lists, append(slices.Clone(lists[i]), a))
		}
	}
	eachText(3, []string{"a", "b"}, func(text []string) {
		for _, list := range lists {
			checkHistory(t, text, list)
		}
	})
	if last := lists[len(lists)-1]; len(last) != 3 {
		t.Error("lists are not as long as they should be:", last)
	}
}

func TestLongHistories(t *testing.T) {
	applied := [10]int{}
	for start := range 3000 {
		next := drawsFrom(start)
		text, list := textFrom("w", next(21)), []impl.Amendment{}
		for range 8 {
			kind := next(3) + 1
			a := impl.Amendment{Kind: kind, At: next(len(text) + 2), Count: next(4) + 1, Words: textFrom(string(rune('a'+next(20))), next(3)+1)}
			if kind == impl.AmendInsert {
				a.Count = 0
			} else if kind == impl.AmendStrike {
				a.Words = nil
			}
			// One of many that do not fit stays in the list.
			if _, _, fits := amended(text, a); fits || next(20) == 0 {
				list = append(list, a)
			}
		}
		checkHistory(t, text, list)
		_, n, _ := impl.RebuildText(text, list)
		applied[n]++
	}
	if slices.Min(applied[:9]) < 10 {
		t.Error("Amendments applied:", applied)
	}
}

func TestSingleChange(t *testing.T) {
	for name, c := range map[string]struct {
		a    string
		b    string
		want impl.Amendment
	}{
		"other words at the beginning":     {"the fee is ten", "our fee is ten", replacement(1, 0, "our")},
		"more words at the beginning":      {"the fee is ten", "now the fee is ten", insertion(0, "now")},
		"fewer words at the beginning":     {"the fee is ten", "is ten", strike(2, 0)},
		"other words at the end":           {"the fee is ten", "the fee is not due", replacement(1, 3, "not", "due")},
		"more words at the end":            {"the fee is ten", "the fee is ten or less", insertion(4, "or", "less")},
		"fewer words at the end":           {"the fee is ten", "the fee", strike(2, 2)},
		"other words in the middle":        {"the fee is ten", "the sum was ten", replacement(2, 1, "sum", "was")},
		"more words in the middle":         {"the fee is ten", "the fee is not ten", insertion(3, "not")},
		"fewer words in the middle":        {"the fee is ten", "the ten", strike(2, 1)},
		"words far from each other":        {"a b c d e", "x b c d y", replacement(5, 0, "x", "b", "c", "d", "y")},
		"a word repeated":                  {"a a", "a a a", insertion(2, "a")},
		"a word repeated less":             {"a a a", "a", strike(2, 1)},
		"words repeated":                   {"a b", "a b a b", insertion(2, "a", "b")},
		"words repeated less":              {"a b a b a", "a b a", strike(2, 3)},
		"a word repeated before another":   {"a b", "a a b", insertion(1, "a")},
		"the end is in the beginning":      {"a b a", "a", strike(2, 1)},
		"the end is in the beginning, two": {"a b c a b", "a b", strike(3, 2)},
		"the beginning before the end":     {"a b x a b", "a b b", strike(2, 2)},
		"from nothing":                     {"", "a b", insertion(0, "a", "b")},
		"to nothing":                       {"a b", "", strike(2, 0)},
		"all other":                        {"a b c d e", "v w x y z", replacement(5, 0, "v", "w", "x", "y", "z")},
		"in another order":                 {"a b c d", "a c b d", replacement(2, 1, "c", "b")},
	} {
		change, ok := impl.SingleChange(strings.Fields(c.a), strings.Fields(c.b))
		checkIsAmendment(t, name, change, ok, c.want, true)
		checkChange(t, strings.Fields(c.a), strings.Fields(c.b))
	}
}

func TestNoSingleChange(t *testing.T) {
	for name, c := range map[string][2][]string{
		"equal":                        {fee(), fee()},
		"nothing":                      {nil, {}},
		"equal, MaxWords":              {textFrom("w", 20), textFrom("w", 20)},
		"too many more":                {nil, textFrom("w", 6)},
		"too many more at the end":     {textFrom("w", 14), textFrom("w", 20)},
		"too many fewer":               {textFrom("w", 20), textFrom("w", 14)},
		"too many other":               {textFrom("w", 6), textFrom("v", 6)},
		"too many for few":             {textFrom("w", 6), textFrom("v", 1)},
		"few for too many":             {textFrom("w", 1), textFrom("v", 6)},
		"too far from each other":      {strings.Fields("a b c d e f"), strings.Fields("x b c d e y")},
		"in another order, too far":    {strings.Fields("a b c d e f"), strings.Fields("b c d e f a")},
		"all other, MaxWords":          {textFrom("w", 20), textFrom("v", 20)},
		"equal words, too many":        {slices.Repeat([]string{"a"}, 4), slices.Repeat([]string{"a"}, 10)},
		"equal words, too many, other": {slices.Repeat([]string{"a"}, 20), slices.Repeat([]string{"a"}, 14)},
	} {
		change, ok := impl.SingleChange(c[0], c[1])
		checkIsAmendment(t, name, change, ok, impl.Amendment{}, false)
		checkChange(t, c[0], c[1])
	}
}

func TestEverySingleChange(t *testing.T) {
	eachText(7, []string{"a", "b"}, func(a []string) {
		eachText(7, []string{"a", "b"}, func(b []string) { checkChange(t, a, b) })
	})
	eachText(4, []string{"a", "b", "c"}, func(a []string) {
		eachText(4, []string{"a", "b", "c"}, func(b []string) { checkChange(t, a, b) })
	})
}

func TestEverySizeOfASingleChange(t *testing.T) {
	for begin := range 15 {
		for end := range 15 {
			for struck := range 7 {
				for put := range 7 {
					a := slices.Concat(textFrom("b", begin), textFrom("s", struck), textFrom("e", end))
					b := slices.Concat(textFrom("b", begin), textFrom("p", put), textFrom("e", end))
					if len(a) > 20 || len(b) > 20 {
						continue
					}
					checkChange(t, a, b)
					change, ok := impl.SingleChange(a, b)
					if ok != (struck <= 5 && put <= 5 && struck+put > 0) || ok && (change.At != begin || change.Count != struck || len(change.Words) != put) {
						t.Error("change from", a, "to", b, change, ok)
					}
				}
			}
		}
	}
}

// roomy returns words in a list with room, and with something in that room.
func roomy(words ...string) []string {
	return append(slices.Clone(words), "x", "beyond the length", "")[:len(words)]
}

func TestNothingBeyondTheLengthInTexts(t *testing.T) {
	text := roomy("a", "b", "c", "d", "e")
	for n := range 6 {
		for words := range 6 {
			for at := range 7 {
				for count := range 6 {
					for kind := range 4 {
						checkAmendment(t, text[:n], impl.Amendment{Kind: kind, At: at, Count: count, Words: roomy("d", "e", "a", "b", "c")[:words]})
					}
				}
			}
			checkChange(t, text[:n], roomy("a", "b", "x", "d", "e")[:words])
		}
	}
	checkNoText(t, "beyond the length", text[:7])
	list := []impl.Amendment{insertion(0, "a"), strike(1, 0), strike(1, 20), {}}
	for n := range 5 {
		checkHistory(t, text, list[:n])
	}
}

// amendmentResults calls all functions of amendments and returns the texts and the Amendments of
// the calls that succeed.
func amendmentResults(text []string, other []string, list []impl.Amendment) ([][]string, []impl.Amendment) {
	texts, amendments := [][]string{}, []impl.Amendment{}
	for _, a := range list {
		impl.IsValidAmendment(a)
		impl.AmendmentLine(a)
		impl.FitsText(text, a)
		if after, ok := impl.ApplyAmendment(text, a); ok {
			texts = append(texts, after)
		}
		if inverse, ok := impl.InverseAmendment(text, a); ok {
			amendments = append(amendments, inverse)
		}
	}
	for n := range len(list) + 1 {
		rebuilt, _, _ := impl.RebuildText(text, list[:n])
		undo, _ := impl.UndoAmendments(text, list[:n])
		texts, amendments = append(texts, rebuilt), append(amendments, undo...)
	}
	for _, pair := range [][2][]string{{text, other}, {other, text}, {text, text[:2]}, {text[:2], text}} {
		if change, ok := impl.SingleChange(pair[0], pair[1]); ok {
			amendments = append(amendments, change)
		}
	}
	parsed, _ := impl.ParseAmendment("replace 2 at 3: shall not")
	return texts, append(amendments, parsed)
}

// keptList is a list and what was in it, and beyond its length, when it was kept.
type keptList struct {
	list []string
	was  []string
}

// keepLists keeps lists and the Words of Amendments.
func keepLists(texts [][]string, amendments []impl.Amendment) []keptList {
	kept := []keptList{}
	for _, text := range texts {
		kept = append(kept, keptList{text, slices.Clone(text[:cap(text)])})
	}
	for _, a := range amendments {
		kept = append(kept, keptList{a.Words, slices.Clone(a.Words[:cap(a.Words)])})
	}
	return kept
}

// checkKept checks that nothing was written into lists, not even beyond their length.
func checkKept(t *testing.T, name string, kept []keptList) {
	t.Helper()
	for _, k := range kept {
		if now := k.list[:cap(k.list)]; !slices.Equal(now, k.was) {
			t.Errorf("%s: %q was %q", name, now, k.was)
		}
	}
}

func TestAmendmentFunctionsShareNothing(t *testing.T) {
	text, other := roomy("the", "fee", "is", "ten"), roomy("the", "sum", "was", "six", "ten")
	list := []impl.Amendment{
		insertion(4, roomy("or", "less")...), replacement(1, 1, roomy("sum")...), strike(1, 3), insertion(0, roomy("now")...),
		strike(4, 0), strike(1, 20), replacement(2, 0, roomy("it")...),
	}
	copied := slices.Clone(list)
	arguments := keepLists([][]string{text, other}, list)
	texts, amendments := amendmentResults(text, other, list)
	checkKept(t, "arguments, called with", arguments)
	results := keepLists(texts, amendments)
	for i, k := range results {
		checkKept(t, "results, shared with others", results[i:])
		for j := range k.list[:cap(k.list)] {
			k.list[:cap(k.list)][j] = "overwritten"
		}
	}
	checkKept(t, "arguments, shared with results", arguments)
	if !sameAmendments(list, copied) {
		t.Error("list", list)
	}
	again, amendmentsAgain := amendmentResults(text, other, list)
	for i, k := range keepLists(again, amendmentsAgain) {
		if !slices.Equal(k.list, results[i].was[:len(results[i].list)]) {
			t.Errorf("not repeated: %q, was %q", k.list, results[i].was)
		}
	}
}

func TestListsOfAmendmentsAreTheirOwn(t *testing.T) {
	list := append([]impl.Amendment{insertion(0, "x"), strike(1, 0)}, strike(2, 1), impl.Amendment{Kind: 7})[:3]
	undo, _ := impl.UndoAmendments(fee(), list)
	for i := range undo[:cap(undo)] {
		undo[:cap(undo)][i] = impl.Amendment{Kind: -7}
	}
	if want := []impl.Amendment{insertion(0, "x"), strike(1, 0), strike(2, 1), {Kind: 7}}; !sameAmendments(list[:4], want) {
		t.Error("changed", list[:4])
	}
	checkHistory(t, fee(), list)
}
