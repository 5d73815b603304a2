package tests

import (
	"fmt"
	"math"
	"regexp"
	"slices"
	"strconv"
	"strings"
	"testing"

	"loop.example/g00909/impl"
)

// sevenSections returns a document in which the second section has parts of parts down to the
// greatest Depth, and the last one belongs to none.
func sevenSections() []impl.Section {
	return []impl.Section{
		{Depth: 1, Title: "preamble"},
		{Depth: 1, Title: "bylaws"},
		{Depth: 2, Title: "members"},
		{Depth: 3, Title: "dues"},
		{Depth: 4, Title: "late"},
		{Depth: 2, Title: "officers"},
		{Depth: 1, Title: "closing"},
	}
}

const sevenSectionsText = "1 preamble\n2 bylaws\n2.1 members\n2.1.1 dues\n2.1.1.1 late\n2.2 officers\n3 closing\n"

// sectionsOf returns sections of these Depths with the Titles `a`, `b` and so on.
func sectionsOf(depths ...int) []impl.Section {
	list := []impl.Section{}
	for i, depth := range depths {
		list = append(list, impl.Section{Depth: depth, Title: string([]byte{byte('a' + i%26)})})
	}
	return list
}

// flatSections returns n sections of the Depth 1.
func flatSections(n int) []impl.Section { return sectionsOf(slices.Repeat([]int{1}, n)...) }

// fullDocuments returns documents of MaxSections sections.
func fullDocuments() [][]impl.Section {
	return [][]impl.Section{
		flatSections(12),
		sectionsOf(1, 2, 2, 2, 2, 2, 2, 2, 2, 2, 2, 2),
		sectionsOf(1, 2, 3, 4, 4, 4, 4, 4, 4, 4, 4, 4),
		sectionsOf(1, 2, 3, 4, 1, 2, 3, 4, 1, 2, 3, 4),
		sectionsOf(1, 2, 3, 4, 3, 4, 2, 3, 3, 1, 2, 1),
		sectionsOf(1, 1, 1, 1, 1, 1, 1, 1, 1, 2, 3, 4),
		sectionsOf(1, 1, 1, 1, 1, 1, 1, 1, 1, 1, 1, 2),
	}
}

// noIndices returns numbers at which list has no section.
func noIndices(list []impl.Section) []int {
	size := len(list)
	return []int{-1, size, size + 1, -size - 1, 12, 13, 1 << 32, 1<<32 + 1, -1 << 32, math.MinInt, math.MaxInt}
}

// invalidSections returns sections of which exactly one field is invalid, by what is wrong with them.
func invalidSections() map[string]impl.Section {
	sections := map[string]impl.Section{}
	for _, depth := range []int{0, 5, -1, -4, math.MaxInt, math.MinInt, 1 << 32, 1<<32 + 1} {
		sections["Depth "+strconv.Itoa(depth)] = impl.Section{Depth: depth, Title: "x"}
	}
	for _, title := range noWords {
		sections[fmt.Sprintf("Title %.20q", title)] = impl.Section{Depth: 1, Title: title}
	}
	return sections
}

// invalidDocuments returns lists that are no documents, by what is wrong with them.
func invalidDocuments() map[string][]impl.Section {
	lists := map[string][]impl.Section{
		"above MaxSections":           flatSections(13),
		"above MaxSections, deep":     sectionsOf(1, 2, 3, 4, 1, 2, 3, 4, 1, 2, 3, 4, 1),
		"far above MaxSections":       make([]impl.Section, 100000),
		"far above, all valid":        flatSections(100000),
		"a zero Section":              {{}},
		"a first Depth of 2":          sectionsOf(2),
		"a first Depth of 4":          sectionsOf(4),
		"a first Depth of 2, more":    sectionsOf(2, 1, 2),
		"a first Depth of 2, others":  sectionsOf(2, 3, 4, 1),
		"a Depth of two more":         sectionsOf(1, 3),
		"a Depth of three more":       sectionsOf(1, 4),
		"a Depth of two more, 2":      sectionsOf(1, 2, 4),
		"a Depth of two more, amid":   sectionsOf(1, 2, 1, 3, 1),
		"a Depth of two more, again":  sectionsOf(1, 2, 3, 1, 3),
		"a Depth above MaxDepth":      sectionsOf(1, 2, 3, 4, 5),
		"a Depth above MaxDepth, 12":  sectionsOf(1, 1, 1, 1, 1, 1, 1, 1, 2, 3, 4, 5),
		"a Depth of 0 at the end":     append(sevenSections(), impl.Section{Depth: 0, Title: "x"}),
		"no Title at the end":         append(sevenSections(), impl.Section{Depth: 1}),
		"a last Depth of two more":    append(sevenSections(), impl.Section{Depth: 3, Title: "x"}),
		"the last one of 12 too deep": append(flatSections(11), impl.Section{Depth: 3, Title: "x"}),
	}
	for name, s := range invalidSections() {
		lists["alone, "+name] = []impl.Section{s}
		lists["amid others, "+name] = slices.Insert(sevenSections(), 2, s)
		lists["behind the greatest Depth, "+name] = append(sectionsOf(1, 2, 3, 4), s)
	}
	return lists
}

// eachDocument calls visit with all documents of at most so many sections.
func eachDocument(most int, visit func([]impl.Section)) {
	depths := []int{}
	var fill func(deepest int)
	fill = func(deepest int) {
		visit(sectionsOf(depths...))
		if len(depths) == most {
			return
		}
		for depth := 1; depth <= deepest; depth++ {
			depths = append(depths, depth)
			fill(min(depth+1, impl.MaxDepth))
			depths = depths[:len(depths)-1]
		}
	}
	fill(1)
}

// eachListOfDepths calls visit with all lists of at most so many sections with Depths in 0..5.
func eachListOfDepths(most int, visit func([]impl.Section)) {
	depths := []int{}
	var fill func()
	fill = func() {
		visit(sectionsOf(depths...))
		if len(depths) == most {
			return
		}
		for depth := range 6 {
			depths = append(depths, depth)
			fill()
			depths = depths[:len(depths)-1]
		}
	}
	fill()
}

// numbersOf returns the numbers of sections, counting those of each Depth. Where a Depth has been
// left out, the part is 0.
func numbersOf(list []impl.Section) []string {
	counts := [impl.MaxDepth]int{}
	numbers := []string{}
	for _, s := range list {
		counts[s.Depth-1]++
		clear(counts[s.Depth:])
		parts := []string{}
		for _, count := range counts[:s.Depth] {
			parts = append(parts, strconv.Itoa(count))
		}
		numbers = append(numbers, strings.Join(parts, "."))
	}
	return numbers
}

var isTitle = regexp.MustCompile(`\A[a-z]{1,10}\z`)

// areSections reports whether list is a document: if so, its numbers leave out no Depth.
func areSections(list []impl.Section) bool {
	for _, s := range list {
		if s.Depth < 1 || s.Depth > impl.MaxDepth || !isTitle.MatchString(s.Title) {
			return false
		}
	}
	parts := strings.Split(strings.Join(numbersOf(list), "."), ".")
	return len(list) <= impl.MaxSections && !slices.Contains(parts, "0")
}

// textOfSections writes the text of a document.
func textOfSections(list []impl.Section) string {
	text := ""
	for i, number := range numbersOf(list) {
		text += fmt.Sprintf("%s %s\n", number, list[i].Title)
	}
	return text
}

// isPart reports whether the section with a number belongs to the one with the number whole,
// directly or to one of its parts.
func isPart(number string, whole string) bool { return strings.HasPrefix(number, whole+".") }

// checkSection checks all that is said of the section with the index i of a document.
func checkSection(t *testing.T, list []impl.Section, i int) {
	t.Helper()
	numbers := numbersOf(list)
	if got, ok := impl.SectionNumber(list, i); !ok || got != numbers[i] {
		t.Errorf("SectionNumber(%v, %d) = %q, %v; want %q", list, i, got, ok, numbers[i])
	}
	if got, ok := impl.FindSection(list, numbers[i]); !ok || got != i {
		t.Errorf("FindSection(%v, %q) = %d, %v; want %d", list, numbers[i], got, ok, i)
	}
	owner := slices.IndexFunc(numbers, func(number string) bool {
		return isPart(numbers[i], number) && !strings.Contains(numbers[i][len(number)+1:], ".")
	})
	if got, ok := impl.BelongsTo(list, i); ok != (owner >= 0) || got != max(0, owner) {
		t.Errorf("BelongsTo(%v, %d) = %d, %v; want %d", list, i, got, ok, owner)
	}
	left, parts := []impl.Section{}, 0
	for j, number := range numbers {
		switch {
		case isPart(number, numbers[i]):
			parts++
		case j != i:
			left = append(left, list[j])
		}
	}
	if got, ok := impl.PartOf(list, i); !ok || got != parts {
		t.Errorf("PartOf(%v, %d) = %d, %v; want %d", list, i, got, ok, parts)
	}
	if got, ok := impl.CutSection(list, i); !ok || !slices.Equal(got, left) || !impl.IsDocument(got) {
		t.Errorf("CutSection(%v, %d) = %v, %v; want %v", list, i, got, ok, left)
	}
	for by := -6; by <= 6; by++ {
		checkShift(t, list, i, by)
	}
}

// checkShift checks what becomes of a document if a section and its parts are shifted.
func checkShift(t *testing.T, list []impl.Section, i int, by int) {
	t.Helper()
	numbers := numbersOf(list)
	want := slices.Clone(list)
	for j, number := range numbers {
		if j == i || isPart(number, numbers[i]) {
			want[j].Depth += by
		}
	}
	if !areSections(want) {
		want = nil
	}
	if got, ok := impl.ShiftSection(list, i, by); ok != (want != nil) || !slices.Equal(got, want) {
		t.Errorf("ShiftSection(%v, %d, %d) = %v, %v; want %v", list, i, by, got, ok, want)
	}
}

// checkAdded checks what becomes of a document if a section is added before the index i.
func checkAdded(t *testing.T, list []impl.Section, i int, s impl.Section) {
	t.Helper()
	want := slices.Insert(slices.Clone(list), i, s)
	if !areSections(want) {
		want = nil
	}
	if got, ok := impl.AddSection(list, i, s); ok != (want != nil) || !slices.Equal(got, want) {
		t.Errorf("AddSection(%v, %d, %v) = %v, %v; want %v", list, i, s, got, ok, want)
	}
}

// checkDocument checks all that is said of a document.
func checkDocument(t *testing.T, list []impl.Section) {
	t.Helper()
	if !impl.IsDocument(list) {
		t.Errorf("no document: %v", list)
	}
	for i := range list {
		checkSection(t, list, i)
	}
	for i := range len(list) + 1 {
		for depth := range 6 {
			checkAdded(t, list, i, impl.Section{Depth: depth, Title: "new"})
		}
	}
	text, ok := impl.DocumentText(list)
	if !ok || text != textOfSections(list) {
		t.Errorf("DocumentText(%v) = %q, %v", list, text, ok)
	}
	if got, ok := impl.ParseDocument(text); !ok || !slices.Equal(got, list) {
		t.Errorf("ParseDocument(%q) = %v, %v", text, got, ok)
	}
}

// checkNoSection checks that nothing is said of the section with the index i, and nothing done to it.
func checkNoSection(t *testing.T, name string, list []impl.Section, i int) {
	t.Helper()
	if got, ok := impl.SectionNumber(list, i); ok || got != "" {
		t.Error("SectionNumber:", name, i, got)
	}
	if got, ok := impl.BelongsTo(list, i); ok || got != 0 {
		t.Error("BelongsTo:", name, i, got)
	}
	if got, ok := impl.PartOf(list, i); ok || got != 0 {
		t.Error("PartOf:", name, i, got)
	}
	if got, ok := impl.CutSection(list, i); ok || len(got) != 0 {
		t.Error("CutSection:", name, i, got)
	}
	for by := -5; by <= 5; by++ {
		if got, ok := impl.ShiftSection(list, i, by); ok || len(got) != 0 {
			t.Error("ShiftSection:", name, i, by, got)
		}
	}
}

var documentForm = textForm[impl.Section]{
	parse: impl.ParseDocument, isValid: impl.IsDocument, textOf: textOfSections,
	// Every document that is not empty begins with the number 1.
	lines: regexp.MustCompile(`\A(1 [a-z]{1,10}\n([1-9][0-9]?(\.[1-9][0-9]?){0,3} [a-z]{1,10}\n)*)?\z`),
}

// documentOf returns the document whose text is s, and whether there is one.
func documentOf(s string) ([]impl.Section, bool) {
	list := []impl.Section{}
	for line := range strings.Lines(s) {
		words := strings.Split(strings.TrimSuffix(line, "\n"), " ")
		list = append(list, impl.Section{Depth: len(strings.Split(words[0], ".")), Title: words[len(words)-1]})
	}
	if !areSections(list) || textOfSections(list) != s {
		return nil, false
	}
	return list, true
}

// checkParseDocument checks what is parsed from a string of any form.
func checkParseDocument(t *testing.T, s string) {
	t.Helper()
	want, wantOk := documentOf(s)
	if got, ok := impl.ParseDocument(s); ok != wantOk || !slices.Equal(got, want) {
		t.Errorf("ParseDocument(%.200q) = %v, %v; want %v, %v", s, got, ok, want, wantOk)
	}
}

func TestConstantsOfDocuments(t *testing.T) {
	if impl.MaxSections != 12 || impl.MaxDepth != 4 {
		t.Error("constants", impl.MaxSections, impl.MaxDepth)
	}
}

func TestIsDocument(t *testing.T) {
	if !impl.IsDocument(nil) || !impl.IsDocument([]impl.Section{}) || !impl.IsDocument(sevenSections()) {
		t.Error("no document: none or seven")
	}
	for n := range impl.MaxSections + 1 {
		if !impl.IsDocument(flatSections(n)) {
			t.Error("no document, of size", n)
		}
	}
	for _, list := range fullDocuments() {
		if !impl.IsDocument(list) {
			t.Error("no document", list)
		}
	}
	for depth := 1; depth <= 4; depth++ {
		for _, title := range []string{"a", "z", "abcdefghij", "zzzzzzzzzz"} {
			list := append(sectionsOf(1, 2, 3, 4), impl.Section{Depth: depth, Title: title})
			if !impl.IsDocument(list) {
				t.Error("no document", list)
			}
		}
	}
	for name, list := range invalidDocuments() {
		if impl.IsDocument(list) {
			t.Error("a document:", name)
		}
	}
}

func TestEqualTitlesInADocument(t *testing.T) {
	for _, list := range [][]impl.Section{sevenSections(), flatSections(12), sectionsOf(1, 2, 3, 4, 4)} {
		for i := range list {
			list[i].Title = "same"
		}
		checkDocument(t, list)
	}
}

func TestEveryListOfDepths(t *testing.T) {
	eachListOfDepths(5, func(list []impl.Section) {
		want := areSections(list)
		if got := impl.IsDocument(list); got != want {
			t.Errorf("IsDocument(%v) = %v", list, got)
		}
		if want {
			return
		}
		for i := -1; i <= len(list); i++ {
			checkNoSection(t, "no document", list, i)
		}
		if got, ok := impl.DocumentText(list); ok || got != "" {
			t.Errorf("DocumentText(%v) = %q", list, got)
		}
	})
}

func TestEveryByteInASectionTitle(t *testing.T) {
	for c := range 256 {
		sign := string([]byte{byte(c)})
		for _, title := range []string{sign, "a" + sign, sign + "z"} {
			want := c >= 'a' && c <= 'z'
			s := impl.Section{Depth: 1, Title: title}
			if got := impl.IsDocument([]impl.Section{s}); got != want {
				t.Errorf("the Title %q: %v", title, got)
			}
			if got, ok := impl.AddSection(sevenSections(), 7, s); ok != want || !want && len(got) != 0 {
				t.Errorf("the added Title %q: %v, %v", title, got, ok)
			}
		}
	}
}

func TestEverySectionIsFoundByItsNumberAndACutOneLeavesWithItsParts(t *testing.T) {
	eachDocument(8, func(list []impl.Section) { checkDocument(t, list) })
	for _, list := range fullDocuments() {
		for n := range impl.MaxSections + 1 {
			checkDocument(t, list[:n])
		}
	}
	checkDocument(t, nil)
	checkDocument(t, sevenSections())
}

func TestNumbersOfAllDocuments(t *testing.T) {
	eachDocument(11, func(list []impl.Section) {
		for i, number := range numbersOf(list) {
			if got, ok := impl.SectionNumber(list, i); !ok || got != number {
				t.Errorf("SectionNumber(%v, %d) = %q, %v; want %q", list, i, got, ok, number)
			}
		}
	})
}

func TestSevenSections(t *testing.T) {
	list := sevenSections()
	numbers := []string{"1", "2", "2.1", "2.1.1", "2.1.1.1", "2.2", "3"}
	owners := []int{-1, -1, 1, 2, 3, 1, -1}
	parts := []int{0, 4, 2, 1, 0, 0, 0}
	for i := range list {
		if got, ok := impl.SectionNumber(list, i); !ok || got != numbers[i] {
			t.Error("number of", i, got, ok)
		}
		if got, ok := impl.FindSection(list, numbers[i]); !ok || got != i {
			t.Error("found", numbers[i], got, ok)
		}
		if got, ok := impl.BelongsTo(list, i); ok != (owners[i] >= 0) || got != max(0, owners[i]) {
			t.Error("owner of", i, got, ok)
		}
		if got, ok := impl.PartOf(list, i); !ok || got != parts[i] {
			t.Error("parts of", i, got, ok)
		}
	}
	if got, ok := impl.DocumentText(list); !ok || got != sevenSectionsText {
		t.Errorf("text %q, %v", got, ok)
	}
	if got, ok := impl.ParseDocument(sevenSectionsText); !ok || !slices.Equal(got, list) {
		t.Error("parsed", got, ok)
	}
}

func TestNumbersOfTwoDigits(t *testing.T) {
	for _, c := range []struct {
		list []impl.Section
		i    int
		want string
	}{
		{sectionsOf(1, 2, 2), 2, "1.2"}, // the example of the document
		{flatSections(12), 8, "9"}, {flatSections(12), 9, "10"}, {flatSections(12), 11, "12"},
		{fullDocuments()[1], 9, "1.9"}, {fullDocuments()[1], 10, "1.10"}, {fullDocuments()[1], 11, "1.11"},
		{fullDocuments()[2], 11, "1.1.1.9"}, {fullDocuments()[6], 11, "11.1"},
		{sectionsOf(1, 2, 3, 3, 3, 3, 3, 3, 3, 3, 3, 3), 11, "1.1.10"},
		{sectionsOf(1, 1, 1, 1, 1, 1, 1, 1, 1, 1, 2, 3), 11, "10.1.1"},
		{fullDocuments()[5], 11, "9.1.1.1"},
	} {
		if got, ok := impl.SectionNumber(c.list, c.i); !ok || got != c.want {
			t.Errorf("number of %d in %v: %q, %v; want %q", c.i, c.list, got, ok, c.want)
		}
		if got, ok := impl.FindSection(c.list, c.want); !ok || got != c.i {
			t.Errorf("found %q in %v: %d, %v; want %d", c.want, c.list, got, ok, c.i)
		}
		if got, ok := impl.FindSection(c.list, "0"+c.want); ok || got != 0 {
			t.Errorf("found 0%s in %v: %d", c.want, c.list, got)
		}
	}
}

func TestFindNoSection(t *testing.T) {
	noNumbers := []string{
		"", " ", ".", "..", "...", "0", "00", "-1", "+1", "-0", "01", "001", "1.", "1..", ".1", "..1", " 1", "1 ", "1\n", "\n1", "1\x00", "1,1", "1-1", "1 1",
		"1. 1", "1 .1", "1.1 ", " 1.1", "1..1", "1.1.", ".1.1", "1.01", "01.1", "1.0", "0.1", "1.-1", "1.+1", "1.1.1.1.", "1.1.1.1.1", "1.1.1.1.0", "1.1..1", "1.1.0.1",
		"2.1..1", "2.01", "02.1", "2.1.01", "2.1.1.01", "2.1.1.1.1", "2.1.", "2.2 officers", "1 preamble", "a", "preamble", "1.a", "1a", "one", "I", "\uff11", "\u0661",
		"13", "99", "100", "4294967297", "18446744073709551617", "1.18446744073709551617", "1e0", "0x1", "1_0",
		strings.Repeat("1", 5000), strings.Repeat("1.", 5000), strings.Repeat(".", 100000),
	}
	for _, list := range append(fullDocuments(), nil, flatSections(1), sectionsOf(1, 2, 3, 4), sevenSections()) {
		known := numbersOf(list)
		for _, number := range noNumbers {
			if got, ok := impl.FindSection(list, number); ok || got != 0 {
				t.Errorf("FindSection(%v, %.40q) = %d, %v", list, number, got, ok)
			}
		}
		for code := range 15 * 5 * 5 * 5 {
			number := strconv.Itoa(code / 125)
			for _, part := range []int{code / 25 % 5, code / 5 % 5, code % 5} {
				// A part 0 ends a number here, and the others have all their parts.
				if part == 0 {
					break
				}
				number += "." + strconv.Itoa(part)
			}
			want := slices.Index(known, number)
			if got, ok := impl.FindSection(list, number); ok != (want >= 0) || got != max(0, want) {
				t.Errorf("FindSection(%v, %q) = %d, %v; want %d", list, number, got, ok, want)
			}
		}
	}
}

func TestNoSuchIndex(t *testing.T) {
	for _, list := range append(fullDocuments(), nil, flatSections(1), sectionsOf(1, 2, 3, 4), sevenSections()) {
		for _, i := range noIndices(list) {
			checkNoSection(t, "no index", list, i)
			// A section may be added behind the last one.
			if i == len(list) {
				continue
			}
			for depth := range 6 {
				if got, ok := impl.AddSection(list, i, impl.Section{Depth: depth, Title: "new"}); ok || len(got) != 0 {
					t.Errorf("AddSection(%v, %d) = %v", list, i, got)
				}
			}
		}
	}
}

func TestNoIndexBeyondTheLength(t *testing.T) {
	memory := sectionsOf(1, 2, 3, 4, 1, 2)
	// Only the first two sections are there; those behind them fit, but are not read.
	list := memory[:2]
	checkDocument(t, list)
	checkNoSection(t, "beyond the length", list, 2)
	if got, ok := impl.FindSection(list, "1.1.1"); ok || got != 0 {
		t.Error("found beyond the length", got)
	}
	memory[2] = impl.Section{Depth: -1, Title: "Nothing"}
	checkDocument(t, list)
}

func TestCutSection(t *testing.T) {
	for _, c := range []struct {
		depths []int
		i      int
		want   []int
	}{
		{[]int{1}, 0, nil}, {[]int{1, 2, 3, 4, 2}, 0, nil}, {[]int{1, 1}, 0, []int{1}}, {[]int{1, 1}, 1, []int{0}},
		{[]int{1, 2, 1, 2}, 0, []int{2, 3}}, {[]int{1, 2, 1, 2}, 1, []int{0, 2, 3}}, {[]int{1, 2, 1, 2}, 2, []int{0, 1}}, {[]int{1, 2, 1, 2}, 3, []int{0, 1, 2}},
		{[]int{1, 2, 3, 4, 4, 3, 2, 1}, 1, []int{0, 6, 7}}, {[]int{1, 2, 3, 4, 4, 3, 2, 1}, 2, []int{0, 1, 5, 6, 7}}, {[]int{1, 2, 3, 4, 4, 3, 2, 1}, 0, []int{7}},
		{[]int{1, 2, 3, 4, 4, 3, 2, 1}, 3, []int{0, 1, 2, 4, 5, 6, 7}}, {[]int{1, 2, 3, 4, 4, 3, 2, 1}, 7, []int{0, 1, 2, 3, 4, 5, 6}},
		{[]int{1, 2, 3, 4, 1, 2, 3, 4, 1, 2, 3, 4}, 8, []int{0, 1, 2, 3, 4, 5, 6, 7}},
	} {
		list := sectionsOf(c.depths...)
		want := []impl.Section{}
		for _, i := range c.want {
			want = append(want, list[i])
		}
		if got, ok := impl.CutSection(list, c.i); !ok || !slices.Equal(got, want) {
			t.Errorf("%d cut from %v: %v, %v; want %v", c.i, c.depths, got, ok, want)
		}
	}
}

func TestAddSection(t *testing.T) {
	for _, c := range []struct {
		depths []int
		i      int
		depth  int
		fits   bool
	}{
		{nil, 0, 1, true}, {nil, 0, 2, false}, {nil, 0, 0, false}, {nil, 1, 1, false}, {nil, -1, 1, false},
		{[]int{1}, 0, 1, true}, {[]int{1}, 0, 2, false}, {[]int{1}, 1, 1, true}, {[]int{1}, 1, 2, true}, {[]int{1}, 1, 3, false},
		{[]int{1}, 2, 1, false}, {[]int{1}, -1, 1, false},
		{[]int{1, 2}, 0, 1, true}, {[]int{1, 2}, 1, 1, true}, {[]int{1, 2}, 1, 2, true}, {[]int{1, 2}, 1, 3, false},
		{[]int{1, 2}, 2, 1, true}, {[]int{1, 2}, 2, 3, true}, {[]int{1, 2}, 2, 4, false},
		// What comes after it must not be too deep behind it.
		{[]int{1, 2, 3}, 2, 1, false}, {[]int{1, 2, 3}, 2, 2, true}, {[]int{1, 2, 3}, 2, 3, true}, {[]int{1, 2, 3, 4}, 3, 2, false}, {[]int{1, 2, 3, 4}, 3, 1, false},
		{[]int{1, 2, 3, 4}, 3, 3, true}, {[]int{1, 2, 3, 4}, 3, 4, true}, {[]int{1, 2, 3, 4}, 4, 4, true}, {[]int{1, 2, 3, 4}, 4, 5, false}, {[]int{1, 2, 3, 4}, 4, 0, false},
		{[]int{1, 1, 1, 1, 1, 1, 1, 1, 1, 1, 1}, 11, 1, true}, {[]int{1, 1, 1, 1, 1, 1, 1, 1, 1, 1, 1}, 0, 1, true}, {[]int{1, 1, 1, 1, 1, 1, 1, 1, 1, 1, 1}, 5, 2, true},
		{[]int{1, 1, 1, 1, 1, 1, 1, 1, 1, 1, 1, 1}, 12, 1, false}, {[]int{1, 1, 1, 1, 1, 1, 1, 1, 1, 1, 1, 1}, 0, 1, false}, {[]int{1, 1, 1, 1, 1, 1, 1, 1, 1, 1, 1, 1}, 6, 2, false},
	} {
		list := sectionsOf(c.depths...)
		s := impl.Section{Depth: c.depth, Title: "new"}
		got, ok := impl.AddSection(list, c.i, s)
		if ok != c.fits || !ok && len(got) != 0 {
			t.Errorf("the Depth %d added at %d to %v: %v, %v", c.depth, c.i, c.depths, got, ok)
		}
		if ok && !slices.Equal(got, slices.Concat(list[:c.i], []impl.Section{s}, list[c.i:])) {
			t.Errorf("the Depth %d added at %d to %v: %v", c.depth, c.i, c.depths, got)
		}
	}
}

func TestAddInvalidSection(t *testing.T) {
	for name, s := range invalidSections() {
		for _, list := range [][]impl.Section{nil, sevenSections(), sectionsOf(1, 2, 3, 4), flatSections(12)} {
			for i := -1; i <= len(list)+1; i++ {
				if got, ok := impl.AddSection(list, i, s); ok || len(got) != 0 {
					t.Error("AddSection:", name, i, got)
				}
			}
		}
	}
}

func TestShiftSection(t *testing.T) {
	for _, c := range []struct {
		depths []int
		i, by  int
		want   []int
	}{
		{[]int{1}, 0, 0, []int{1}}, {[]int{1}, 0, 1, nil}, {[]int{1}, 0, -1, nil}, {[]int{1, 2, 3}, 0, 0, []int{1, 2, 3}}, {[]int{1, 2, 3}, 0, 1, nil}, {[]int{1, 2, 3}, 0, -1, nil},
		{[]int{1, 1}, 1, 1, []int{1, 2}}, {[]int{1, 1}, 1, 2, nil}, {[]int{1, 1}, 1, -1, nil}, {[]int{1, 1, 2}, 1, 1, []int{1, 2, 3}}, {[]int{1, 1, 2, 1}, 1, 1, []int{1, 2, 3, 1}},
		{[]int{1, 2}, 1, -1, []int{1, 1}}, {[]int{1, 2, 2}, 1, -1, []int{1, 1, 2}}, {[]int{1, 2, 2}, 2, 1, []int{1, 2, 3}}, {[]int{1, 2, 3, 3}, 1, -1, []int{1, 1, 2, 2}},
		// What comes after the parts stays, and may be too deep then.
		{[]int{1, 2, 3, 3}, 2, -1, []int{1, 2, 2, 3}}, {[]int{1, 2, 3, 3}, 2, -2, nil}, {[]int{1, 2, 3, 4, 3}, 2, -2, []int{1, 2, 1, 2, 3}}, {[]int{1, 2, 3, 4, 4}, 3, -3, nil},
		{[]int{1, 2, 3, 4}, 3, -3, []int{1, 2, 3, 1}}, {[]int{1, 2, 3, 4}, 3, -4, nil}, {[]int{1, 2, 3, 4}, 3, 1, nil}, {[]int{1, 2, 3, 3}, 3, 1, []int{1, 2, 3, 4}},
		{[]int{1, 2, 3, 1}, 3, 3, []int{1, 2, 3, 4}}, {[]int{1, 2, 3, 1}, 3, 4, nil}, {[]int{1, 2, 3, 1, 2}, 3, 3, nil}, {[]int{1, 2, 3, 1, 2}, 3, 2, []int{1, 2, 3, 3, 4}},
		{[]int{1, 2, 3, 4}, 1, -1, []int{1, 1, 2, 3}}, {[]int{1, 2, 3, 4}, 2, -2, []int{1, 2, 1, 2}}, {[]int{1, 2, 2, 3, 4}, 2, 1, nil},
		{[]int{1, 1}, 1, 4, nil}, {[]int{1, 1}, 1, -4, nil}, {[]int{1, 1}, 1, 5, nil}, {[]int{1, 1}, 1, -5, nil},
	} {
		list := sectionsOf(c.depths...)
		want := sectionsOf(c.want...)
		if got, ok := impl.ShiftSection(list, c.i, c.by); ok != (c.want != nil) || !slices.Equal(got, want) {
			t.Errorf("%d of %v shifted by %d: %v, %v; want %v", c.i, c.depths, c.by, got, ok, c.want)
		}
	}
	for _, by := range []int{-5, 5, 8, 1 << 32, 1<<32 + 1, -1 << 32, math.MinInt, math.MinInt + 1, math.MaxInt, math.MaxInt - 1} {
		for i := range sevenSections() {
			if got, ok := impl.ShiftSection(sevenSections(), i, by); ok || len(got) != 0 {
				t.Errorf("%d shifted by %d: %v", i, by, got)
			}
		}
	}
}

func TestInvalidDocuments(t *testing.T) {
	for name, list := range invalidDocuments() {
		for i := range min(len(list), 13) + 1 {
			checkNoSection(t, name, list, i)
			for depth := range 6 {
				if got, ok := impl.AddSection(list, i, impl.Section{Depth: depth, Title: "new"}); ok || len(got) != 0 {
					t.Error("AddSection:", name, i, depth, got)
				}
			}
		}
		for _, i := range noIndices(list) {
			checkNoSection(t, name, list, i)
		}
		for _, number := range []string{"", "0", "1", "1.1", "1.1.1", "1.1.1.1", "1.1.1.1.1", "2", "1.0.1", "0.1", "13"} {
			if got, ok := impl.FindSection(list, number); ok || got != 0 {
				t.Error("FindSection:", name, number, got)
			}
		}
		if got, ok := impl.DocumentText(list); ok || got != "" {
			t.Errorf("DocumentText: %s: %.80q", name, got)
		}
	}
}

func TestEveryTitleInADocumentText(t *testing.T) {
	for _, title := range []string{"a", "z", "az", "abcdefghi", "abcdefghij", "one", "section"} {
		list := sevenSections()
		for i := range list {
			list[i].Title = title
		}
		checkDocument(t, list)
		checkParseDocument(t, "1 "+title+"\n")
	}
	if got, ok := impl.DocumentText(nil); !ok || got != "" {
		t.Errorf("of none: %q, %v", got, ok)
	}
	if got, ok := impl.ParseDocument(""); !ok || len(got) != 0 {
		t.Error("of the empty text", got, ok)
	}
}

func TestParseDocumentInvalid(t *testing.T) {
	for _, s := range []string{
		"\n", "\n\n", " ", " \n", "  \n", "x", "x\n", "1\n", "1 \n", " x\n", ". x\n", " 1 x\n", "1  x\n", "1 x \n", "1\tx\n", "1x\n", "1x x\n", "x 1\n", "x x\n", "1 1\n",
		"1 x", "1 x\n1.1 y", "1 x\n\n", "\n1 x\n", "1 x\n\n2 y\n", "1 x\n ", "1 x\r\n", "1 x;", "1 x\x00\n", "1 x\n2 y\n\n", "1 x 1.1 y\n",
		"01 x\n", "+1 x\n", "-1 x\n", "0 x\n", "-0 x\n", "2 x\n", "10 x\n", "1. x\n", "1.. x\n", ".1 x\n", "1.1 x\n", "1.1.1.1 x\n", "0.1 x\n", "1.0 x\n", "1, x\n", "1) x\n",
		"18446744073709551617 x\n", "4294967297 x\n", "I x\n", "one x\n", "a x\n",
		"1 X\n", "1 x1\n", "1 abcdefghijk\n", "1 caf\u00e9\n", "1 the bylaws\n", "1 x y\n", "1 x.\n", "1 x-y\n", "1 .\n", "1 x 2\n",
		"1 x\n1 y\n", "1 x\n3 y\n", "1 x\n2 y\n2 z\n", "1 x\n2 y\n4 z\n", "1 x\n2 y\n1 z\n", "2 x\n1 y\n", "0 x\n1 y\n", "1 x\n02 y\n", "1 x\n+2 y\n", "1 x\n2. y\n",
		"1 x\n1.2 y\n", "1 x\n1.0 y\n", "1 x\n2.1 y\n", "1 x\n0.1 y\n", "1 x\n1.01 y\n", "1 x\n01.1 y\n", "1 x\n1..1 y\n", "1 x\n1.1. y\n", "1 x\n.1 y\n", "1 x\n1. y\n", "1 x\n1.a y\n",
		"1 x\n.1.1 y\n", "1 x\n1,1 y\n", "1 x\n1-1 y\n", "1 x\n1 1 y\n", "1 x\n1. 1 y\n", "1 x\n1 .1 y\n",
		"1 x\n1.1.1 y\n", "1 x\n1.1 y\n1.1.1.1 z\n", "1 x\n1.1 y\n1.1 z\n", "1 x\n1.1 y\n1.3 z\n", "1 x\n1.1 y\n2.1 z\n", "1 x\n1.1 y\n2 z\n1.2 w\n", "1 x\n1.1 y\n3 z\n",
		"1 x\n1.1 y\n2 z\n2.2 w\n", "1 x\n1.1 y\n2 z\n1.1 w\n", "1 x\n2 y\n1.1 z\n", "1 x\n2 y\n3.1 z\n", "1 x\n1.1 y\n1.1.1 z\n1.1.3 w\n", "1 x\n1.1 y\n1.1.1 z\n1.2.1 w\n",
		"1 x\n1.1 x\n1.1.1 x\n1.1.1.1 x\n1.1.1.1.1 x\n", "1 x\n1.1 x\n1.1.1 x\n1.1.1.2 x\n", "1 x\n1.1 x\n1.1.1 x\n1.1.1. x\n", "1 x\n1.1\n", "1 x\n1.1 \n", "1 x\n1.1  y\n",
		"1 x\n y\n", "1 x\ny\n", "1 x\n\ty\n", "1 x\n 1.1 y\n", "1 x\n1.1 y \n",
		strings.Repeat("1 x\n", 2), strings.Repeat("1 x\n", 1001), strings.Repeat(sevenSectionsText, 2), strings.Repeat(sevenSectionsText, 10000),
		strings.TrimSuffix(sevenSectionsText, "\n"), "\n" + sevenSectionsText, sevenSectionsText + "\n", sevenSectionsText + "3.1 \n", sevenSectionsText + "3 x\n", sevenSectionsText + "5 x\n",
		textOfSections(flatSections(13)), textOfSections(flatSections(100)), textOfSections(sectionsOf(1, 2, 3, 4, 1, 2, 3, 4, 1, 2, 3, 4, 1)),
		strings.Repeat("\n", 4000), strings.Repeat("\n", 4001), strings.Repeat(" ", 5000), strings.Repeat(".", 4000) + " x\n", strings.Repeat("1.", 1990) + "1 x\n",
		"1 " + strings.Repeat("a", 5000) + "\n", strings.Repeat("9", 5000) + " x\n",
	} {
		documentForm.checkNone(t, s)
		checkParseDocument(t, s)
	}
}

func TestParseDocumentOnChangedText(t *testing.T) {
	for _, text := range []string{
		sevenSectionsText, "1 a\n", "1 abcdefghij\n", "1 x\n1.1 y\n", "1 x\n2 y\n2.1 z\n", textOfSections(fullDocuments()[0]), textOfSections(fullDocuments()[1]),
		textOfSections(sectionsOf(1, 2, 3, 4, 4)),
	} {
		eachChange(text, func(s string) { checkParseDocument(t, s) })
		documentForm.checkCuts(t, text)
	}
}

func TestParseDocumentOnEveryNumber(t *testing.T) {
	parts := []string{"", "0", "1", "2", "3", "01", "a"}
	numbers := slices.Clone(parts)
	for _, first := range parts {
		for _, second := range parts {
			numbers = append(numbers, first+"."+second, first+"."+second+".1", "1."+first+"."+second, "1.1."+first+"."+second, "1.1.1."+first+"."+second)
		}
	}
	for _, start := range []string{"", "1 x\n", "1 x\n1.1 x\n", "1 x\n2 x\n", "1 x\n1.1 x\n1.1.1 x\n", "1 x\n1.1 x\n1.1.1 x\n1.1.1.1 x\n", "1 x\n1.1 x\n2 x\n", sevenSectionsText} {
		for _, number := range numbers {
			checkParseDocument(t, start+number+" x\n")
			checkParseDocument(t, start+number+" x\n2 x\n")
			checkParseDocument(t, start+number+" x\n1.2 x\n")
			checkParseDocument(t, start+number+" x\n1.1.1 x\n")
		}
	}
}

func TestParseDocumentOnEveryOrderOfLines(t *testing.T) {
	eachOrder(strings.Split(strings.TrimSuffix(sevenSectionsText, "\n"), "\n"), 0, func(lines []string) {
		checkParseDocument(t, strings.Join(lines, "\n")+"\n")
	})
	words := []string{"1", "1.1", "2", "x", ""}
	for _, word := range words {
		eachSequence(words, 3, word, func(s string) {
			checkParseDocument(t, s+"\n")
			checkParseDocument(t, "1 x\n"+s+"\n")
		})
	}
}

func TestDocumentFunctionsLeaveTheirArguments(t *testing.T) {
	beyond := impl.Section{Depth: -1, Title: "beyond the length"}
	memory := append([]impl.Section{beyond}, append(sevenSections(), beyond, beyond)...)
	kept := slices.Clone(memory)
	list := memory[1:8]
	results := [][]impl.Section{}
	keep := func(result []impl.Section, _ bool) { results = append(results, result) }
	for i := -1; i <= len(list)+1; i++ {
		keep(impl.CutSection(list, i))
		for by := -4; by <= 4; by++ {
			keep(impl.ShiftSection(list, i, by))
			keep(impl.AddSection(list, i, impl.Section{Depth: by, Title: "new"}))
		}
	}
	keep(impl.CutSection(list[:1], 0))
	keep(impl.AddSection(list[:0], 0, list[0]))
	keep(impl.ShiftSection(memory, 0, 1))
	for _, result := range results {
		// Even what lies beyond the length of a result must not be the argument's memory.
		result = result[:cap(result)]
		for i := range result {
			result[i] = beyond
		}
	}
	for i := range memory {
		impl.SectionNumber(list, i)
		impl.BelongsTo(list, i)
		impl.PartOf(list, i)
	}
	impl.IsDocument(list)
	impl.FindSection(list, "2.1.1.1")
	impl.FindSection(list, "4")
	impl.DocumentText(list)
	if !slices.Equal(memory, kept) {
		t.Error("changed", memory)
	}
	checkDocument(t, list)
}

func TestDocumentResultsAreRepeated(t *testing.T) {
	cut, _ := impl.CutSection(sevenSections(), 2)
	added, _ := impl.AddSection(sevenSections(), 0, impl.Section{Depth: 1, Title: "new"})
	shifted, _ := impl.ShiftSection(sevenSections(), 2, 0)
	parsed, _ := impl.ParseDocument(sevenSectionsText)
	for _, result := range [][]impl.Section{cut, added, shifted, parsed} {
		result[0] = impl.Section{}
	}
	checkDocument(t, sevenSections())
}
