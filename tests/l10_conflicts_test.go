package tests

import (
	"cmp"
	"fmt"
	"math"
	"slices"
	"strings"
	"testing"

	"loop.example/g00909/impl"
)

// proposal returns a Proposal.
func proposal(id int, weight int, change impl.Amendment) impl.Proposal {
	return impl.Proposal{Id: id, Change: change, Weight: weight}
}

// proposed returns Proposals with the Ids 1, 2, ... and the Weight 1.
func proposed(changes ...impl.Amendment) []impl.Proposal {
	list := []impl.Proposal{}
	for i, a := range changes {
		list = append(list, proposal(i+1, 1, a))
	}
	return list
}

// weighted returns Proposals with the Ids 1, 2, ..., all of which strike one word, the same one if
// the letters in places are equal, with these Weights.
func weighted(places string, weights ...int) []impl.Proposal {
	list := []impl.Proposal{}
	for i, weight := range weights {
		list = append(list, proposal(i+1, weight, strike(1, int(places[i]-'a'))))
	}
	return list
}

// letters returns the text of these letters.
func letters(s string) []string {
	text := []string{}
	for i := range len(s) {
		text = append(text, s[i:i+1])
	}
	return text
}

// areProposals reports whether text is a text and list is a list of proposals for it.
func areProposals(text []string, list []impl.Proposal) bool {
	if len(text) > 20 || len(list) > 8 {
		return false
	}
	for _, word := range text {
		if !isTitle.MatchString(word) {
			return false
		}
	}
	for i, p := range list {
		if p.Id <= 0 || p.Id >= 100 || p.Weight <= 0 || p.Weight >= 101 || i > 0 && list[i-1].Id >= p.Id || !isAmendment(p.Change) {
			return false
		}
		if _, _, fits := amended(text, p.Change); !fits {
			return false
		}
	}
	return true
}

// strikesWord reports whether an Amendment strikes the word with an index.
func strikesWord(a impl.Amendment, word int) bool { return word >= a.At && word < a.At+a.Count }

// isInside reports whether a inserts or replaces inside of the words that b strikes: b strikes the
// words on both sides of the place.
func isInside(a impl.Amendment, b impl.Amendment) bool {
	return a.Kind != impl.AmendStrike && strikesWord(b, a.At-1) && strikesWord(b, a.At)
}

// inConflict reports whether two valid Amendments conflict.
func inConflict(a impl.Amendment, b impl.Amendment) bool {
	for word := range 30 {
		if strikesWord(a, word) && strikesWord(b, word) {
			return true
		}
	}
	bothInsert := a.Kind != impl.AmendStrike && b.Kind != impl.AmendStrike
	return isInside(a, b) || isInside(b, a) || bothInsert && a.At == b.At
}

// shifted counts the words that stand before the place of a after b, with which it does not
// conflict, and returns a at this place; it fails if this is none.
func shifted(a impl.Amendment, b impl.Amendment) (impl.Amendment, bool) {
	before := 0
	for word := range a.At {
		if !strikesWord(b, word) {
			before++
		}
	}
	// What is inserted at the very place stands before the words that a strikes, but behind what a
	// inserts.
	if b.At < a.At || b.At == a.At && a.Kind != impl.AmendInsert {
		before += len(b.Words)
	}
	if before > 20 {
		return impl.Amendment{}, false
	}
	return impl.Amendment{Kind: a.Kind, At: before, Count: a.Count, Words: a.Words}, true
}

// appliedTogether goes through a text place by place and returns what it becomes by Amendments that
// do not conflict; there may be too many words.
func appliedTogether(text []string, list []impl.Proposal) []string {
	result := []string{}
	for place := 0; place <= len(text); place++ {
		struck := place == len(text)
		for _, p := range list {
			struck = struck || strikesWord(p.Change, place)
			if p.Change.At == place {
				result = append(result, p.Change.Words...)
			}
		}
		if !struck {
			result = append(result, text[place])
		}
	}
	return result
}

// pairsInConflict returns the pairs of the Ids of Proposals that conflict.
func pairsInConflict(list []impl.Proposal) [][2]int {
	pairs := [][2]int{}
	for i, p := range list {
		for _, later := range list[i+1:] {
			if inConflict(p.Change, later.Change) {
				pairs = append(pairs, [2]int{p.Id, later.Id})
			}
		}
	}
	return pairs
}

// peacefulSets returns the Ids of all sets of Proposals of which no two conflict, each with the sum
// of its Weights before them.
func peacefulSets(list []impl.Proposal) [][]int {
	pairs, sets := pairsInConflict(list), [][]int{{0}}
	for _, p := range list {
		for _, set := range slices.Clone(sets) {
			rival := slices.ContainsFunc(set[1:], func(id int) bool { return slices.Contains(pairs, [2]int{id, p.Id}) })
			if !rival {
				larger := append(slices.Clone(set), p.Id)
				larger[0] += p.Weight
				sets = append(sets, larger)
			}
		}
	}
	return sets
}

// heaviestOf returns the Ids of the set that HeaviestSet has to choose, and the sum of its Weights.
func heaviestOf(list []impl.Proposal) ([]int, int) {
	sets := peacefulSets(list)
	slices.SortFunc(sets, func(a, b []int) int {
		return cmp.Or(b[0]-a[0], len(a)-len(b), slices.Compare(a[1:], b[1:]))
	})
	return sets[0][1:], sets[0][0]
}

// freeOf returns the Ids of the Proposals that stand in none of the pairs.
func freeOf(list []impl.Proposal, pairs [][2]int) []int {
	free := []int{}
	for _, p := range list {
		if !slices.ContainsFunc(pairs, func(pair [2]int) bool { return pair[0] == p.Id || pair[1] == p.Id }) {
			free = append(free, p.Id)
		}
	}
	return free
}

// checkProposals checks all that is done with a text and a list of any kind.
func checkProposals(t *testing.T, text []string, list []impl.Proposal) {
	t.Helper()
	if !areProposals(text, list) {
		checkNoProposals(t, fmt.Sprintf("%.200v for %.200v", list, text), text, list)
		return
	}
	name := fmt.Sprint(list, " for ", text)
	if !impl.AreProposals(text, list) {
		t.Error("no proposals:", name)
	}
	want := pairsInConflict(list)
	if pairs, ok := impl.ConflictPairs(text, list); !ok || !slices.Equal(pairs, want) {
		t.Errorf("ConflictPairs of %s: %v, %v; want %v", name, pairs, ok, want)
	}
	if free, ok := impl.FreeProposals(text, list); !ok || !slices.Equal(free, freeOf(list, want)) {
		t.Errorf("FreeProposals of %s: %v, %v; want %v", name, free, ok, freeOf(list, want))
	}
	ids, sum := heaviestOf(list)
	if got, weight, ok := impl.HeaviestSet(text, list); !ok || !slices.Equal(got, ids) || weight != sum {
		t.Errorf("HeaviestSet of %s: %v, %d, %v; want %v, %d", name, got, weight, ok, ids, sum)
	}
	result, fine := appliedTogether(text, list), len(want) == 0
	if len(result) > 20 || !fine {
		result, fine = nil, false
	}
	got, ok := impl.ApplyTogether(text, list)
	checkText(t, "ApplyTogether of "+name, got, ok, result, fine)
}

// checkNoProposals checks that every function fails for what is no list of proposals for a text.
func checkNoProposals(t *testing.T, name string, text []string, list []impl.Proposal) {
	t.Helper()
	if impl.AreProposals(text, list) {
		t.Error("proposals:", name)
	}
	if pairs, ok := impl.ConflictPairs(text, list); ok || len(pairs) != 0 {
		t.Error("ConflictPairs:", name, pairs, ok)
	}
	if free, ok := impl.FreeProposals(text, list); ok || len(free) != 0 {
		t.Error("FreeProposals:", name, free, ok)
	}
	if ids, sum, ok := impl.HeaviestSet(text, list); ok || len(ids) != 0 || sum != 0 {
		t.Error("HeaviestSet:", name, ids, sum, ok)
	}
	got, ok := impl.ApplyTogether(text, list)
	checkText(t, "ApplyTogether: "+name, got, ok, nil, false)
}

// checkTwo checks whether two valid Amendments conflict, and what each one is after the other one.
func checkTwo(t *testing.T, a impl.Amendment, b impl.Amendment) {
	t.Helper()
	conflict := inConflict(a, b)
	for _, pair := range [][2]impl.Amendment{{a, b}, {b, a}} {
		if got, ok := impl.DoConflict(pair[0], pair[1]); !ok || got != conflict {
			t.Errorf("DoConflict of %v: %v, %v; want %v", pair, got, ok, conflict)
		}
		want, fine := impl.Amendment{}, false
		if !conflict {
			want, fine = shifted(pair[0], pair[1])
		}
		if got, ok := impl.ShiftedChange(pair[0], pair[1]); ok != fine || !sameAmendment(got, want) {
			t.Errorf("ShiftedChange of %v: %v, %v; want %v, %v", pair, got, ok, want, fine)
		}
	}
}

// checkBothOrders checks that two Amendments that fit a text and do not conflict give the same text
// in both orders, which is that of both together; where this has too many words, there is none in
// either order.
func checkBothOrders(t *testing.T, text []string, a impl.Amendment, b impl.Amendment) {
	t.Helper()
	together, fine := impl.ApplyTogether(text, proposed(a, b))
	for _, pair := range [][2]impl.Amendment{{a, b}, {b, a}} {
		after, _ := impl.ApplyAmendment(text, pair[0])
		next, ok := impl.ShiftedChange(pair[1], pair[0])
		if ok {
			after, ok = impl.ApplyAmendment(after, next)
		}
		if ok != fine || ok && !slices.Equal(after, together) {
			t.Errorf("%v, then %v, to %v: %v, %v; together %v, %v", pair[0], next, text, after, ok, together, fine)
		}
	}
}

// checkNoTwo checks that no function takes two Amendments of which one is not valid.
func checkNoTwo(t *testing.T, name string, a impl.Amendment, b impl.Amendment) {
	t.Helper()
	for _, pair := range [][2]impl.Amendment{{a, b}, {b, a}} {
		if got, ok := impl.DoConflict(pair[0], pair[1]); ok || got {
			t.Errorf("DoConflict, %s: %v, %v", name, got, ok)
		}
		got, ok := impl.ShiftedChange(pair[0], pair[1])
		checkIsAmendment(t, "ShiftedChange, "+name, got, ok, impl.Amendment{}, false)
		got, ok = impl.SecondaryChange(pair[0], pair[1])
		checkIsAmendment(t, "SecondaryChange, "+name, got, ok, impl.Amendment{}, false)
	}
}

// checkSecondary checks what becomes of a valid Amendment by another one.
func checkSecondary(t *testing.T, a impl.Amendment, b impl.Amendment) {
	t.Helper()
	words, _, fine := amended(a.Words, b)
	want := impl.Amendment{Kind: a.Kind, At: a.At, Count: a.Count, Words: words}
	if !fine || !isAmendment(want) {
		want, fine = impl.Amendment{}, false
	}
	got, ok := impl.SecondaryChange(a, b)
	if ok != fine || !sameAmendment(got, want) {
		t.Errorf("SecondaryChange of %v by %v: %v, %v; want %v, %v", a, b, got, ok, want, fine)
	}
}

// eachShape calls visit with Amendments of each kind, with as many Words as listed, at all places.
func eachShape(places []int, sizes []int, visit func(impl.Amendment)) {
	for _, at := range places {
		for _, size := range sizes {
			words := textFrom("x", size)
			visit(insertion(at, words...))
			for count := 1; count <= 5; count++ {
				visit(replacement(count, at, words...))
			}
		}
		for count := 1; count <= 5; count++ {
			visit(strike(count, at))
		}
	}
}

// allShapes returns what eachShape visits.
func allShapes(places []int, sizes []int) []impl.Amendment {
	list := []impl.Amendment{}
	eachShape(places, sizes, func(a impl.Amendment) { list = append(list, a) })
	return list
}

// fitting returns the Amendments that fit a text.
func fitting(text []string, list []impl.Amendment) []impl.Amendment {
	return slices.DeleteFunc(slices.Clone(list), func(a impl.Amendment) bool {
		_, _, fits := amended(text, a)
		return !fits
	})
}

// sixProposals are Proposals for the text of the letters a to h.
func sixProposals() []impl.Proposal {
	return []impl.Proposal{
		proposal(3, 10, strike(2, 1)), proposal(7, 4, insertion(1, "x", "y")), proposal(8, 6, insertion(2, "z")),
		proposal(20, 5, replacement(2, 2, "u")), proposal(50, 9, replacement(1, 4, "v", "w")), proposal(99, 100, insertion(8, "end")),
	}
}

func TestConstantsOfConflicts(t *testing.T) {
	if impl.MaxProposals != 8 {
		t.Error("MaxProposals", impl.MaxProposals)
	}
}

func TestProposals(t *testing.T) {
	text, list := letters("abcdefgh"), sixProposals()
	if !impl.AreProposals(text, list) {
		t.Fatal("no proposals")
	}
	pairs, ok := impl.ConflictPairs(text, list)
	if want := [][2]int{{3, 8}, {3, 20}, {8, 20}}; !ok || !slices.Equal(pairs, want) {
		t.Error("pairs", pairs, ok)
	}
	if free, ok := impl.FreeProposals(text, list); !ok || !slices.Equal(free, []int{7, 50, 99}) {
		t.Error("free", free, ok)
	}
	if ids, sum, ok := impl.HeaviestSet(text, list); !ok || sum != 123 || !slices.Equal(ids, []int{3, 7, 50, 99}) {
		t.Error("heaviest", ids, sum, ok)
	}
	together, ok := impl.ApplyTogether(text, []impl.Proposal{list[0], list[1], list[4], list[5]})
	checkText(t, "together", together, ok, strings.Fields("a x y d v w f g h end"), true)
	checkProposals(t, text, list)
}

func TestListsOfProposals(t *testing.T) {
	twenty := textFrom("w", 20)
	many := []impl.Proposal{}
	for i := range 12 {
		many = append(many, proposal(i+1, i+1, strike(1, i)))
	}
	for n := range 9 {
		if !impl.AreProposals(twenty, many[:n]) {
			t.Error("no list of", n)
		}
		checkProposals(t, twenty, many[:n])
		checkProposals(t, twenty[:n], many[:n])
	}
	for n := 9; n <= 12; n++ {
		checkNoProposals(t, fmt.Sprint(n, " Proposals"), twenty, many[:n])
	}
	checkNoProposals(t, "very many Proposals", twenty, make([]impl.Proposal, 100000))
	checkNoProposals(t, "very many equal Proposals", twenty, slices.Repeat(many[:1], 100000))
	checkProposals(t, nil, nil)
	checkProposals(t, twenty, nil)
	checkProposals(t, nil, proposed(insertion(0, "x")))
	checkNoProposals(t, "a zero Proposal", twenty, make([]impl.Proposal, 1))
	checkNoProposals(t, "a strike of nothing", nil, many[:1])
}

func TestIdsOfProposals(t *testing.T) {
	for _, ids := range [][]int{
		{1}, {2}, {50}, {98}, {99}, {1, 2}, {1, 99}, {98, 99}, {1, 50, 99}, {1, 2, 3, 4, 5, 6, 7, 8}, {92, 93, 94, 95, 96, 97, 98, 99},
		{0}, {-1}, {100}, {101}, {-99}, {1 << 32}, {1<<32 + 1}, {math.MinInt}, {math.MaxInt}, {0, 1}, {-1, 1}, {99, 100}, {1, 100},
		{1, 1}, {99, 99}, {2, 1}, {99, 98}, {1, 2, 2}, {1, 1, 2}, {1, 3, 2}, {3, 1, 2}, {1, 2, 1}, {1, math.MaxInt}, {math.MinInt, 1},
		{1, 2, 3, 4, 5, 6, 7, 7}, {1, 2, 3, 4, 5, 6, 8, 7}, {92, 93, 94, 95, 96, 97, 98, 100}, {0, 1, 2, 3, 4, 5, 6, 7},
	} {
		list, valid := []impl.Proposal{}, ids[0] >= 1
		for i, id := range ids {
			list = append(list, proposal(id, 1, strike(1, i)))
			valid = valid && id <= 99 && (i == 0 || ids[i-1] < id)
		}
		if impl.AreProposals(letters("abcdefgh"), list) != valid {
			t.Error("Ids", ids)
		}
		checkProposals(t, letters("abcdefgh"), list)
	}
}

func TestWeightsOfProposals(t *testing.T) {
	for _, weight := range []int{1, 2, 50, 99, 100, 0, -1, -100, 101, 102, 1 << 32, 1<<32 + 1, math.MinInt, math.MaxInt} {
		for at := range 3 {
			list := weighted("abc", 7, 7, 7)
			list[at].Weight = weight
			if valid := weight >= 1 && weight <= 100; impl.AreProposals(letters("abc"), list) != valid {
				t.Error("Weight", weight)
			}
			checkProposals(t, letters("abc"), list)
		}
	}
}

func TestProposalsThatDoNotFit(t *testing.T) {
	for name, a := range map[string]impl.Amendment{
		"insertion behind the end":        insertion(5, "x"),
		"insertion far behind the end":    insertion(20, "x"),
		"strike at the end":               strike(1, 4),
		"strike past the end":             strike(3, 2),
		"strike of all and one more":      strike(5, 0),
		"replacement at the end":          replacement(1, 4, "x"),
		"replacement past the end":        replacement(2, 3, "x"),
		"replacement by the same word":    replacement(1, 3, "ten"),
		"replacement by the same words":   replacement(2, 1, "fee", "is"),
		"replacement of all by the words": replacement(4, 0, "the", "fee", "is", "ten"),
	} {
		if !impl.IsValidAmendment(a) {
			t.Error("not valid:", name)
		}
		for at := range 3 {
			list := proposed(strike(1, 0), insertion(4, "x"), strike(1, 1))
			checkProposals(t, fee(), list)
			list[at].Change = a
			checkNoProposals(t, name, fee(), list)
		}
	}
	twenty := textFrom("w", 20)
	checkNoProposals(t, "insertion above MaxWords", twenty, proposed(insertion(20, "x")))
	checkNoProposals(t, "insertion above MaxWords, beside a strike", twenty, proposed(strike(5, 0), insertion(20, "x")))
	checkNoProposals(t, "replacement above MaxWords", twenty, proposed(replacement(1, 0, "x", "y"), strike(1, 5)))
}

func TestInvalidTextsAndAmendmentsOfProposals(t *testing.T) {
	lists := [][]impl.Proposal{nil, proposed(insertion(0, "x")), proposed(strike(1, 0), strike(1, 1)), proposed(replacement(1, 0, "x"))}
	for _, list := range lists {
		for _, n := range []int{21, 22, 256, 100000} {
			checkNoProposals(t, fmt.Sprint(n, " words"), textFrom("w", n), list)
		}
		for _, word := range noWords {
			for at := range 4 {
				text := fee()
				text[at] = word
				checkNoProposals(t, fmt.Sprintf("%.20q in the text", word), text, list)
			}
		}
	}
	for name, a := range invalidAmendments() {
		for at := range 3 {
			list := proposed(strike(1, 0), insertion(4, "x"), strike(1, 1))
			list[at].Change = a
			checkNoProposals(t, name, fee(), list)
		}
		for _, b := range []impl.Amendment{insertion(0, "x"), insertion(20, "x"), strike(1, 0), strike(5, 16), replacement(1, 1, "x"), a} {
			checkNoTwo(t, name, a, b)
		}
	}
	for _, word := range noWords {
		for _, a := range []impl.Amendment{insertion(1, word), replacement(1, 1, "a", word), {Kind: impl.AmendStrike, Count: 1, Words: []string{word}}} {
			checkNoProposals(t, "no word", fee(), proposed(a))
			checkNoTwo(t, "no word", a, insertion(0, "x"))
			checkNoTwo(t, "no word", a, strike(1, 0))
		}
	}
}

func TestDoConflict(t *testing.T) {
	for name, c := range map[string]struct {
		a    impl.Amendment
		b    impl.Amendment
		want bool
	}{
		"strikes of one common word":               {strike(2, 1), strike(2, 2), true},
		"strikes of all words in common":           {strike(2, 1), strike(2, 1), true},
		"strikes of one word, the same":            {strike(1, 4), strike(1, 4), true},
		"a strike inside of a strike":              {strike(5, 1), strike(1, 3), true},
		"a strike of the first struck word":        {strike(3, 1), strike(1, 1), true},
		"a strike of the last struck word":         {strike(3, 1), strike(1, 3), true},
		"strikes that meet":                        {strike(2, 1), strike(2, 3), false},
		"strikes far from each other":              {strike(1, 0), strike(5, 20), false},
		"strikes at MaxWords":                      {strike(1, 20), strike(5, 20), true},
		"strikes beyond MaxWords that meet":        {strike(4, 16), strike(5, 20), false},
		"strikes beyond MaxWords":                  {strike(5, 16), strike(5, 20), true},
		"an insertion at the first struck word":    {insertion(1, "x"), strike(3, 1), false},
		"an insertion at the second struck word":   {insertion(2, "x"), strike(3, 1), true},
		"an insertion at the last struck word":     {insertion(3, "x"), strike(3, 1), true},
		"an insertion behind the struck words":     {insertion(4, "x"), strike(3, 1), false},
		"an insertion before the struck words":     {insertion(0, "x"), strike(3, 1), false},
		"an insertion at a single struck word":     {insertion(1, "x"), strike(1, 1), false},
		"an insertion behind a single one":         {insertion(2, "x"), strike(1, 1), false},
		"an insertion at the first replaced word":  {insertion(1, "x"), replacement(3, 1, "y"), true},
		"an insertion at a single replaced word":   {insertion(1, "x"), replacement(1, 1, "y"), true},
		"an insertion inside of replaced words":    {insertion(2, "x"), replacement(3, 1, "y"), true},
		"an insertion at the last replaced word":   {insertion(3, "x"), replacement(3, 1, "y"), true},
		"an insertion behind the replaced words":   {insertion(4, "x"), replacement(3, 1, "y"), false},
		"an insertion before the replaced words":   {insertion(0, "x"), replacement(3, 1, "y"), false},
		"many words inserted before replaced ones": {insertion(0, "a", "b", "c", "d", "e"), replacement(3, 1, "y"), false},
		"a replacement at the first struck word":   {replacement(1, 1, "x"), strike(3, 1), true},
		"a replacement inside of struck words":     {replacement(1, 2, "x"), strike(3, 1), true},
		"a replacement at the last struck word":    {replacement(1, 3, "x"), strike(3, 1), true},
		"a replacement behind the struck words":    {replacement(1, 4, "x"), strike(3, 1), false},
		"a replacement up to the struck words":     {replacement(2, 1, "x"), strike(3, 3), false},
		"a replacement of the first struck word":   {replacement(3, 1, "x"), strike(3, 3), true},
		"a long replacement next to a strike":      {replacement(1, 1, "a", "b", "c", "d", "e"), strike(1, 2), false},
		"replacements of one common word":          {replacement(2, 1, "x"), replacement(2, 2, "y"), true},
		"replacements of the same words":           {replacement(2, 1, "x"), replacement(2, 1, "x"), true},
		"replacements that meet":                   {replacement(2, 1, "x", "y", "z"), replacement(2, 3, "y"), false},
		"insertions before the same word":          {insertion(1, "x"), insertion(1, "y"), true},
		"insertions of the same word":              {insertion(1, "x"), insertion(1, "x"), true},
		"insertions at the end":                    {insertion(20, "x"), insertion(20, "y", "z"), true},
		"insertions at the beginning":              {insertion(0, "x"), insertion(0, "y", "z"), true},
		"insertions next to each other":            {insertion(1, "x", "y", "z"), insertion(2, "y"), false},
		"an insertion behind a replacement":        {insertion(2, "x"), replacement(1, 1, "y", "z"), false},
		"an insertion and a strike at MaxWords":    {insertion(20, "x"), strike(5, 20), false},
		"an insertion at MaxWords inside":          {insertion(20, "x"), strike(5, 16), true},
		"an insertion at MaxWords behind":          {insertion(20, "x"), strike(5, 15), false},
	} {
		for _, pair := range [][2]impl.Amendment{{c.a, c.b}, {c.b, c.a}} {
			if got, ok := impl.DoConflict(pair[0], pair[1]); !ok || got != c.want {
				t.Errorf("%s: %v, %v", name, got, ok)
			}
			if moved, ok := impl.ShiftedChange(pair[0], pair[1]); ok && c.want {
				t.Errorf("%s: shifted %v", name, moved)
			}
		}
		checkTwo(t, c.a, c.b)
	}
}

func TestEveryTwoShapes(t *testing.T) {
	shapes := allShapes([]int{0, 1, 2, 3, 4, 5, 6, 7, 13, 14, 15, 16, 17, 18, 19, 20}, []int{1, 2, 5})
	pairs, conflicts := 0, 0
	for i, a := range shapes {
		for _, b := range shapes[i:] {
			checkTwo(t, a, b)
			pairs++
			if inConflict(a, b) {
				conflicts++
			}
		}
	}
	if conflicts < 10000 || pairs-conflicts < 10000 {
		t.Error("wrong test:", conflicts, "of", pairs)
	}
}

func TestShiftedChange(t *testing.T) {
	five := []string{"a", "b", "c", "d", "e"}
	for name, c := range map[string]struct {
		a    impl.Amendment
		b    impl.Amendment
		want impl.Amendment
	}{
		"behind an insertion":                     {strike(2, 4), insertion(1, "x", "y"), strike(2, 6)},
		"right behind an insertion":               {insertion(2, "z"), insertion(1, "x", "y"), insertion(4, "z")},
		"behind an insertion of MaxPhrase words":  {insertion(2, "z"), insertion(1, five...), insertion(7, "z")},
		"behind a strike":                         {replacement(1, 4, "z"), strike(3, 0), replacement(1, 1, "z")},
		"right behind a strike":                   {insertion(3, "z"), strike(3, 0), insertion(0, "z")},
		"a strike right behind a strike":          {strike(2, 3), strike(2, 1), strike(2, 1)},
		"behind a replacement by more words":      {insertion(5, "z"), replacement(1, 2, "x", "y", "z"), insertion(7, "z")},
		"behind a replacement by fewer words":     {insertion(5, "z"), replacement(3, 2, "x"), insertion(3, "z")},
		"behind a replacement by as many words":   {strike(1, 5), replacement(2, 2, "x", "y"), strike(1, 5)},
		"right behind a replacement":              {replacement(2, 3, "z"), replacement(1, 2, "x", "y"), replacement(2, 4, "z")},
		"a strike where words are inserted":       {strike(2, 4), insertion(4, "x", "y", "z"), strike(2, 7)},
		"a strike at 0 where words are inserted":  {strike(1, 0), insertion(0, "x"), strike(1, 1)},
		"an insertion where words are struck":     {insertion(4, "x"), strike(5, 4), insertion(4, "x")},
		"an insertion at 0 where they are struck": {insertion(0, "x"), strike(1, 0), insertion(0, "x")},
		"before an insertion":                     {strike(2, 1), insertion(3, "x"), strike(2, 1)},
		"before a strike":                         {insertion(1, "z"), strike(3, 2), insertion(1, "z")},
		"before a replacement":                    {replacement(1, 1, "z", "y"), replacement(1, 2, five...), replacement(1, 1, "z", "y")},
		"to MaxWords":                             {insertion(19, "z"), insertion(0, "x"), insertion(20, "z")},
		"a strike to MaxWords":                    {strike(5, 15), insertion(15, five...), strike(5, 20)},
		"from MaxWords on":                        {insertion(20, "z"), strike(5, 15), insertion(15, "z")},
		"at MaxWords, not moved":                  {insertion(20, "z"), replacement(1, 19, "x"), insertion(20, "z")},
		"at MaxWords, before a strike":            {insertion(20, "z"), strike(5, 20), insertion(20, "z")},
		"as far as possible":                      {strike(1, 5), strike(5, 0), strike(1, 0)},
	} {
		got, ok := impl.ShiftedChange(c.a, c.b)
		checkIsAmendment(t, name, got, ok, c.want, true)
		checkTwo(t, c.a, c.b)
	}
}

func TestNoShiftedChange(t *testing.T) {
	for name, pair := range map[string][2]impl.Amendment{
		"a conflict":                                  {strike(1, 1), strike(2, 0)},
		"one word above MaxWords":                     {insertion(20, "z"), insertion(19, "x")},
		"one word above MaxWords, from far":           {strike(1, 20), insertion(0, "x")},
		"a strike at MaxWords where one is inserted":  {strike(1, 20), insertion(20, "x")},
		"five words above MaxWords":                   {replacement(1, 20, "z"), insertion(0, "a", "b", "c", "d", "e")},
		"one above MaxWords by a replacement":         {strike(5, 17), replacement(1, 16, "a", "b", "c", "d", "e")},
		"above MaxWords by a replacement beside":      {insertion(20, "z"), replacement(1, 19, "x", "y")},
		"above MaxWords though it struck words first": {insertion(20, "z"), replacement(4, 0, "a", "b", "c", "d", "e")},
	} {
		got, ok := impl.ShiftedChange(pair[0], pair[1])
		checkIsAmendment(t, name, got, ok, impl.Amendment{}, false)
		checkTwo(t, pair[0], pair[1])
	}
}

func TestTheSameTextInBothOrders(t *testing.T) {
	shapes, peaceful := allShapes([]int{0, 1, 2, 3, 4, 5, 6, 7}, []int{1, 2, 4}), 0
	for n := range 8 {
		text := textFrom("w", n)
		for _, a := range fitting(text, shapes) {
			for _, b := range fitting(text, shapes) {
				// Other words than those of a, so that their order is seen.
				b.Words = textFrom("y", len(b.Words))
				checkProposals(t, text, proposed(a, b))
				if !inConflict(a, b) {
					checkBothOrders(t, text, a, b)
					peaceful++
				}
			}
		}
	}
	if peaceful < 5000 {
		t.Error("only", peaceful, "pairs without a conflict")
	}
}

func TestTheSameTextInBothOrdersUpToMaxWords(t *testing.T) {
	shapes, full, above := allShapes([]int{0, 1, 2, 9, 10, 14, 15, 16, 17, 18, 19, 20}, []int{1, 2, 5}), 0, 0
	for _, n := range []int{10, 15, 18, 19, 20} {
		text := textFrom("w", n)
		for _, a := range fitting(text, shapes) {
			for _, b := range fitting(text, shapes) {
				if inConflict(a, b) {
					continue
				}
				checkBothOrders(t, text, a, b)
				switch words := n + len(a.Words) + len(b.Words) - a.Count - b.Count; {
				case words == 20:
					full++
				case words > 20:
					above++
				}
			}
		}
	}
	if full < 1000 || above < 1000 {
		t.Error("wrong test:", full, above)
	}
}

func TestTheSameTextInBothOrdersWithEqualWords(t *testing.T) {
	words := [][]string{{"a"}, {"b"}, {"a", "b"}, {"b", "a"}}
	eachText(4, []string{"a", "b"}, func(text []string) {
		list := []impl.Amendment{}
		for at := range 5 {
			for count := range 4 {
				list = append(list, strike(count, at))
				for _, phrase := range words {
					list = append(list, insertion(at, phrase...), replacement(count, at, phrase...))
				}
			}
		}
		list = fitting(text, slices.DeleteFunc(list, func(a impl.Amendment) bool { return !isAmendment(a) }))
		for _, a := range list {
			for _, b := range list {
				if !inConflict(a, b) {
					checkBothOrders(t, text, a, b)
				}
			}
		}
	})
}

func TestApplyTogether(t *testing.T) {
	twenty, nineteen := textFrom("w", 20), textFrom("w", 19)
	for name, c := range map[string]struct {
		text []string
		list []impl.Proposal
		want string
	}{
		"none at all":                        {letters("abc"), nil, "a b c"},
		"none at all, no words":              {nil, nil, ""},
		"one":                                {letters("abc"), proposed(strike(1, 1)), "a c"},
		"in the order of the places":         {letters("abcdef"), proposed(insertion(1, "x"), strike(2, 2), replacement(1, 5, "y")), "a x b e y"},
		"against the order of the places":    {letters("abcdef"), proposed(replacement(1, 5, "y"), strike(2, 2), insertion(1, "x")), "a x b e y"},
		"an insertion, then a strike there":  {letters("abc"), proposed(insertion(1, "x", "y"), strike(1, 1)), "a x y c"},
		"a strike, then an insertion there":  {letters("abc"), proposed(strike(1, 1), insertion(1, "x", "y")), "a x y c"},
		"the same with more words struck":    {letters("abcde"), proposed(strike(3, 1), insertion(1, "x")), "a x e"},
		"at every place of a struck word":    {letters("abc"), proposed(insertion(1, "x"), strike(1, 1), insertion(2, "y"), strike(1, 2)), "a x y"},
		"all at the beginning":               {letters("abc"), proposed(strike(2, 0), insertion(0, "x")), "x c"},
		"a replacement at the beginning":     {letters("abc"), proposed(replacement(1, 0, "x", "y"), insertion(1, "z")), "x y z b c"},
		"a replacement behind an insertion":  {letters("abc"), proposed(replacement(1, 1, "x"), insertion(0, "y"), insertion(2, "z")), "y a x z c"},
		"all at the end":                     {letters("abc"), proposed(strike(1, 2), insertion(3, "x"), insertion(2, "y")), "a b y x"},
		"a replacement up to the end":        {letters("abc"), proposed(insertion(3, "x", "y"), replacement(2, 1, "z")), "a z x y"},
		"into an empty text":                 {nil, proposed(insertion(0, "x", "y")), "x y"},
		"nothing is left":                    {letters("abc"), proposed(strike(1, 2), strike(2, 0)), ""},
		"all is new":                         {letters("ab"), proposed(replacement(1, 1, "a"), replacement(1, 0, "b")), "b a"},
		"words struck that are inserted":     {letters("ab"), proposed(insertion(0, "a", "b"), strike(2, 0)), "a b"},
		"strikes that meet":                  {letters("abcdef"), proposed(strike(2, 1), strike(2, 3)), "a f"},
		"as many as possible":                {letters("abcdefgh"), weighted("abcdefgh", 1, 2, 3, 4, 5, 6, 7, 8), ""},
		"up to MaxWords":                     {nineteen[:18], proposed(insertion(0, "x"), insertion(18, "y")), "x " + strings.Join(nineteen[:18], " ") + " y"},
		"MaxWords remain":                    {twenty, proposed(replacement(1, 0, "x"), replacement(1, 19, "y")), "x " + strings.Join(twenty[1:19], " ") + " y"},
		"more words in between, strike last": {nineteen, proposed(insertion(0, "x"), insertion(1, "y"), strike(1, 18)), "x waa y " + strings.Join(nineteen[1:18], " ")},
		"more words in between, strike first": {nineteen, proposed(strike(1, 0), insertion(18, "x"), insertion(19, "y")),
			strings.Join(nineteen[1:18], " ") + " x was y"},
		"many more words in between": {textFrom("w", 15), proposed(strike(5, 1), insertion(0, "a", "b", "c", "d", "e"), insertion(15, "v", "w", "x", "y", "z")),
			"a b c d e waa " + strings.Join(textFrom("w", 15)[6:], " ") + " v w x y z"},
	} {
		got, ok := impl.ApplyTogether(c.text, c.list)
		checkText(t, name, got, ok, strings.Fields(c.want), true)
		checkProposals(t, c.text, c.list)
		// The Ids do not tell in which order the Proposals are applied.
		for turn := range c.list {
			turned := slices.Concat(c.list[turn:], c.list[:turn])
			for i := range turned {
				turned[i].Id = i + 1
			}
			got, ok := impl.ApplyTogether(c.text, turned)
			checkText(t, name, got, ok, strings.Fields(c.want), true)
		}
	}
}

func TestNotTogether(t *testing.T) {
	twenty := textFrom("w", 20)
	for name, c := range map[string]struct {
		text []string
		list []impl.Proposal
	}{
		"a conflict":                             {letters("abc"), proposed(strike(2, 0), strike(2, 1))},
		"a conflict of the last two":             {letters("abcd"), proposed(strike(1, 0), insertion(2, "x"), insertion(3, "y"), strike(2, 2))},
		"a conflict of the first and the last":   {letters("abcd"), proposed(insertion(4, "x"), strike(1, 0), insertion(2, "y"), insertion(4, "z"))},
		"the same change twice":                  {letters("abc"), proposed(strike(1, 1), strike(1, 1))},
		"one word above MaxWords":                {twenty[:19], proposed(insertion(0, "x"), insertion(19, "y"))},
		"one word above MaxWords, three changes": {twenty[:18], proposed(insertion(0, "x"), insertion(5, "y"), insertion(18, "z"))},
		"one word above it, after a strike":      {twenty[:19], proposed(insertion(0, "x"), insertion(5, "y"), strike(1, 7), insertion(19, "z"))},
		"far above MaxWords":                     {twenty[:15], proposed(insertion(0, "a", "b", "c", "d", "e"), insertion(15, "v", "w", "x", "y", "z"))},
		"above MaxWords by replacements":         {twenty[:19], proposed(replacement(1, 0, "x", "y"), replacement(1, 1, "x", "y"))},
	} {
		if !impl.AreProposals(c.text, c.list) {
			t.Error("no proposals:", name)
		}
		got, ok := impl.ApplyTogether(c.text, c.list)
		checkText(t, name, got, ok, nil, false)
		checkProposals(t, c.text, c.list)
	}
}

func TestHeaviestSet(t *testing.T) {
	text := letters("abcdefgh")
	for name, c := range map[string]struct {
		list []impl.Proposal
		ids  []int
		sum  int
	}{
		"no Proposals":                     {nil, nil, 0},
		"a single one":                     {weighted("a", 7), []int{1}, 7},
		"the heavier one of two":           {weighted("aa", 7, 8), []int{2}, 8},
		"the heavier one, before":          {weighted("aa", 8, 7), []int{1}, 8},
		"the first one of equal ones":      {weighted("aa", 7, 7), []int{1}, 7},
		"the first one of eight":           {weighted("aaaaaaaa", 5, 5, 5, 5, 5, 5, 5, 5), []int{1}, 5},
		"the heaviest one of eight":        {weighted("aaaaaaaa", 5, 5, 5, 5, 5, 6, 5, 5), []int{6}, 6},
		"all without a conflict":           {weighted("abcdefgh", 100, 100, 100, 100, 100, 100, 100, 100), []int{1, 2, 3, 4, 5, 6, 7, 8}, 800},
		"the first one of each pair":       {weighted("abcdabcd", 2, 2, 2, 2, 2, 2, 2, 2), []int{1, 2, 3, 4}, 8},
		"the heavier one of each pair":     {weighted("abcdabcd", 2, 3, 2, 3, 3, 2, 3, 2), []int{2, 4, 5, 7}, 12},
		"one heavy, several lighter":       {[]impl.Proposal{proposal(1, 9, strike(3, 0)), proposal(2, 3, strike(1, 0)), proposal(3, 5, strike(1, 2))}, []int{1}, 9},
		"one heavy, several heavier":       {[]impl.Proposal{proposal(1, 9, strike(3, 0)), proposal(2, 5, strike(1, 0)), proposal(3, 5, strike(1, 2))}, []int{2, 3}, 10},
		"one heavy, several as heavy":      {[]impl.Proposal{proposal(2, 5, strike(1, 0)), proposal(3, 5, strike(1, 2)), proposal(9, 10, strike(3, 0))}, []int{9}, 10},
		"one heavy first, as heavy":        {[]impl.Proposal{proposal(1, 10, strike(3, 0)), proposal(3, 5, strike(1, 2)), proposal(9, 5, strike(1, 0))}, []int{1}, 10},
		"two against three, as heavy":      {append(weighted("abc", 2, 2, 2), proposal(7, 4, strike(2, 0)), proposal(9, 2, insertion(8, "x"))), []int{3, 7, 9}, 8},
		"of equal sums, the smallest Ids":  {append(weighted("ab", 4, 6), proposal(7, 6, strike(1, 0)), proposal(8, 4, strike(1, 1))), []int{2, 7}, 12},
		"of equal sums, the first differs": {[]impl.Proposal{proposal(1, 5, strike(2, 2)), proposal(2, 4, strike(1, 0)), proposal(4, 2, strike(1, 3)), proposal(5, 3, strike(1, 2)), proposal(9, 4, strike(1, 1))}, []int{1, 2, 9}, 13},
		"equal sums, the first has more":   {[]impl.Proposal{proposal(1, 1, strike(1, 0)), proposal(2, 9, strike(1, 1)), proposal(3, 10, strike(2, 0))}, []int{3}, 10},
		"equal numbers, other Ids": {[]impl.Proposal{
			proposal(10, 3, strike(1, 0)), proposal(20, 4, strike(1, 2)), proposal(30, 4, strike(1, 0)), proposal(40, 3, strike(1, 2)),
			proposal(50, 7, strike(2, 4)), proposal(60, 4, strike(1, 4)),
		}, []int{20, 30, 50}, 15},
		"by the smallest Id, not the greatest": {[]impl.Proposal{
			proposal(1, 3, replacement(1, 0, "x")), proposal(2, 2, strike(1, 1)), proposal(3, 2, replacement(1, 1, "x")), proposal(4, 3, strike(1, 0)),
		}, []int{1, 2}, 5},
	} {
		if !impl.AreProposals(text, c.list) {
			t.Error("no proposals:", name)
		}
		if ids, sum, ok := impl.HeaviestSet(text, c.list); !ok || sum != c.sum || !slices.Equal(ids, c.ids) {
			t.Errorf("%s: %v, %d, %v; want %v, %d", name, ids, sum, ok, c.ids, c.sum)
		}
		checkProposals(t, text, c.list)
	}
}

func TestAHeaviestSetNeedsNoTextOfItsOwn(t *testing.T) {
	twenty := textFrom("w", 20)
	list := proposed(insertion(0, "x"), insertion(1, "y"), insertion(19, "z"))
	if ids, sum, ok := impl.HeaviestSet(twenty[:19], list); !ok || sum != 3 || !slices.Equal(ids, []int{1, 2, 3}) {
		t.Error("above MaxWords", ids, sum, ok)
	}
	if pairs, ok := impl.ConflictPairs(twenty[:19], list); !ok || len(pairs) != 0 {
		t.Error("above MaxWords", pairs, ok)
	}
	checkProposals(t, twenty[:19], list)
}

func TestListsWithAndWithoutConflicts(t *testing.T) {
	text := letters("abcdefgh")
	all := [][2]int{}
	for i := 1; i <= 8; i++ {
		for j := i + 1; j <= 8; j++ {
			all = append(all, [2]int{i, j})
		}
	}
	for name, c := range map[string]struct {
		list  []impl.Proposal
		pairs [][2]int
		free  []int
	}{
		"no Proposals":           {nil, nil, nil},
		"a single one":           {weighted("c", 7), nil, []int{1}},
		"no conflict":            {weighted("abcdefgh", 1, 1, 1, 1, 1, 1, 1, 1), nil, []int{1, 2, 3, 4, 5, 6, 7, 8}},
		"nothing but conflicts":  {weighted("aaaaaaaa", 1, 1, 1, 1, 1, 1, 1, 1), all, nil},
		"pairs":                  {weighted("abcdabcd", 1, 1, 1, 1, 1, 1, 1, 1), [][2]int{{1, 5}, {2, 6}, {3, 7}, {4, 8}}, nil},
		"the last ones":          {weighted("abcdefgg", 1, 1, 1, 1, 1, 1, 1, 1), [][2]int{{7, 8}}, []int{1, 2, 3, 4, 5, 6}},
		"the first and the last": {weighted("abca", 1, 1, 1, 1), [][2]int{{1, 4}}, []int{2, 3}},
		"all with one": {[]impl.Proposal{proposal(4, 1, strike(1, 0)), proposal(5, 1, strike(1, 1)), proposal(6, 1, strike(3, 0)), proposal(70, 1, insertion(2, "x"))},
			[][2]int{{4, 6}, {5, 6}, {6, 70}}, nil},
		"insertions at the end": {append(proposed(insertion(8, "x"), strike(1, 7)), proposal(99, 1, insertion(8, "y"))), [][2]int{{1, 99}}, []int{2}},
	} {
		if pairs, ok := impl.ConflictPairs(text, c.list); !ok || !slices.Equal(pairs, c.pairs) {
			t.Errorf("%s: %v, %v; want %v", name, pairs, ok, c.pairs)
		}
		if free, ok := impl.FreeProposals(text, c.list); !ok || !slices.Equal(free, c.free) {
			t.Errorf("%s: %v, %v; want %v", name, free, ok, c.free)
		}
		checkProposals(t, text, c.list)
	}
}

func TestSecondaryChange(t *testing.T) {
	for name, c := range map[string]struct {
		a    impl.Amendment
		b    impl.Amendment
		want impl.Amendment
	}{
		"an insertion by an insertion":      {insertion(7, "pay", "ten"), insertion(1, "him"), insertion(7, "pay", "him", "ten")},
		"an insertion by one at the end":    {insertion(0, "pay", "ten"), insertion(2, "now"), insertion(0, "pay", "ten", "now")},
		"an insertion by a strike":          {insertion(20, "pay", "ten"), strike(1, 0), insertion(20, "ten")},
		"an insertion by a replacement":     {insertion(0, "pay", "ten"), replacement(1, 1, "five"), insertion(0, "pay", "five")},
		"a replacement by an insertion":     {replacement(5, 7, "pay", "ten"), insertion(0, "now"), replacement(5, 7, "now", "pay", "ten")},
		"a replacement by a strike":         {replacement(2, 20, "pay", "ten"), strike(1, 1), replacement(2, 20, "pay")},
		"a replacement by a replacement":    {replacement(1, 3, "pay", "ten"), replacement(2, 0, "x", "y", "z"), replacement(1, 3, "x", "y", "z")},
		"up to MaxPhrase words":             {insertion(3, "a", "b"), insertion(2, "c", "d", "e"), insertion(3, "a", "b", "c", "d", "e")},
		"up to MaxPhrase by a replacement":  {replacement(1, 0, "a", "b"), replacement(1, 0, "c", "d", "e", "f"), replacement(1, 0, "c", "d", "e", "f", "b")},
		"from MaxPhrase words to one":       {insertion(3, "a", "b", "c", "d", "e"), strike(4, 1), insertion(3, "a")},
		"all MaxPhrase words to other ones": {insertion(3, "a", "b", "c", "d", "e"), replacement(5, 0, "e", "d", "c", "b", "a"), insertion(3, "e", "d", "c", "b", "a")},
		"where the words are meant for":     {replacement(1, 1, "sum"), replacement(1, 0, "fee"), replacement(1, 1, "fee")},
	} {
		got, ok := impl.SecondaryChange(c.a, c.b)
		checkIsAmendment(t, name, got, ok, c.want, true)
		checkSecondary(t, c.a, c.b)
	}
}

func TestNoSecondaryChange(t *testing.T) {
	for name, pair := range map[string][2]impl.Amendment{
		"a strike by an insertion":              {strike(1, 1), insertion(0, "x")},
		"a strike by a strike":                  {strike(1, 1), strike(1, 0)},
		"a strike by a replacement":             {strike(2, 1), replacement(1, 0, "x")},
		"a strike by an insertion elsewhere":    {strike(2, 1), insertion(1, "x")},
		"an insertion without words left":       {insertion(1, "pay", "ten"), strike(2, 0)},
		"a replacement without words left":      {replacement(1, 1, "pay"), strike(1, 0)},
		"MaxPhrase words struck":                {insertion(1, "a", "b", "c", "d", "e"), strike(5, 0)},
		"more than MaxPhrase words":             {insertion(1, "a", "b", "c", "d", "e"), insertion(5, "f")},
		"far more than MaxPhrase words":         {replacement(1, 1, "a", "b", "c", "d", "e"), insertion(0, "v", "w", "x", "y", "z")},
		"more than MaxPhrase by a replacement":  {replacement(1, 1, "a", "b"), replacement(1, 0, "v", "w", "x", "y", "z")},
		"an insertion that does not fit":        {insertion(1, "pay", "ten"), insertion(3, "x")},
		"a strike that does not fit":            {insertion(1, "pay", "ten"), strike(2, 1)},
		"a strike at the end":                   {insertion(1, "pay", "ten"), strike(1, 2)},
		"a replacement that does not fit":       {replacement(1, 1, "pay", "ten"), replacement(2, 1, "x")},
		"a replacement by the same words":       {replacement(1, 1, "pay", "ten"), replacement(1, 1, "ten")},
		"a place in the text, not in the Words": {insertion(7, "pay", "ten"), strike(1, 7)},
	} {
		got, ok := impl.SecondaryChange(pair[0], pair[1])
		checkIsAmendment(t, name, got, ok, impl.Amendment{}, false)
		checkSecondary(t, pair[0], pair[1])
	}
}

func TestEverySecondaryChange(t *testing.T) {
	changed := 0
	eachShape([]int{0, 1, 20}, []int{1, 2, 3, 4, 5}, func(a impl.Amendment) {
		eachShape([]int{0, 1, 2, 3, 4, 5, 6, 20}, []int{1, 2, 3, 4, 5}, func(b impl.Amendment) {
			// Words of b that are words of a lead to replacements that change nothing.
			checkSecondary(t, a, b)
			b.Words = textFrom("y", len(b.Words))
			checkSecondary(t, a, b)
			if _, ok := impl.SecondaryChange(a, b); ok {
				changed++
			}
		})
	})
	if changed < 1000 {
		t.Error("only", changed, "changes")
	}
}

func TestEveryThreeProposals(t *testing.T) {
	for n := range 5 {
		text := textFrom("w", n)
		changes := fitting(text, slices.DeleteFunc(allShapes([]int{0, 1, 2, 3, 4}, []int{1}), func(a impl.Amendment) bool { return a.Count > 3 }))
		for i, a := range changes {
			for j, b := range changes {
				for k, c := range changes {
					// The Weights are few, so that many sums are equal.
					list := []impl.Proposal{proposal(1, 1+i%2, a), proposal(2, 1+j%3, b), proposal(3, 1+(i+k)%2, c)}
					checkProposals(t, text, list)
				}
			}
		}
	}
}

// randomChange returns an Amendment that often fits a text of n words; next returns a number below
// its argument.
func randomChange(next func(int) int, n int) impl.Amendment {
	words := textFrom(string(rune('a'+next(20))), next(2)+1)
	switch at, count := next(n+1), next(3)+1; next(3) {
	case 0:
		return insertion(at, words...)
	case 1:
		return strike(count, at)
	default:
		return replacement(count, at, words...)
	}
}

func TestLongListsOfProposals(t *testing.T) {
	sizes, peaceful := [9]int{}, [9]int{}
	for start := range 4000 {
		next := drawsFrom(start)
		text, list, id := textFrom("w", next(21)), []impl.Proposal{}, 0
		for range 8 {
			id += next(12) + 1
			p := proposal(id, next(4)+1, randomChange(next, len(text)))
			rival := slices.ContainsFunc(list, func(q impl.Proposal) bool { return inConflict(p.Change, q.Change) })
			// Every second list takes only what does not conflict.
			if _, _, fits := amended(text, p.Change); fits && (start%2 == 0 || !rival) {
				list = append(list, p)
			}
		}
		checkProposals(t, text, list)
		sizes[len(list)]++
		if len(pairsInConflict(list)) == 0 {
			peaceful[len(list)]++
		}
	}
	if sizes[8] < 100 || slices.Min(peaceful[1:6]) < 100 {
		t.Error("wrong test:", sizes, peaceful)
	}
}

func TestNothingBeyondTheLengthInProposals(t *testing.T) {
	text := roomy("a", "b", "c", "d")
	list := []impl.Proposal{
		proposal(1, 2, strike(1, 0)), proposal(2, 3, insertion(1, roomy("x", "y")...)), proposal(3, 9, replacement(2, 1, roomy("z")...)),
		proposal(4, 4, insertion(4, roomy("x")...)), proposal(4, 100, strike(4, 0)), {},
	}
	for n := range 5 {
		for m := range 7 {
			checkProposals(t, text[:n], list[:m])
		}
	}
	for n := range 3 {
		a := impl.Amendment{Kind: impl.AmendReplace, At: 1, Count: 1, Words: roomy("u", "v", "w")[:n+1]}
		for at := range 5 {
			checkSecondary(t, a, insertion(at, roomy("x")...))
			checkSecondary(t, a, strike(1, at))
			checkTwo(t, a, insertion(at, roomy("x")...))
		}
	}
}

// conflictResults are what the functions of conflicts return.
type conflictResults struct {
	pairs      [][][2]int
	ids        [][]int
	texts      [][]string
	amendments []impl.Amendment
}

// resultsOfProposals calls all functions of conflicts and returns what they return, but for the
// Amendments of calls that fail.
func resultsOfProposals(text []string, list []impl.Proposal) conflictResults {
	r := conflictResults{}
	for n := range len(list) + 1 {
		impl.AreProposals(text, list[:n])
		pairs, _ := impl.ConflictPairs(text, list[:n])
		heaviest, _, _ := impl.HeaviestSet(text, list[:n])
		free, _ := impl.FreeProposals(text, list[:n])
		together, _ := impl.ApplyTogether(text, list[:n])
		r.pairs, r.ids, r.texts = append(r.pairs, pairs), append(r.ids, heaviest, free), append(r.texts, together)
	}
	for _, p := range list {
		for _, q := range list {
			impl.DoConflict(p.Change, q.Change)
			if a, ok := impl.ShiftedChange(p.Change, q.Change); ok {
				r.amendments = append(r.amendments, a)
			}
			if a, ok := impl.SecondaryChange(p.Change, q.Change); ok {
				r.amendments = append(r.amendments, a)
			}
		}
	}
	return r
}

func TestConflictFunctionsShareNothing(t *testing.T) {
	text := roomy("the", "fee", "is", "ten")
	list := []impl.Proposal{
		proposal(1, 3, insertion(4, roomy("or", "less")...)), proposal(2, 8, strike(1, 2)), proposal(5, 2, insertion(0, roomy("now")...)),
		proposal(7, 8, replacement(1, 1, roomy("sum", "due")...)), proposal(8, 1, strike(2, 1)), proposal(9, 5, replacement(1, 0, roomy("our")...)),
		{Id: 77},
	}[:6]
	changes := []impl.Amendment{}
	for _, p := range list {
		changes = append(changes, p.Change)
	}
	arguments, copied := keepLists([][]string{text}, changes), slices.Clone(list[:7])
	r := resultsOfProposals(text, list)
	checkKept(t, "arguments, called with", arguments)
	results := keepLists(r.texts, r.amendments)
	for i, k := range results {
		checkKept(t, "results, shared with others", results[i:])
		for j := range k.list[:cap(k.list)] {
			k.list[:cap(k.list)][j] = "overwritten"
		}
	}
	checkKept(t, "arguments, shared with results", arguments)
	if !slices.EqualFunc(list[:7], copied, func(p, q impl.Proposal) bool {
		return p.Id == q.Id && p.Weight == q.Weight && sameAmendment(p.Change, q.Change)
	}) {
		t.Error("the list has been changed:", list[:7])
	}
	if len(results) < 30 {
		t.Error("wrong test: only", len(results), "results")
	}
	again := resultsOfProposals(text, list)
	for i, k := range keepLists(again.texts, again.amendments) {
		if !slices.Equal(k.list, results[i].was[:len(results[i].list)]) {
			t.Errorf("not repeated: %q, was %q", k.list, results[i].was)
		}
	}
}

func TestNumbersOfProposalsShareNothing(t *testing.T) {
	text, list := letters("abcdefgh"), append(sixProposals(), proposal(98, 7, strike(1, 4)))[:6]
	first, second := resultsOfProposals(text, list), resultsOfProposals(text, list)
	for _, ids := range first.ids {
		for i := range ids[:cap(ids)] {
			ids[:cap(ids)][i] = -7
		}
	}
	for _, pairs := range first.pairs {
		for i := range pairs[:cap(pairs)] {
			pairs[:cap(pairs)][i] = [2]int{-7, -7}
		}
	}
	third := resultsOfProposals(text, list)
	if !slices.EqualFunc(second.ids, third.ids, slices.Equal) || !slices.EqualFunc(second.pairs, third.pairs, slices.Equal) {
		t.Error("results depend on those of earlier calls:", second, third)
	}
	checkProposals(t, text, list)
}
