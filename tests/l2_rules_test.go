package tests

import (
	"fmt"
	"math"
	"regexp"
	"slices"
	"strconv"
	"strings"
	"testing"

	"loop.example/g00909/impl"
)

// languageWords are the words that the line of a Rule may have beside its Name; all but the last
// one may be a Name as well.
var languageWords = []string{"rank", "second", "debate", "amend", "by", "majority", "all", "two-thirds"}

// fourRules returns a list with gaps between the Ids, in which two Rules have one Rank.
func fourRules() []impl.Rule {
	return []impl.Rule{
		{Id: 2, Name: "main", Rank: 0, Second: true, Debate: true, Amend: true, Need: impl.NeedMajority},
		{Id: 3, Name: "amend", Rank: 4, Second: true, Debate: true, Need: impl.NeedTwoThirds},
		{Id: 7, Name: "table", Rank: 9, Second: true, Need: impl.NeedMajority},
		{Id: 12, Name: "close", Rank: 4, Amend: true, Need: impl.NeedAll},
	}
}

const fourRulesText = "2 main rank 0 second debate amend by majority\n" +
	"3 amend rank 4 second debate by two-thirds\n" +
	"7 table rank 9 second by majority\n" +
	"12 close rank 4 amend by all\n"

// rulesOf returns n valid Rules with the Ids 2, 4, 6, ...
func rulesOf(n int) []impl.Rule {
	list := []impl.Rule{}
	for i := range n {
		list = append(list, impl.Rule{Id: 2*i + 2, Name: string(rune('a' + i)), Rank: i, Need: impl.NeedMajority})
	}
	return list
}

// invalidRuleLists returns lists that are no lists of rules, by what is wrong with them.
func invalidRuleLists() map[string][]impl.Rule {
	lists := map[string][]impl.Rule{
		"above MaxRules":      rulesOf(9),
		"far above MaxRules":  make([]impl.Rule, 100000),
		"a zero Rule":         {{}},
		"descending Ids":      {fourRules()[1], fourRules()[0]},
		"one Rule twice":      {fourRules()[0], fourRules()[0]},
		"one Id, other Names": {{Id: 3, Name: "a", Need: 1}, {Id: 3, Name: "b", Need: 1}},
		"one Name, other Ids": {{Id: 3, Name: "a", Need: 1}, {Id: 4, Name: "a", Need: 1}},
		"one Name, far apart": {{Id: 3, Name: "a", Need: 1}, {Id: 4, Name: "b", Need: 1}, {Id: 5, Name: "a", Need: 2}},
		"a last equal Id":     {{Id: 3, Name: "a", Need: 1}, {Id: 4, Name: "b", Need: 1}, {Id: 4, Name: "c", Need: 1}},
	}
	for name, r := range invalidRules() {
		lists["alone, "+name] = []impl.Rule{r}
		// The other Rules stand around the invalid one where its Id allows it.
		if r.Id == 5 {
			lists["amid others, "+name] = []impl.Rule{fourRules()[0], r, fourRules()[2]}
		}
	}
	return lists
}

// invalidRules returns Rules of which exactly one field is invalid, by what is wrong with them.
func invalidRules() map[string]impl.Rule {
	rules := map[string]impl.Rule{}
	for _, id := range []int{0, 21, -1, math.MaxInt, math.MinInt, 1 << 32, 1<<32 + 1} {
		rules["Id "+strconv.Itoa(id)] = impl.Rule{Id: id, Name: "x", Need: 1}
	}
	for _, name := range []string{
		"", "abcdefghijk", "A", "aB", "Za", "a1", "1", "a-b", "two-thirds", "a b", " a", "a ", "a\n", "\na", "`", "{", "a`", "z{",
		"\u00e9", "a\xe1", "\x00", strings.Repeat("a", 100000),
	} {
		rules[fmt.Sprintf("Name %.20q", name)] = impl.Rule{Id: 5, Name: name, Need: 1}
	}
	for _, rank := range []int{-1, 10, math.MaxInt, math.MinInt, 1 << 32} {
		rules["Rank "+strconv.Itoa(rank)] = impl.Rule{Id: 5, Name: "x", Rank: rank, Need: 1}
	}
	for _, need := range []int{0, 4, -1, math.MaxInt, math.MinInt, 1<<32 + 1} {
		rules["Need "+strconv.Itoa(need)] = impl.Rule{Id: 5, Name: "x", Need: need}
	}
	return rules
}

// eachRule calls visit with Rules that have every combination of the other fields, for one Name.
func eachRule(name string, visit func(impl.Rule)) {
	for id := 1; id <= 20; id++ {
		for rank := 0; rank <= 9; rank++ {
			for traits := range 8 {
				for need := 1; need <= 3; need++ {
					visit(impl.Rule{Id: id, Name: name, Rank: rank, Second: traits&1 > 0, Debate: traits&2 > 0, Amend: traits&4 > 0, Need: need})
				}
			}
		}
	}
}

// lineOf writes the line of a valid Rule.
func lineOf(r impl.Rule) string {
	traits := ""
	for i, is := range []bool{r.Second, r.Debate, r.Amend} {
		if is {
			traits += []string{" second", " debate", " amend"}[i]
		}
	}
	return fmt.Sprintf("%d %s rank %d%s by %s", r.Id, r.Name, r.Rank, traits, []string{"", "majority", "two-thirds", "all"}[r.Need])
}

// isLine matches the strings that are the line of a Rule.
var isLine = regexp.MustCompile(`\A([1-9]|1[0-9]|20) [a-z]{1,10} rank [0-9]( second)?( debate)?( amend)? by (majority|two-thirds|all)\z`)

// checkParseRule checks a string of any form against isLine and lineOf.
func checkParseRule(t *testing.T, s string) {
	t.Helper()
	r, ok := impl.ParseRule(s)
	if ok != isLine.MatchString(s) {
		t.Errorf("ParseRule(%.80q) = %v, %v", s, r, ok)
	}
	if ok && lineOf(r) != s || !ok && r != (impl.Rule{}) {
		t.Errorf("ParseRule(%.80q) = %v, %v", s, r, ok)
	}
}

func TestConstantsOfRules(t *testing.T) {
	if impl.NeedMajority != 1 || impl.NeedTwoThirds != 2 || impl.NeedAll != 3 || impl.MaxRules != 8 {
		t.Error("constants", impl.NeedMajority, impl.NeedTwoThirds, impl.NeedAll, impl.MaxRules)
	}
}

func TestIsValidRule(t *testing.T) {
	for _, name := range append([]string{"a", "z", "abcdefghij", "zzzzzzzzzz"}, languageWords[:7]...) {
		eachRule(name, func(r impl.Rule) {
			if !impl.IsValidRule(r) {
				t.Error("not valid", r)
			}
		})
	}
	for name, r := range invalidRules() {
		if impl.IsValidRule(r) {
			t.Error("valid with the", name)
		}
	}
	if impl.IsValidRule(impl.Rule{}) {
		t.Error("the zero Rule is valid")
	}
}

func TestEveryByteInAName(t *testing.T) {
	for c := range 256 {
		letter := c >= 'a' && c <= 'z'
		for _, name := range []string{string([]byte{byte(c)}), "a" + string([]byte{byte(c)}), string([]byte{byte(c)}) + "z"} {
			if got := impl.IsValidRule(impl.Rule{Id: 1, Name: name, Need: 1}); got != letter {
				t.Errorf("the Name %q: %v", name, got)
			}
		}
	}
}

func TestIsValidRules(t *testing.T) {
	for n := 0; n <= impl.MaxRules; n++ {
		if !impl.IsValidRules(rulesOf(n)) {
			t.Error("not valid, of size", n)
		}
	}
	if !impl.IsValidRules(nil) || !impl.IsValidRules(fourRules()) {
		t.Error("not valid: none or four")
	}
	last := []impl.Rule{{Id: 1, Name: "b", Need: 1}, {Id: 2, Name: "a", Need: 1}, {Id: 20, Name: "ab", Need: 1}}
	if !impl.IsValidRules(last) {
		t.Error("not valid: Ids at the limits, Names in another order")
	}
	for name, list := range invalidRuleLists() {
		if impl.IsValidRules(list) {
			t.Error("valid:", name)
		}
	}
}

func TestRuleLine(t *testing.T) {
	for want, r := range map[string]impl.Rule{
		"3 table rank 5 second by majority":               {Id: 3, Name: "table", Rank: 5, Second: true, Need: impl.NeedMajority},
		"1 a rank 0 by two-thirds":                        {Id: 1, Name: "a", Need: impl.NeedTwoThirds},
		"20 abcdefghij rank 9 second debate amend by all": {Id: 20, Name: "abcdefghij", Rank: 9, Second: true, Debate: true, Amend: true, Need: impl.NeedAll},
		"10 x rank 1 debate by all":                       {Id: 10, Name: "x", Rank: 1, Debate: true, Need: impl.NeedAll},
		"10 x rank 1 amend by all":                        {Id: 10, Name: "x", Rank: 1, Amend: true, Need: impl.NeedAll},
		"10 x rank 1 second amend by all":                 {Id: 10, Name: "x", Rank: 1, Second: true, Amend: true, Need: impl.NeedAll},
		"10 by rank 1 debate amend by majority":           {Id: 10, Name: "by", Rank: 1, Debate: true, Amend: true, Need: impl.NeedMajority},
	} {
		if got, ok := impl.RuleLine(r); !ok || got != want {
			t.Errorf("RuleLine(%v) = %q, %v; want %q", r, got, ok, want)
		}
	}
	for name, r := range invalidRules() {
		if got, ok := impl.RuleLine(r); ok || got != "" {
			t.Errorf("RuleLine with the %s = %.80q, %v", name, got, ok)
		}
	}
}

func TestRulesAreRecoveredFromTheirLines(t *testing.T) {
	for _, name := range append([]string{"a", "z", "table", "abcdefghij"}, languageWords[:7]...) {
		eachRule(name, func(r impl.Rule) {
			line, ok := impl.RuleLine(r)
			if !ok || line != lineOf(r) {
				t.Errorf("RuleLine(%v) = %q, %v", r, line, ok)
			}
			if got, ok := impl.ParseRule(line); !ok || got != r {
				t.Errorf("ParseRule(%q) = %v, %v", line, got, ok)
			}
		})
	}
}

func TestParseRuleWithWordsOfTheLanguage(t *testing.T) {
	for s, want := range map[string]impl.Rule{
		"1 rank rank 2 by all":              {Id: 1, Name: "rank", Rank: 2, Need: impl.NeedAll},
		"1 second rank 2 by all":            {Id: 1, Name: "second", Rank: 2, Need: impl.NeedAll},
		"1 second rank 2 second by all":     {Id: 1, Name: "second", Rank: 2, Second: true, Need: impl.NeedAll},
		"1 debate rank 2 second by all":     {Id: 1, Name: "debate", Rank: 2, Second: true, Need: impl.NeedAll},
		"1 amend rank 2 debate by majority": {Id: 1, Name: "amend", Rank: 2, Debate: true, Need: impl.NeedMajority},
		"1 by rank 2 by two-thirds":         {Id: 1, Name: "by", Rank: 2, Need: impl.NeedTwoThirds},
		"1 all rank 2 by majority":          {Id: 1, Name: "all", Rank: 2, Need: impl.NeedMajority},
		"1 majority rank 2 amend by all":    {Id: 1, Name: "majority", Rank: 2, Amend: true, Need: impl.NeedAll},
	} {
		if got, ok := impl.ParseRule(s); !ok || got != want {
			t.Errorf("ParseRule(%q) = %v, %v; want %v", s, got, ok, want)
		}
	}
	for _, s := range []string{
		"1 rank 2 by all", "1 rank second by all", "1 second 2 by all", "1 x second 2 by all", "1 x rank rank by all", "1 x rank 2 rank by all",
		"1 x rank 2 by by all", "1 x rank 2 by", "1 x rank 2 all", "1 x rank 2 by second", "1 x rank 2 by all all", "1 x rank 2 by majority all",
		"1 x rank 2 by all by all", "1 x rank 2 by all second", "1 x rank 2 second second by all", "1 two-thirds rank 2 by all",
	} {
		if got, ok := impl.ParseRule(s); ok || got != (impl.Rule{}) {
			t.Errorf("ParseRule(%q) = %v, %v", s, got, ok)
		}
	}
}

func TestParseRuleInvalid(t *testing.T) {
	for _, s := range []string{
		"", " ", "3", "3 table", "3 table rank", "3 table rank 5", "3 table rank 5 ", "3 table rank 5 second", "3 table rank 5 second by", "\n", "     ",
		"0 table rank 5 by all", "21 table rank 5 by all", "-1 table rank 5 by all", "03 table rank 5 by all", "+3 table rank 5 by all", "00 table rank 5 by all",
		"x table rank 5 by all", "3x table rank 5 by all", " table rank 5 by all", "table rank 5 by all", "3. table rank 5 by all",
		"3  rank 5 by all", "3 rank 5 by all", "3 abcdefghijk rank 5 by all", "3 Table rank 5 by all", "3 t1 rank 5 by all", "3 caf\u00e9 rank 5 by all",
		"3 table rank 10 by all", "3 table rank -1 by all", "3 table rank -0 by all", "3 table rank 05 by all", "3 table rank +5 by all", "3 table rank x by all",
		"3 table rank  by all", "3 table rank by all", "3 table rank 5x by all", "3 table Rank 5 by all", "3 table ranks 5 by all", "3 table 5 by all",
		"3 table rank 5 debate second by all", "3 table rank 5 amend second by all", "3 table rank 5 amend debate by all", "3 table rank 5 by all second",
		"3 table rank 5 second by none", "3 table rank 5 second by Majority", "3 table rank 5 second by two thirds", "3 table rank 5 second by two-third",
		"3 table rank 5 second by 1", "3 table rank 5 seconds by all", "3 table rank 5 Second by all", "3 table rank 5 secondby all",
		"3  table rank 5 by all", "3 table  rank 5 by all", "3 table rank  5 by all", "3 table rank 5  by all", "3 table rank 5 by  all", " 3 table rank 5 by all",
		"3 table rank 5 by all ", "3 table rank 5 by all\n", "\n3 table rank 5 by all", "3\ttable rank 5 by all", "3 table rank 5\tby all", "3 table rank 5 by all\x00",
		"9223372036854775808 table rank 5 by all", "4294967299 table rank 5 by all", "3 table rank 18446744073709551621 by all",
		"3 table rank 5 by all" + strings.Repeat(" second", 1000), strings.Repeat(" ", 5000), strings.Repeat("3 ", 100000),
	} {
		if got, ok := impl.ParseRule(s); ok || got != (impl.Rule{}) {
			t.Errorf("ParseRule(%.80q) = %v, %v", s, got, ok)
		}
		checkParseRule(t, s)
	}
}

func TestParseRuleOnChangedLines(t *testing.T) {
	for _, line := range []string{
		"3 table rank 5 second by majority", "20 abcdefghij rank 9 second debate amend by two-thirds", "1 by rank 0 by all", "12 second rank 1 debate amend by majority",
	} {
		eachChange(line, func(s string) { checkParseRule(t, s) })
		checkParseRule(t, line+line)
		checkParseRule(t, line+"\n"+line)
	}
}

// eachChange calls visit with s cut off on either side at every place, and with every byte left
// out, replaced by any other one and preceded by any one.
func eachChange(s string, visit func(string)) {
	for i := range len(s) {
		visit(s[:i])
		visit(s[i:])
		visit(s[:i] + s[i+1:])
		for c := range 256 {
			sign := string([]byte{byte(c)})
			visit(s[:i] + sign + s[i+1:])
			visit(s[:i] + sign + s[i:])
		}
	}
}

func TestParseRuleOnWordsInEveryOrder(t *testing.T) {
	for _, line := range []string{"3 table rank 5 second debate by majority", "1 by rank 2 amend by all", "1 rank rank 1 second by two-thirds"} {
		words := strings.Split(line, " ")
		for without := range words {
			checkParseRule(t, strings.Join(slices.Delete(slices.Clone(words), without, without+1), " "))
			checkParseRule(t, strings.Join(slices.Insert(slices.Clone(words), without, words[without]), " "))
			checkParseRule(t, strings.Join(slices.Insert(slices.Clone(words), without, ""), " "))
		}
		eachOrder(words, 0, func(other []string) { checkParseRule(t, strings.Join(other, " ")) })
	}
}

// eachOrder calls visit with the words in every order of those from the index at on.
func eachOrder(words []string, at int, visit func([]string)) {
	if at == len(words) {
		visit(words)
		return
	}
	for i := at; i < len(words); i++ {
		words[at], words[i] = words[i], words[at]
		eachOrder(words, at+1, visit)
		words[at], words[i] = words[i], words[at]
	}
}

func TestParseRuleOnSequencesOfWords(t *testing.T) {
	eachSequence(languageWords, 5, "5 x rank 3", func(s string) { checkParseRule(t, s) })
}

// eachSequence calls visit with start, followed by every sequence of at most n of the words.
func eachSequence(words []string, n int, start string, visit func(string)) {
	visit(start)
	if n == 0 {
		return
	}
	for _, word := range words {
		eachSequence(words, n-1, start+" "+word, visit)
	}
}

func TestAddRule(t *testing.T) {
	list := fourRules()
	for i, r := range list {
		rest := slices.Delete(fourRules(), i, i+1)
		if got, ok := impl.AddRule(rest, r); !ok || !slices.Equal(got, list) {
			t.Errorf("adding %v: %v, %v", r, got, ok)
		}
	}
	first := impl.Rule{Id: 20, Name: "x", Rank: 9, Need: impl.NeedAll}
	if got, ok := impl.AddRule(nil, first); !ok || !slices.Equal(got, []impl.Rule{first}) {
		t.Error("to none", got, ok)
	}
	if got, ok := impl.AddRule(rulesOf(7), first); !ok || !slices.Equal(got, append(rulesOf(7), first)) {
		t.Error("up to MaxRules", got, ok)
	}
	lowest := impl.Rule{Id: 1, Name: "x", Need: impl.NeedAll}
	if got, ok := impl.AddRule(rulesOf(7), lowest); !ok || !slices.Equal(got, append([]impl.Rule{lowest}, rulesOf(7)...)) {
		t.Error("before all others", got, ok)
	}
}

func TestAddRuleInvalid(t *testing.T) {
	good := impl.Rule{Id: 5, Name: "x", Need: impl.NeedAll}
	for _, c := range []struct {
		name string
		list []impl.Rule
		r    impl.Rule
	}{
		{"one Id and other Names", fourRules(), impl.Rule{Id: 7, Name: "x", Need: 1}},
		{"one Name and other Ids", fourRules(), impl.Rule{Id: 5, Name: "table", Need: 1}},
		{"one Name, behind it", fourRules(), impl.Rule{Id: 20, Name: "main", Need: 1}},
		{"a Rule that is there", fourRules(), fourRules()[3]},
		{"above MaxRules", rulesOf(8), good},
		{"above MaxRules, at the end", rulesOf(8), impl.Rule{Id: 20, Name: "x", Need: 1}},
		{"the zero Rule", fourRules(), impl.Rule{}},
		{"the zero Rule to none", nil, impl.Rule{}},
	} {
		if got, ok := impl.AddRule(c.list, c.r); ok || len(got) != 0 {
			t.Error("added:", c.name, got)
		}
	}
	for name, r := range invalidRules() {
		if got, ok := impl.AddRule(fourRules(), r); ok || len(got) != 0 {
			t.Error("added with the", name)
		}
	}
	for name, list := range invalidRuleLists() {
		if got, ok := impl.AddRule(list, good); ok || len(got) != 0 {
			t.Error("added to a list:", name)
		}
	}
}

func TestRuleByName(t *testing.T) {
	list := fourRules()
	for _, want := range list {
		if got, ok := impl.RuleByName(list, want.Name); !ok || got != want {
			t.Errorf("%q: %v, %v", want.Name, got, ok)
		}
	}
	for _, name := range []string{"", "x", "mai", "mains", "Main", "main ", " main", "second", strings.Repeat("main", 50000)} {
		if got, ok := impl.RuleByName(list, name); ok || got != (impl.Rule{}) {
			t.Errorf("%.20q: %v, %v", name, got, ok)
		}
	}
	if got, ok := impl.RuleByName(nil, ""); ok || got != (impl.Rule{}) {
		t.Error("in no Rules", got, ok)
	}
	for name, list := range invalidRuleLists() {
		for _, r := range list[:min(len(list), 10)] {
			if got, ok := impl.RuleByName(list, r.Name); ok || got != (impl.Rule{}) {
				t.Error("found in a list:", name, ok)
			}
		}
	}
}

func TestRulesAbove(t *testing.T) {
	for rank, want := range map[int][]int{
		-1: {7, 3, 12, 2}, 0: {7, 3, 12}, 1: {7, 3, 12}, 3: {7, 3, 12}, 4: {7}, 5: {7}, 8: {7}, 9: {},
	} {
		if got, ok := impl.RulesAbove(fourRules(), rank); !ok || !slices.Equal(got, want) {
			t.Errorf("above %d: %v, %v; want %v", rank, got, ok, want)
		}
	}
	equal := []impl.Rule{{Id: 1, Name: "c", Rank: 5, Need: 1}, {Id: 2, Name: "b", Rank: 5, Need: 1}, {Id: 9, Name: "a", Rank: 5, Need: 1}}
	if got, ok := impl.RulesAbove(equal, 4); !ok || !slices.Equal(got, []int{1, 2, 9}) {
		t.Error("of one Rank", got, ok)
	}
	if got, ok := impl.RulesAbove(rulesOf(8), -1); !ok || !slices.Equal(got, []int{16, 14, 12, 10, 8, 6, 4, 2}) {
		t.Error("of MaxRules", got, ok)
	}
	for _, rank := range []int{-1, 0, 9} {
		if got, ok := impl.RulesAbove(nil, rank); !ok || len(got) != 0 {
			t.Error("of none", got, ok)
		}
	}
	for _, rank := range []int{-2, 10, math.MinInt, math.MaxInt, 1 << 32} {
		if got, ok := impl.RulesAbove(fourRules(), rank); ok || len(got) != 0 {
			t.Error("above", rank, got, ok)
		}
	}
	for name, list := range invalidRuleLists() {
		if got, ok := impl.RulesAbove(list, -1); ok || len(got) != 0 {
			t.Error("of a list:", name, got)
		}
	}
}

func TestChangeRank(t *testing.T) {
	for i, r := range fourRules() {
		for rank := 0; rank <= 9; rank++ {
			want := fourRules()
			want[i].Rank = rank
			if got, ok := impl.ChangeRank(fourRules(), r.Id, rank); !ok || !slices.Equal(got, want) {
				t.Errorf("the Rank %d of %d: %v, %v", rank, r.Id, got, ok)
			}
		}
		for _, rank := range []int{-1, 10, math.MinInt, math.MaxInt, 1 << 32} {
			if got, ok := impl.ChangeRank(fourRules(), r.Id, rank); ok || len(got) != 0 {
				t.Errorf("the Rank %d of %d: %v", rank, r.Id, got)
			}
		}
	}
	for _, id := range []int{0, 1, 4, 13, 20, 21, -2, math.MinInt, math.MaxInt, 1<<32 + 2} {
		if got, ok := impl.ChangeRank(fourRules(), id, 5); ok || len(got) != 0 {
			t.Error("a Rank of the Id", id, got)
		}
	}
	if got, ok := impl.ChangeRank(nil, 1, 5); ok || len(got) != 0 {
		t.Error("a Rank in no Rules", got)
	}
	for name, list := range invalidRuleLists() {
		for _, r := range list[:min(len(list), 10)] {
			if got, ok := impl.ChangeRank(list, r.Id, 5); ok || len(got) != 0 {
				t.Error("a Rank in a list:", name, got)
			}
		}
	}
}

func TestRulesText(t *testing.T) {
	if got, ok := impl.RulesText(fourRules()); !ok || got != fourRulesText {
		t.Errorf("%q, %v", got, ok)
	}
	if got, ok := impl.RulesText(nil); !ok || got != "" {
		t.Errorf("of none: %q, %v", got, ok)
	}
	for name, list := range invalidRuleLists() {
		if got, ok := impl.RulesText(list); ok || got != "" {
			t.Errorf("of a list: %s: %.80q", name, got)
		}
	}
}

func TestRulesAreRecoveredFromTheirText(t *testing.T) {
	lists := [][]impl.Rule{nil, fourRules(), {}}
	for n := range 9 {
		lists = append(lists, rulesOf(n))
	}
	named := []impl.Rule{}
	for i, name := range languageWords[:7] {
		named = append(named, impl.Rule{Id: 20 - 7 + i, Name: name, Rank: 9 - i, Second: i%2 > 0, Debate: i%3 > 0, Amend: i%4 > 0, Need: i%3 + 1})
	}
	longest := []impl.Rule{}
	for i := range 8 {
		longest = append(longest, impl.Rule{Id: 13 + i, Name: "abcdefghi" + string(rune('a'+i)), Second: true, Debate: true, Amend: true, Need: impl.NeedTwoThirds})
	}
	for _, list := range append(lists, named, longest) {
		want := ""
		for _, r := range list {
			want += lineOf(r) + "\n"
		}
		text, ok := impl.RulesText(list)
		if !ok || text != want {
			t.Errorf("RulesText = %q, %v; want %q", text, ok, want)
		}
		if got, ok := impl.ParseRules(text); !ok || !slices.Equal(got, list) {
			t.Errorf("ParseRules(%q) = %v, %v", text, got, ok)
		}
	}
}

func TestParseRulesInvalid(t *testing.T) {
	lines := strings.SplitAfter(fourRulesText, "\n")[:4]
	nine := ""
	for _, r := range rulesOf(9) {
		nine += lineOf(r) + "\n"
	}
	for _, s := range []string{
		"\n", "\n\n", " ", "x", "x\n", strings.TrimSuffix(fourRulesText, "\n"), strings.TrimSuffix(lines[0], "\n"), fourRulesText + "\n", "\n" + fourRulesText,
		lines[0] + "\n" + lines[1], fourRulesText + " ", fourRulesText + "x", lines[1] + lines[0], lines[0] + lines[0], lines[0] + "3 main rank 0 by all\n",
		lines[0] + "2 other rank 0 by all\n", nine, strings.ReplaceAll(fourRulesText, "\n", "\r\n"), strings.ReplaceAll(fourRulesText, "\n", ";"),
		strings.Replace(fourRulesText, "rank 4", "rank 10", 1), strings.Replace(fourRulesText, "7 table", "07 table", 1),
		strings.Replace(fourRulesText, "by all", "by", 1), strings.Replace(fourRulesText, "second debate", "debate second", 1),
		strings.Replace(fourRulesText, "7 table", "7  table", 1), strings.Replace(fourRulesText, "12 close", "21 close", 1),
		strings.Repeat("\n", 4000), strings.Repeat("\n", 4001), strings.Repeat(lines[0], 100), strings.Repeat(fourRulesText, 1000),
	} {
		if got, ok := impl.ParseRules(s); ok || len(got) != 0 {
			t.Errorf("ParseRules(%.80q) = %v", s, got)
		}
	}
}

func TestParseRulesOnChangedText(t *testing.T) {
	for i := range len(fourRulesText) {
		for c := range 256 {
			changed := fourRulesText[:i] + string([]byte{byte(c)}) + fourRulesText[i+1:]
			got, ok := impl.ParseRules(changed)
			if !ok && len(got) != 0 {
				t.Errorf("ParseRules(%q) fails with %v", changed, got)
			}
			if text, valid := impl.RulesText(got); ok && (!valid || text != changed) {
				t.Errorf("ParseRules(%q) = %v", changed, got)
			}
		}
		if got, ok := impl.ParseRules(fourRulesText[:i]); ok != (i == 0 || fourRulesText[i-1] == '\n') || !ok && len(got) != 0 {
			t.Errorf("ParseRules(%q) = %v, %v", fourRulesText[:i], got, ok)
		}
	}
}

func TestRuleFunctionsLeaveTheirArguments(t *testing.T) {
	beyond := impl.Rule{Id: 99, Name: "beyond the length"}
	memory := append([]impl.Rule{beyond}, append(fourRules(), beyond, beyond)...)
	kept := slices.Clone(memory)
	list := memory[1:5]
	added, addedOk := impl.AddRule(list, impl.Rule{Id: 20, Name: "last", Need: 1})
	inner, innerOk := impl.AddRule(list, impl.Rule{Id: 1, Name: "first", Need: 1})
	changed, changedOk := impl.ChangeRank(list, 2, 9)
	if !addedOk || !innerOk || !changedOk || len(added) != 5 || len(inner) != 5 || len(changed) != 4 {
		t.Error("results", added, inner, changed)
	}
	for _, result := range [][]impl.Rule{added, inner, changed} {
		// Even what lies beyond the length of a result must not be the argument's memory.
		result = result[:cap(result)]
		for i := range result {
			result[i] = beyond
		}
	}
	impl.IsValidRules(list)
	impl.RuleByName(list, "table")
	impl.RulesAbove(list, -1)
	impl.RulesText(list)
	impl.AddRule(list, impl.Rule{})
	impl.ChangeRank(list, 2, 10)
	if !slices.Equal(memory, kept) {
		t.Error("changed", memory)
	}
}

func TestRuleResultsAreRepeated(t *testing.T) {
	ids, _ := impl.RulesAbove(fourRules(), 3)
	rules, _ := impl.ParseRules(fourRulesText)
	ids[0], rules[0] = 99, impl.Rule{}
	if again, ok := impl.RulesAbove(fourRules(), 3); !ok || !slices.Equal(again, []int{7, 3, 12}) {
		t.Error("RulesAbove depends on the calls before", again)
	}
	if again, ok := impl.ParseRules(fourRulesText); !ok || !slices.Equal(again, fourRules()) {
		t.Error("ParseRules depends on the calls before", again)
	}
}
