package tests

import (
	"fmt"
	"math"
	"slices"
	"testing"

	"loop.example/g00909/impl"
)

// sixRules returns rules of which the order of the Ids is not that of the Ranks, and two have
// one Rank. The Rules 2, 5 and 12 need a second.
func sixRules() []impl.Rule {
	return []impl.Rule{
		{Id: 2, Name: "main", Rank: 0, Second: true, Debate: true, Amend: true, Need: impl.NeedMajority},
		{Id: 3, Name: "adjourn", Rank: 9, Need: impl.NeedMajority},
		{Id: 5, Name: "amend", Rank: 3, Second: true, Debate: true, Need: impl.NeedTwoThirds},
		{Id: 8, Name: "refer", Rank: 3, Amend: true, Need: impl.NeedMajority},
		{Id: 12, Name: "table", Rank: 5, Second: true, Need: impl.NeedAll},
		{Id: 20, Name: "order", Rank: 7, Need: impl.NeedMajority},
	}
}

// needing returns rules as those of rulesOf, of which the ones whose bit is set need a second.
func needing(n int, bits int) []impl.Rule {
	rules := rulesOf(n)
	for i := range rules {
		rules[i].Second = bits>>i&1 > 0
	}
	return rules
}

// moved returns a Question that nobody has seconded.
func moved(rule int, mover int) impl.Question { return impl.Question{Rule: rule, Mover: mover} }

// seconded returns a Question that somebody has seconded.
func seconded(rule int, mover int) impl.Question {
	return impl.Question{Rule: rule, Mover: mover, Seconded: true}
}

// pendingOf returns n questions by the first n rules of rulesOf, which are pending up to MaxPending.
func pendingOf(n int) []impl.Question {
	list := []impl.Question{}
	for i := range n {
		list = append(list, moved(2*i+2, 10*(i%2)+1))
	}
	return list
}

// noAssemblyMembers are numbers of no member of the assembly.
var noAssemblyMembers = []int{0, -1, -99, 100, 101, 1 << 32, 1<<32 + 1, -1 << 32, math.MinInt, math.MaxInt}

// noRuleIds are Ids that none of the rules of sixRules has.
var noRuleIds = []int{0, 1, 4, 6, 7, 9, 11, 13, 19, 21, -2, -3, 1<<32 + 2, math.MinInt, math.MaxInt}

// ruleWith returns the Rule with an Id, and whether there is one.
func ruleWith(rules []impl.Rule, id int) (impl.Rule, bool) {
	for _, r := range rules {
		if r.Id == id {
			return r, true
		}
	}
	return impl.Rule{}, false
}

// ranksOfQuestions returns the Ranks of questions by rules that have one for each of them.
func ranksOfQuestions(rules []impl.Rule, list []impl.Question) []int {
	ranks := []int{}
	for _, q := range list {
		r, _ := ruleWith(rules, q.Rule)
		ranks = append(ranks, r.Rank)
	}
	return ranks
}

// ascendStrictly reports whether numbers are in strictly ascending order.
func ascendStrictly(numbers []int) bool {
	return slices.IsSorted(numbers) && len(slices.Compact(slices.Clone(numbers))) == len(numbers)
}

// lacking returns the indices of the questions that lack a second.
func lacking(rules []impl.Rule, list []impl.Question) []int {
	indices := []int{}
	for i, q := range list {
		if r, _ := ruleWith(rules, q.Rule); r.Second && !q.Seconded {
			indices = append(indices, i)
		}
	}
	return indices
}

// lastLacks reports whether the last question lacks a second.
func lastLacks(rules []impl.Rule, list []impl.Question) bool {
	return slices.Contains(lacking(rules, list), len(list)-1)
}

// arePending reports whether list are pending questions by a list of rules.
func arePending(rules []impl.Rule, list []impl.Question) bool {
	for _, q := range list {
		r, ok := ruleWith(rules, q.Rule)
		if !ok || q.Mover < 1 || q.Mover > impl.MaxMember || q.Seconded && !r.Second {
			return false
		}
	}
	lack := lacking(rules, list)
	return len(list) <= impl.MaxPending && ascendStrictly(ranksOfQuestions(rules, list)) &&
		(len(lack) == 0 || lack[0] == len(list)-1)
}

// eachQuestionList calls visit with all lists of at most so many of these questions.
func eachQuestionList(most int, questions []impl.Question, visit func([]impl.Question)) {
	list := []impl.Question{}
	var fill func()
	fill = func() {
		visit(slices.Clone(list))
		if len(list) == most {
			return
		}
		for _, q := range questions {
			list = append(list, q)
			fill()
			list = list[:len(list)-1]
		}
	}
	fill()
}

// eachPending calls visit with all pending questions of these movers.
func eachPending(rules []impl.Rule, movers []int, visit func([]impl.Question)) {
	list := []impl.Question{}
	var fill func()
	fill = func() {
		if !arePending(rules, list) {
			return
		}
		visit(slices.Clone(list))
		for _, r := range rules {
			for _, mover := range movers {
				for _, q := range []impl.Question{moved(r.Id, mover), seconded(r.Id, mover)} {
					list = append(list, q)
					fill()
					list = list[:len(list)-1]
				}
			}
		}
	}
	fill()
}

// checkQuestions checks the questions that a call returns; where it has to fail, want is nil.
func checkQuestions(t *testing.T, call string, list []impl.Question, got []impl.Question, ok bool, want []impl.Question) {
	t.Helper()
	if ok != (want != nil) || !slices.Equal(got, want) {
		t.Errorf("%s with %v: %v, %v; want %v", call, list, got, ok, want)
	}
}

// checkMoves checks what may be moved behind pending questions, and what becomes of them.
func checkMoves(t *testing.T, rules []impl.Rule, list []impl.Question) {
	t.Helper()
	may := []int{}
	for id := -1; id <= 22; id++ {
		for _, mover := range []int{0, 1, 2, 50, 99, 100} {
			want := append(slices.Clone(list), moved(id, mover))
			if !arePending(rules, want) {
				want = nil
			}
			got, ok := impl.MoveQuestion(rules, list, id, mover)
			checkQuestions(t, fmt.Sprint("moved ", id, " by ", mover), list, got, ok, want)
		}
		if arePending(rules, append(slices.Clone(list), moved(id, 1))) {
			may = append(may, id)
		}
	}
	if got, ok := impl.MayBeMoved(rules, list); !ok || !slices.Equal(got, may) {
		t.Errorf("MayBeMoved with %v: %v, %v; want %v", list, got, ok, may)
	}
}

// checkMembers checks what becomes of pending questions if a member seconds or withdraws.
func checkMembers(t *testing.T, rules []impl.Rule, list []impl.Question) {
	t.Helper()
	for member := -1; member <= 101; member++ {
		var left, second []impl.Question
		for i, q := range list {
			if q.Mover == member {
				left = append([]impl.Question{}, list[:i]...)
			}
		}
		got, ok := impl.WithdrawQuestion(rules, list, member)
		checkQuestions(t, fmt.Sprint("withdrawn by ", member), list, got, ok, left)
		if last := len(list) - 1; lastLacks(rules, list) && member >= 1 && member <= 99 && member != list[last].Mover {
			second = append([]impl.Question{}, list...)
			second[last].Seconded = true
		}
		got, ok = impl.SecondQuestion(rules, list, member)
		checkQuestions(t, fmt.Sprint("seconded by ", member), list, got, ok, second)
	}
}

// checkEnds checks what becomes of pending questions if the last one is disposed of or dropped.
func checkEnds(t *testing.T, rules []impl.Rule, list []impl.Question) {
	t.Helper()
	dropped := append([]impl.Question{}, list...)
	var disposed []impl.Question
	last := impl.Question{}
	switch {
	case lastLacks(rules, list):
		dropped = dropped[:len(list)-1]
	case len(list) > 0:
		disposed, last = append([]impl.Question{}, list[:len(list)-1]...), list[len(list)-1]
	}
	got, ok := impl.DropUnseconded(rules, list)
	checkQuestions(t, "DropUnseconded", list, got, ok, dropped)
	got, q, ok := impl.DisposeQuestion(rules, list)
	checkQuestions(t, "DisposeQuestion", list, got, ok, disposed)
	if q != last {
		t.Errorf("disposed of the last one of %v: %v; want %v", list, q, last)
	}
}

// checkTold checks what is told of pending questions.
func checkTold(t *testing.T, rules []impl.Rule, list []impl.Question) {
	t.Helper()
	names, movers := []string{}, []int{}
	for _, q := range list {
		r, _ := ruleWith(rules, q.Rule)
		names = append(names, r.Name)
	}
	for member := range impl.MaxMember + 1 {
		if slices.ContainsFunc(list, func(q impl.Question) bool { return q.Mover == member }) {
			movers = append(movers, member)
		}
	}
	if got, ok := impl.QuestionNames(rules, list); !ok || !slices.Equal(got, names) {
		t.Errorf("QuestionNames with %v: %v, %v; want %v", list, got, ok, names)
	}
	if got, ok := impl.MoversOf(rules, list); !ok || !slices.Equal(got, movers) {
		t.Errorf("MoversOf with %v: %v, %v; want %v", list, got, ok, movers)
	}
}

// checkPending checks all that is said of pending questions.
func checkPending(t *testing.T, rules []impl.Rule, list []impl.Question) {
	t.Helper()
	if !impl.ArePending(rules, list) {
		t.Errorf("not pending by %v: %v", rules, list)
	}
	checkMoves(t, rules, list)
	checkMembers(t, rules, list)
	checkEnds(t, rules, list)
	checkTold(t, rules, list)
}

// checkNotPending checks that every function fails for these rules and questions.
func checkNotPending(t *testing.T, name string, rules []impl.Rule, list []impl.Question) {
	t.Helper()
	if impl.ArePending(rules, list) {
		t.Error("pending:", name)
	}
	if got, ok := impl.MayBeMoved(rules, list); ok || len(got) != 0 {
		t.Error("MayBeMoved:", name, got)
	}
	for _, n := range []int{0, 1, 2, 3, 20, 99} {
		if got, ok := impl.MoveQuestion(rules, list, n, 1); ok || len(got) != 0 {
			t.Error("MoveQuestion:", name, n, got)
		}
		if got, ok := impl.SecondQuestion(rules, list, n); ok || len(got) != 0 {
			t.Error("SecondQuestion:", name, n, got)
		}
		if got, ok := impl.WithdrawQuestion(rules, list, n); ok || len(got) != 0 {
			t.Error("WithdrawQuestion:", name, n, got)
		}
	}
	if got, q, ok := impl.DisposeQuestion(rules, list); ok || len(got) != 0 || q != (impl.Question{}) {
		t.Error("DisposeQuestion:", name, got, q)
	}
	if got, ok := impl.DropUnseconded(rules, list); ok || len(got) != 0 {
		t.Error("DropUnseconded:", name, got)
	}
	if got, ok := impl.QuestionNames(rules, list); ok || len(got) != 0 {
		t.Error("QuestionNames:", name, got)
	}
	if got, ok := impl.MoversOf(rules, list); ok || len(got) != 0 {
		t.Error("MoversOf:", name, got)
	}
}

func TestConstantsOfQuestions(t *testing.T) {
	if impl.MaxPending != 6 || impl.MaxMember != 99 {
		t.Error("constants", impl.MaxPending, impl.MaxMember)
	}
}

func TestArePending(t *testing.T) {
	for name, list := range map[string][]impl.Question{
		"none":                         nil,
		"one without a second":         {moved(3, 1)},
		"one that lacks a second":      {moved(2, 1)},
		"one that is Seconded":         {seconded(2, 1)},
		"a Mover of MaxMember":         {moved(3, 99)},
		"a greater Rank":               {seconded(2, 1), seconded(12, 2)},
		"a greater Rank, a smaller Id": {moved(20, 1), moved(3, 1)},
		"a greater Rank by one mover":  {seconded(2, 4), seconded(5, 4), moved(3, 4)},
		"the last one lacks a second":  {seconded(2, 1), seconded(5, 2), moved(12, 3)},
		"the greatest number of Ranks": {seconded(2, 1), moved(8, 99), seconded(12, 1), moved(20, 99), moved(3, 50)},
	} {
		if !impl.ArePending(sixRules(), list) {
			t.Error("not pending:", name)
		}
	}
	for n := range impl.MaxPending + 1 {
		if !impl.ArePending(rulesOf(8), pendingOf(n)) {
			t.Error("not pending:", n)
		}
	}
}

// notPending returns lists that are no pending questions by sixRules, by what is wrong with them.
func notPending() map[string][]impl.Question {
	lists := map[string][]impl.Question{
		"a zero Question":                {{}},
		"Seconded without need":          {seconded(3, 1)},
		"Seconded without need, last":    {seconded(2, 1), seconded(8, 2)},
		"Seconded without need, first":   {seconded(8, 1), moved(3, 2)},
		"the same Rule":                  {seconded(2, 1), seconded(2, 2)},
		"the same Rule without need":     {moved(3, 1), moved(3, 1)},
		"the same Rank":                  {seconded(5, 1), moved(8, 1)},
		"the same Rank, a smaller Id":    {moved(8, 1), moved(5, 1)},
		"a lower Rank":                   {seconded(5, 1), moved(2, 2)},
		"a lower Rank, a greater Id":     {moved(3, 1), moved(20, 2)},
		"a lower Rank than the first":    {moved(8, 1), moved(3, 2), moved(20, 3)},
		"a lower Rank at the beginning":  {seconded(12, 1), seconded(5, 2), moved(20, 3)},
		"one behind a lack":              {moved(2, 1), moved(3, 2)},
		"one behind a lack, last":        {seconded(2, 1), moved(5, 2), moved(3, 3)},
		"one behind a lack, lacking too": {moved(2, 1), moved(5, 2)},
		"one behind a lack, Seconded":    {moved(2, 1), seconded(5, 2)},
		"one behind a lack, first":       {moved(2, 1), seconded(5, 2), moved(3, 3)},
		"far above MaxPending":           make([]impl.Question, 100000),
		"far above MaxPending, one Rule": slices.Repeat([]impl.Question{moved(3, 1)}, 100000),
	}
	for _, member := range noAssemblyMembers {
		lists[fmt.Sprint("alone, Mover ", member)] = []impl.Question{moved(3, member)}
		lists[fmt.Sprint("first, Mover ", member)] = []impl.Question{seconded(2, member), moved(3, 1)}
		lists[fmt.Sprint("last, Mover ", member)] = []impl.Question{seconded(2, 1), moved(12, member)}
	}
	for _, id := range noRuleIds {
		lists[fmt.Sprint("alone, Rule ", id)] = []impl.Question{moved(id, 1)}
		lists[fmt.Sprint("alone, Seconded, Rule ", id)] = []impl.Question{seconded(id, 1)}
		lists[fmt.Sprint("first, Rule ", id)] = []impl.Question{moved(id, 1), moved(3, 1)}
		lists[fmt.Sprint("last, Rule ", id)] = []impl.Question{seconded(2, 1), moved(id, 1)}
	}
	return lists
}

func TestNotPending(t *testing.T) {
	for name, list := range notPending() {
		checkNotPending(t, name, sixRules(), list)
	}
	for _, bits := range []int{0, 1 << 6} {
		checkNotPending(t, "one above MaxPending", needing(8, bits), pendingOf(7))
	}
	checkNotPending(t, "two above MaxPending", rulesOf(8), pendingOf(8))
}

func TestNotPendingByNoRules(t *testing.T) {
	for name, rules := range invalidRuleLists() {
		checkNotPending(t, name, rules, nil)
		checkNotPending(t, name, rules, []impl.Question{moved(3, 1)})
		checkNotPending(t, name, rules, []impl.Question{seconded(2, 1), moved(3, 1)})
	}
	checkNotPending(t, "above MaxRules", rulesOf(9), pendingOf(6))
}

func TestNoRulesAtAll(t *testing.T) {
	for _, rules := range [][]impl.Rule{nil, {}} {
		checkPending(t, rules, nil)
		if got, ok := impl.MayBeMoved(rules, nil); !ok || len(got) != 0 {
			t.Error("moved without rules", got, ok)
		}
		checkNotPending(t, "no rules", rules, []impl.Question{moved(3, 1)})
		checkNotPending(t, "no rules", rules, []impl.Question{{}})
	}
}

func TestEveryListOfQuestions(t *testing.T) {
	questions := []impl.Question{}
	for _, id := range []int{1, 2, 3, 5, 8, 12, 20} {
		for _, mover := range []int{0, 1, 99} {
			questions = append(questions, moved(id, mover), seconded(id, mover))
		}
	}
	rules := sixRules()
	eachQuestionList(3, questions, func(list []impl.Question) {
		if arePending(rules, list) {
			checkPending(t, rules, list)
		} else {
			checkNotPending(t, fmt.Sprint(list), rules, list)
		}
	})
}

func TestEveryListOfPendingQuestions(t *testing.T) {
	eachPending(sixRules(), []int{7}, func(list []impl.Question) { checkPending(t, sixRules(), list) })
	for _, bits := range []int{0, 255, 0x55, 0xaa, 0x65} {
		rules := needing(8, bits)
		eachPending(rules, []int{1}, func(list []impl.Question) {
			for i := range list {
				list[i].Mover = []int{40, 3, 99, 40, 1, 3}[i]
			}
			checkPending(t, rules, list)
		})
	}
}

// nextQuestions returns what pending questions become by one call, with these movers.
func nextQuestions(rules []impl.Rule, list []impl.Question, movers []int) [][]impl.Question {
	next := [][]impl.Question{}
	keep := func(result []impl.Question, ok bool) {
		if ok {
			next = append(next, result)
		}
	}
	for _, member := range movers {
		for _, r := range rules {
			keep(impl.MoveQuestion(rules, list, r.Id, member))
		}
		keep(impl.SecondQuestion(rules, list, member))
		keep(impl.WithdrawQuestion(rules, list, member))
	}
	disposed, _, ok := impl.DisposeQuestion(rules, list)
	keep(disposed, ok)
	keep(impl.DropUnseconded(rules, list))
	return next
}

func TestTheRanksOfPendingQuestionsAscendStrictly(t *testing.T) {
	movers := []int{1, 99}
	for _, rules := range [][]impl.Rule{nil, sixRules(), fourRules(), needing(8, 0), needing(7, 0x2d)} {
		reached := map[string]bool{"[]": true}
		queue := [][]impl.Question{{}}
		for len(queue) > 0 {
			list := queue[0]
			queue = queue[1:]
			if ranks := ranksOfQuestions(rules, list); !ascendStrictly(ranks) || !impl.ArePending(rules, list) {
				t.Error("reached", list, "with the Ranks", ranks)
			}
			for _, next := range nextQuestions(rules, list, movers) {
				if key := fmt.Sprint(next); !reached[key] {
					reached[key] = true
					queue = append(queue, next)
				}
			}
		}
		// Whatever may be pending can come about.
		count := 0
		eachPending(rules, movers, func(list []impl.Question) {
			count++
			if !reached[fmt.Sprint(list)] {
				t.Error("not reached", list)
			}
		})
		if count != len(reached) {
			t.Error("reached", len(reached), "of", count)
		}
	}
}

func TestMayBeMoved(t *testing.T) {
	for _, c := range []struct {
		list []impl.Question
		want []int
	}{
		{nil, []int{2, 3, 5, 8, 12, 20}},
		{[]impl.Question{moved(2, 1)}, nil},
		{[]impl.Question{seconded(2, 1)}, []int{3, 5, 8, 12, 20}},
		{[]impl.Question{moved(8, 1)}, []int{3, 12, 20}},
		{[]impl.Question{seconded(5, 1)}, []int{3, 12, 20}},
		{[]impl.Question{seconded(2, 1), seconded(12, 1)}, []int{3, 20}},
		{[]impl.Question{seconded(2, 1), moved(12, 1)}, nil},
		{[]impl.Question{moved(20, 1)}, []int{3}},
		{[]impl.Question{moved(3, 1)}, nil},
	} {
		if got, ok := impl.MayBeMoved(sixRules(), c.list); !ok || !slices.Equal(got, c.want) {
			t.Errorf("MayBeMoved with %v: %v, %v; want %v", c.list, got, ok, c.want)
		}
	}
	for n, want := range [][]int{{2, 4, 6, 8, 10, 12, 14, 16}, {4, 6, 8, 10, 12, 14, 16}, {6, 8, 10, 12, 14, 16}, {8, 10, 12, 14, 16}, {10, 12, 14, 16}, {12, 14, 16}, {}} {
		if got, ok := impl.MayBeMoved(rulesOf(8), pendingOf(n)); !ok || !slices.Equal(got, want) {
			t.Errorf("MayBeMoved with %d: %v, %v; want %v", n, got, ok, want)
		}
	}
}

func TestMoveQuestion(t *testing.T) {
	main := []impl.Question{seconded(2, 7)}
	for _, c := range []struct {
		list      []impl.Question
		id, mover int
		want      bool
	}{
		{nil, 2, 1, true}, {nil, 3, 99, true}, {nil, 20, 1, true},
		{main, 3, 7, true}, {main, 5, 1, true}, {main, 12, 99, true}, {main, 2, 1, false},
		{[]impl.Question{moved(2, 7)}, 3, 1, false},
		{[]impl.Question{moved(8, 7)}, 5, 1, false}, {[]impl.Question{moved(8, 7)}, 2, 1, false}, {[]impl.Question{moved(8, 7)}, 12, 1, true},
		{[]impl.Question{moved(20, 7)}, 12, 1, false}, {[]impl.Question{moved(20, 7)}, 3, 1, true}, {[]impl.Question{moved(3, 7)}, 20, 1, false},
	} {
		var want []impl.Question
		if c.want {
			want = append(slices.Clone(c.list), moved(c.id, c.mover))
		}
		got, ok := impl.MoveQuestion(sixRules(), c.list, c.id, c.mover)
		checkQuestions(t, fmt.Sprint("moved ", c.id, " by ", c.mover), c.list, got, ok, want)
	}
	for _, list := range [][]impl.Question{nil, main} {
		for _, member := range noAssemblyMembers {
			got, ok := impl.MoveQuestion(sixRules(), list, 3, member)
			checkQuestions(t, fmt.Sprint("moved by ", member), list, got, ok, nil)
		}
		for _, id := range noRuleIds {
			got, ok := impl.MoveQuestion(sixRules(), list, id, 1)
			checkQuestions(t, fmt.Sprint("moved ", id), list, got, ok, nil)
		}
	}
}

func TestMoveQuestionsUntilThereAreMaxPending(t *testing.T) {
	rules := rulesOf(8)
	list := []impl.Question{}
	for i := range 6 {
		longer, ok := impl.MoveQuestion(rules, list, 2*i+2, 10*(i%2)+1)
		if !ok || !slices.Equal(longer, pendingOf(i+1)) {
			t.Fatal("moved", i, longer, ok)
		}
		list = longer
	}
	for id := range 21 {
		if got, ok := impl.MoveQuestion(rules, list, id, 1); ok || len(got) != 0 {
			t.Error("moved one above MaxPending", id, got)
		}
	}
}

func TestSecondQuestion(t *testing.T) {
	list := []impl.Question{seconded(2, 7), moved(5, 8)}
	for _, member := range []int{1, 2, 7, 9, 98, 99} {
		got, ok := impl.SecondQuestion(sixRules(), list, member)
		checkQuestions(t, fmt.Sprint("seconded by ", member), list, got, ok, []impl.Question{seconded(2, 7), seconded(5, 8)})
	}
	for _, member := range append([]int{8}, noAssemblyMembers...) {
		got, ok := impl.SecondQuestion(sixRules(), list, member)
		checkQuestions(t, fmt.Sprint("seconded by ", member), list, got, ok, nil)
	}
	for name, list := range map[string][]impl.Question{
		"nothing is pending":        nil,
		"it has a second":           {seconded(2, 7)},
		"the last one has a second": {seconded(2, 7), seconded(5, 8)},
		"it needs none":             {moved(3, 7)},
		"the last one needs none":   {seconded(2, 7), moved(3, 8)},
		"none of them needs one":    {moved(8, 7), moved(3, 8)},
	} {
		for _, member := range []int{1, 7, 8, 99} {
			got, ok := impl.SecondQuestion(sixRules(), list, member)
			checkQuestions(t, name, list, got, ok, nil)
		}
	}
	if got, ok := impl.SecondQuestion(needing(8, 1<<5), pendingOf(6), 1); !ok || !got[5].Seconded {
		t.Error("the last one of six", got, ok)
	}
}

func TestDisposeQuestion(t *testing.T) {
	for _, c := range []struct {
		list []impl.Question
		left []impl.Question
	}{
		{[]impl.Question{seconded(2, 7)}, []impl.Question{}},
		{[]impl.Question{moved(3, 7)}, []impl.Question{}},
		{[]impl.Question{seconded(2, 7), seconded(5, 8)}, []impl.Question{seconded(2, 7)}},
		{[]impl.Question{seconded(2, 7), moved(3, 7)}, []impl.Question{seconded(2, 7)}},
		{[]impl.Question{moved(8, 1), seconded(12, 2), moved(20, 3)}, []impl.Question{moved(8, 1), seconded(12, 2)}},
	} {
		got, q, ok := impl.DisposeQuestion(sixRules(), c.list)
		checkQuestions(t, "disposed of", c.list, got, ok, c.left)
		if q != c.list[len(c.list)-1] {
			t.Error("disposed of", q)
		}
	}
	for name, list := range map[string][]impl.Question{
		"nothing is pending": nil, "it lacks a second": {moved(2, 7)}, "the last one lacks a second": {seconded(2, 7), moved(5, 8)},
	} {
		got, q, ok := impl.DisposeQuestion(sixRules(), list)
		checkQuestions(t, name, list, got, ok, nil)
		if q != (impl.Question{}) {
			t.Error(name, q)
		}
	}
	if got, q, ok := impl.DisposeQuestion(rulesOf(8), pendingOf(6)); !ok || !slices.Equal(got, pendingOf(5)) || q != moved(12, 11) {
		t.Error("the last one of six", got, q, ok)
	}
}

func TestWithdrawQuestion(t *testing.T) {
	list := []impl.Question{seconded(2, 7), moved(8, 5), seconded(12, 7), moved(20, 99), moved(3, 5)}
	for member, left := range map[int]int{7: 2, 5: 4, 99: 3} {
		got, ok := impl.WithdrawQuestion(sixRules(), list, member)
		checkQuestions(t, fmt.Sprint("withdrawn by ", member), list, got, ok, list[:left])
	}
	for _, member := range append([]int{1, 2, 6, 8, 98}, noAssemblyMembers...) {
		got, ok := impl.WithdrawQuestion(sixRules(), list, member)
		checkQuestions(t, fmt.Sprint("withdrawn by ", member), list, got, ok, nil)
		got, ok = impl.WithdrawQuestion(sixRules(), nil, member)
		checkQuestions(t, fmt.Sprint("nothing withdrawn by ", member), nil, got, ok, nil)
	}
	for name, list := range map[string][]impl.Question{
		"the only one": {seconded(2, 7)}, "the only one, which lacks a second": {moved(2, 7)},
		"the first one, with the other": {seconded(2, 7), moved(5, 8)},
	} {
		got, ok := impl.WithdrawQuestion(sixRules(), list, 7)
		checkQuestions(t, name, list, got, ok, []impl.Question{})
	}
	lacks := []impl.Question{seconded(2, 7), moved(5, 7)}
	got, ok := impl.WithdrawQuestion(sixRules(), lacks, 7)
	checkQuestions(t, "the last one, which lacks a second", lacks, got, ok, lacks[:1])
}

func TestDropUnseconded(t *testing.T) {
	for _, c := range []struct {
		list []impl.Question
		kept int
	}{
		{nil, 0}, {[]impl.Question{moved(2, 7)}, 0}, {[]impl.Question{seconded(2, 7)}, 1}, {[]impl.Question{moved(3, 7)}, 1},
		{[]impl.Question{seconded(2, 7), moved(5, 8)}, 1}, {[]impl.Question{seconded(2, 7), seconded(5, 8)}, 2},
		{[]impl.Question{seconded(2, 7), moved(8, 7)}, 2}, {[]impl.Question{moved(8, 7), moved(12, 7)}, 1},
	} {
		got, ok := impl.DropUnseconded(sixRules(), c.list)
		checkQuestions(t, "dropped", c.list, got, ok, append([]impl.Question{}, c.list[:c.kept]...))
	}
	for bits, kept := range map[int]int{0: 6, 1 << 5: 5, 1 << 6: 6} {
		got, ok := impl.DropUnseconded(needing(8, bits), pendingOf(6))
		checkQuestions(t, "dropped", pendingOf(6), got, ok, pendingOf(kept))
	}
}

func TestNamesAndMoversOfQuestions(t *testing.T) {
	for _, c := range []struct {
		list   []impl.Question
		names  []string
		movers []int
	}{
		{nil, nil, nil},
		{[]impl.Question{moved(2, 99)}, []string{"main"}, []int{99}},
		{[]impl.Question{seconded(2, 9), moved(12, 1)}, []string{"main", "table"}, []int{1, 9}},
		{[]impl.Question{seconded(2, 9), moved(8, 10), moved(3, 9)}, []string{"main", "refer", "adjourn"}, []int{9, 10}},
		{[]impl.Question{moved(8, 4), moved(20, 4), moved(3, 4)}, []string{"refer", "order", "adjourn"}, []int{4}},
		{[]impl.Question{seconded(2, 5), seconded(5, 3), seconded(12, 5), moved(20, 3), moved(3, 4)},
			[]string{"main", "amend", "table", "order", "adjourn"}, []int{3, 4, 5}},
	} {
		if got, ok := impl.QuestionNames(sixRules(), c.list); !ok || !slices.Equal(got, c.names) {
			t.Errorf("QuestionNames with %v: %v, %v; want %v", c.list, got, ok, c.names)
		}
		if got, ok := impl.MoversOf(sixRules(), c.list); !ok || !slices.Equal(got, c.movers) {
			t.Errorf("MoversOf with %v: %v, %v; want %v", c.list, got, ok, c.movers)
		}
	}
	if got, ok := impl.QuestionNames(rulesOf(8), pendingOf(6)); !ok || !slices.Equal(got, []string{"a", "b", "c", "d", "e", "f"}) {
		t.Error("six names", got, ok)
	}
	if got, ok := impl.MoversOf(rulesOf(8), pendingOf(6)); !ok || !slices.Equal(got, []int{1, 11}) {
		t.Error("movers of six", got, ok)
	}
}

func TestNoQuestionsBeyondTheLength(t *testing.T) {
	memory := []impl.Question{seconded(2, 7), moved(8, 5), {Rule: -1, Mover: -1, Seconded: true}, moved(3, 4)}
	rules := append(sixRules(), impl.Rule{Id: -1, Name: "Nothing"})
	checkPending(t, rules[:6], memory[:0])
	checkPending(t, rules[:6], memory[:1])
	checkPending(t, rules[:6], memory[:2])
	checkNotPending(t, "beyond the length", rules, memory[:2])
	checkNotPending(t, "beyond the length", rules[:6], memory[:3])
	if got, ok := impl.WithdrawQuestion(rules[:6], memory[:2], 4); ok || len(got) != 0 {
		t.Error("withdrawn beyond the length", got)
	}
}

func TestQuestionFunctionsLeaveTheirArguments(t *testing.T) {
	beyond := impl.Question{Rule: -1, Mover: -1}
	memory := []impl.Question{beyond, seconded(2, 7), seconded(5, 3), moved(12, 7), beyond, beyond}
	kept := slices.Clone(memory)
	rules := append(sixRules(), impl.Rule{Name: "beyond"})
	keptRules := slices.Clone(rules)
	results := [][]impl.Question{}
	keep := func(result []impl.Question, _ bool) { results = append(results, result) }
	for end := 1; end <= len(memory); end++ {
		list := memory[1:end]
		for _, member := range []int{0, 1, 3, 7, 99, 100} {
			for id := range 21 {
				keep(impl.MoveQuestion(rules[:6], list, id, member))
			}
			keep(impl.SecondQuestion(rules[:6], list, member))
			keep(impl.WithdrawQuestion(rules[:6], list, member))
		}
		disposed, _, ok := impl.DisposeQuestion(rules[:6], list)
		keep(disposed, ok)
		keep(impl.DropUnseconded(rules[:6], list))
		impl.ArePending(rules[:6], list)
		impl.MayBeMoved(rules[:6], list)
		impl.QuestionNames(rules[:6], list)
		impl.MoversOf(rules[:6], list)
	}
	for _, result := range results {
		// Even what lies beyond the length of a result must not be the argument's memory.
		result = result[:cap(result)]
		for i := range result {
			result[i] = beyond
		}
	}
	if !slices.Equal(memory, kept) || !slices.Equal(rules, keptRules) {
		t.Error("changed", memory, rules)
	}
	checkPending(t, rules[:6], memory[1:4])
}

func TestQuestionResultsAreRepeated(t *testing.T) {
	rules, list := sixRules(), []impl.Question{seconded(2, 7), moved(5, 3)}
	secondedList, _ := impl.SecondQuestion(rules, list, 7)
	moves, _ := impl.MoveQuestion(rules, list[:1], 12, 4)
	withdrawn, _ := impl.WithdrawQuestion(rules, list, 3)
	dropped, _ := impl.DropUnseconded(rules, list)
	for _, result := range [][]impl.Question{secondedList, moves, withdrawn, dropped} {
		result[0] = impl.Question{}
	}
	may, _ := impl.MayBeMoved(rules, list[:1])
	movers, _ := impl.MoversOf(rules, list)
	names, _ := impl.QuestionNames(rules, list)
	may[0], movers[0], names[0] = 0, 0, ""
	checkPending(t, sixRules(), []impl.Question{seconded(2, 7), moved(5, 3)})
	checkPending(t, sixRules(), []impl.Question{seconded(2, 7)})
	checkPending(t, rules, list)
}
