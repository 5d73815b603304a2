package tests

import (
	"fmt"
	"math"
	"slices"
	"strconv"
	"strings"
	"testing"

	"loop.example/g00909/impl"
)

// rankingsOf returns Rankings that are written as the digits of their Orders, each with an asterisk
// and its Weight behind it if this is not 1.
func rankingsOf(s string) []impl.Ranking {
	list := []impl.Ranking{}
	for _, field := range strings.Fields(s) {
		r := impl.Ranking{Weight: 1}
		digits, weight, heavy := strings.Cut(field, "*")
		if heavy {
			r.Weight, _ = strconv.Atoi(weight)
		}
		for _, digit := range digits {
			r.Order = append(r.Order, int(digit-'0'))
		}
		list = append(list, r)
	}
	return list
}

// withWeight returns a Ranking that prefers the candidates in this order.
func withWeight(weight int, order ...int) impl.Ranking {
	return impl.Ranking{Order: order, Weight: weight}
}

// copiedRankings returns copies of Rankings.
func copiedRankings(list []impl.Ranking) []impl.Ranking {
	c := []impl.Ranking{}
	for _, r := range list {
		c = append(c, withWeight(r.Weight, slices.Clone(r.Order)...))
	}
	return c
}

// sameRankings reports whether two lists have the same Rankings.
func sameRankings(a []impl.Ranking, b []impl.Ranking) bool {
	return slices.EqualFunc(a, b, func(r impl.Ranking, s impl.Ranking) bool {
		return r.Weight == s.Weight && slices.Equal(r.Order, s.Order)
	})
}

// candidatesBeyond are numbers that are no candidates among n.
func candidatesBeyond(n int) []int {
	return []int{math.MinInt, math.MinInt + 1, -5, -2, -1, n, n + 1, n + 5, math.MaxInt - 1, math.MaxInt}
}

// ordersOf returns all Orders of n candidates.
func ordersOf(n int) [][]int {
	orders := [][]int{}
	eachTuple(n, 0, n-1, func(order []int) {
		if slices.Equal(slices.Sorted(slices.Values(order)), membersFrom(0, n)) {
			orders = append(orders, order)
		}
	})
	return orders
}

// isElection reports whether all Rankings are valid and n is a possible number of candidates.
func isElection(n int, list []impl.Ranking) bool {
	if !slices.Contains([]int{1, 2, 3, 4, 5}, n) || len(list) == 0 || len(list) >= 10 {
		return false
	}
	for _, r := range list {
		if !slices.Equal(slices.Sorted(slices.Values(r.Order)), membersFrom(0, n)) || r.Weight <= 0 || r.Weight >= 101 {
			return false
		}
	}
	return true
}

// isPreferred reports whether the candidate a stands before b in a Ranking that has both.
func isPreferred(r impl.Ranking, a int, b int) bool {
	return slices.Index(r.Order, a) < slices.Index(r.Order, b)
}

// weightIf returns the sum of the Weights of the Rankings that fit.
func weightIf(list []impl.Ranking, fits func(impl.Ranking) bool) int {
	sum := 0
	for _, r := range list {
		if fits(r) {
			sum += r.Weight
		}
	}
	return sum
}

// weightOfAll returns the sum of all Weights.
func weightOfAll(list []impl.Ranking) int {
	return weightIf(list, func(impl.Ranking) bool { return true })
}

// weightFor returns the sum of the Weights of the Rankings in which a stands before b.
func weightFor(list []impl.Ranking, a int, b int) int {
	return weightIf(list, func(r impl.Ranking) bool { return isPreferred(r, a, b) })
}

// firstVotesOf returns the first votes of one of some candidates among these.
func firstVotesOf(list []impl.Ranking, among []int, candidate int) int {
	return weightIf(list, func(r impl.Ranking) bool {
		return !slices.ContainsFunc(among, func(other int) bool { return isPreferred(r, other, candidate) })
	})
}

// runoffOf returns who wins the runoff among the remaining candidates, and the eliminated ones.
func runoffOf(list []impl.Ranking, remaining []int) (int, []int) {
	loser := remaining[0]
	for _, candidate := range remaining {
		votes := firstVotesOf(list, remaining, candidate)
		if 2*votes > weightOfAll(list) {
			return candidate, nil
		}
		if votes <= firstVotesOf(list, remaining, loser) {
			loser = candidate
		}
	}
	rest := slices.DeleteFunc(slices.Clone(remaining), func(candidate int) bool { return candidate == loser })
	winner, eliminated := runoffOf(list, rest)
	return winner, append([]int{loser}, eliminated...)
}

// beatenBy returns, for each of n candidates, those that it beats.
func beatenBy(n int, list []impl.Ranking) [][]int {
	beaten := [][]int{}
	for a := range n {
		row := []int{}
		for b := range n {
			if 2*weightFor(list, a, b) > weightOfAll(list) {
				row = append(row, b)
			}
		}
		beaten = append(beaten, row)
	}
	return beaten
}

// isDominant reports whether each member of a set beats all candidates outside of it.
func isDominant(beaten [][]int, set []int) bool {
	for _, member := range set {
		for outside := range beaten {
			if !slices.Contains(set, outside) && !slices.Contains(beaten[member], outside) {
				return false
			}
		}
	}
	return len(set) > 0
}

// dominantOf returns the only one of the smallest dominant sets, among all sets.
func dominantOf(beaten [][]int) []int {
	least := [][]int{}
	eachSubset(0, len(beaten)-1, func(set []int) {
		if !isDominant(beaten, set) {
			return
		}
		if len(least) > 0 && len(set) < len(least[0]) {
			least = nil
		}
		if len(least) == 0 || len(set) == len(least[0]) {
			least = append(least, set)
		}
	})
	if len(least) != 1 {
		panic("wrong test: no smallest set")
	}
	return least[0]
}

// withMost returns the candidates to whom the most is given.
func withMost(n int, given func(candidate int) int) []int {
	return slices.DeleteFunc(membersFrom(0, n), func(candidate int) bool {
		return slices.ContainsFunc(membersFrom(0, n), func(other int) bool { return given(other) > given(candidate) })
	})
}

// counted is what the functions tell of an election, without further arguments.
type counted struct {
	plurality, eliminated, borda, dominant, copeland []int
	table                                            [][]int
	runoff, condorcet                                int
	hasCondorcet                                     bool
}

// countedBy counts an election of any kind. Nothing is counted in one that is not valid.
func countedBy(n int, list []impl.Ranking) counted {
	c := counted{}
	if !isElection(n, list) {
		return c
	}
	beaten := beatenBy(n, list)
	c.plurality = withMost(n, func(candidate int) int { return firstVotesOf(list, membersFrom(0, n), candidate) })
	c.runoff, c.eliminated = runoffOf(list, membersFrom(0, n))
	for a := range n {
		row := []int{}
		for b := range n {
			row = append(row, weightFor(list, a, b))
		}
		c.table = append(c.table, row)
		score := 0
		for _, r := range list {
			score += r.Weight * len(r.Order[slices.Index(r.Order, a)+1:])
		}
		c.borda = append(c.borda, score)
		if len(beaten[a]) == n-1 {
			c.condorcet, c.hasCondorcet = a, true
		}
	}
	c.dominant = dominantOf(beaten)
	c.copeland = withMost(n, func(candidate int) int { return len(beaten[candidate]) })
	return c
}

// toldBy returns what the functions tell of an election of any kind, and checks whether they fail.
func toldBy(t *testing.T, n int, list []impl.Ranking) counted {
	t.Helper()
	c, fine := counted{}, [6]bool{}
	c.plurality, fine[0] = impl.PluralityWinners(n, list)
	c.runoff, c.eliminated, fine[1] = impl.RunoffWinner(n, list)
	c.table, fine[2] = impl.PairTable(n, list)
	c.borda, fine[3] = impl.BordaScores(n, list)
	c.dominant, fine[4] = impl.DominantSet(n, list)
	c.copeland, fine[5] = impl.CopelandWinners(n, list)
	c.condorcet, c.hasCondorcet = impl.CondorcetWinner(n, list)
	if is := isElection(n, list); fine != [6]bool{is, is, is, is, is, is} {
		t.Errorf("%d candidates, %.200s: %v; want %v", n, fmt.Sprint(list), fine, is)
	}
	return c
}

// sameCounted reports whether the same was counted.
func sameCounted(a counted, b counted) bool {
	return slices.Equal(a.plurality, b.plurality) && slices.Equal(a.eliminated, b.eliminated) && slices.Equal(a.borda, b.borda) &&
		slices.Equal(a.dominant, b.dominant) && slices.Equal(a.copeland, b.copeland) && slices.EqualFunc(a.table, b.table, slices.Equal) &&
		a.runoff == b.runoff && a.condorcet == b.condorcet && a.hasCondorcet == b.hasCondorcet
}

// checkFirstVotes checks the first votes in an election of any kind among candidates of any kind.
func checkFirstVotes(t *testing.T, n int, list []impl.Ranking, among []int) {
	t.Helper()
	fine := isElection(n, list) && ascendStrictly(among) && len(among) > 0 && among[0] >= 0 && among[len(among)-1] <= n-1
	want := []int{}
	for _, candidate := range among {
		if fine {
			want = append(want, firstVotesOf(list, among, candidate))
		}
	}
	if got, ok := impl.FirstVotes(n, list, among); !slices.Equal(got, want) || ok != fine {
		t.Errorf("%d candidates, %v: first votes among %v: %v, %v; want %v, %v", n, list, among, got, ok, want, fine)
	}
}

// checkMoveUp checks moving up a candidate of any kind in an election of any kind.
func checkMoveUp(t *testing.T, n int, list []impl.Ranking, voter int, candidate int) {
	t.Helper()
	want, fine := []impl.Ranking{}, false
	for i, r := range list {
		for at := 1; at < len(r.Order) && isElection(n, list); at++ {
			if i != voter || r.Order[at] != candidate {
				continue
			}
			want, fine = copiedRankings(list), true
			want[i].Order = slices.Concat(r.Order[:at-1], []int{candidate, r.Order[at-1]}, r.Order[at+1:])
		}
	}
	if got, ok := impl.MoveUp(n, list, voter, candidate); !sameRankings(got, want) || ok != fine {
		t.Errorf("%d candidates, %.200s: %d moved up in %d: %v, %v; want %v, %v", n, fmt.Sprint(list), candidate, voter, got, ok, want, fine)
	}
}

// checkMovesUp checks moving up every candidate in every Ranking, also those that do not occur.
func checkMovesUp(t *testing.T, n int, list []impl.Ranking) {
	t.Helper()
	for _, voter := range membersFrom(-1, min(len(list), 10)+2) {
		for _, candidate := range membersFrom(-1, min(max(n, 0), 6)+2) {
			checkMoveUp(t, n, list, voter, candidate)
		}
	}
}

// checkCondorcet checks promise 13 in an election, by what the functions tell alone.
func checkCondorcet(t *testing.T, n int, list []impl.Ranking) {
	t.Helper()
	winner, found := impl.CondorcetWinner(n, list)
	dominant, ok := impl.DominantSet(n, list)
	if !ok || found != (len(dominant) == 1) || found && dominant[0] != winner || !found && winner != 0 {
		t.Errorf("%d candidates, %v: dominant set %v, %v and winner %d, %v", n, list, dominant, ok, winner, found)
	}
	most, ok := impl.CopelandWinners(n, list)
	if !ok || found && !slices.Equal(most, dominant) {
		t.Errorf("%d candidates, %v: most wins of %v, %v and winner %d, %v", n, list, most, ok, winner, found)
	}
	for _, candidate := range most {
		if !slices.Contains(dominant, candidate) {
			t.Errorf("%d candidates, %v: most wins of %v and dominant set %v", n, list, most, dominant)
		}
	}
}

// checkVotesAgree checks what the functions tell of the votes of an election, held against each
// other.
func checkVotesAgree(t *testing.T, n int, list []impl.Ranking) {
	t.Helper()
	table, _ := impl.PairTable(n, list)
	scores, _ := impl.BordaScores(n, list)
	for a, row := range table {
		if sumOf(row) != scores[a] || row[a] != 0 {
			t.Errorf("%d candidates, %v: %d with %v and %d", n, list, a, row, scores[a])
		}
		for b := a + 1; b < n; b++ {
			votes, ok := impl.FirstVotes(n, list, []int{a, b})
			if !ok || !slices.Equal(votes, []int{row[b], table[b][a]}) || sumOf(votes) != weightOfAll(list) {
				t.Errorf("%d candidates, %v: %d and %d: %v, %v; %v", n, list, a, b, votes, ok, table)
			}
		}
	}
	winner, eliminated, _ := impl.RunoffWinner(n, list)
	out := append(slices.Clone(eliminated), winner)
	slices.Sort(out)
	if !ascendStrictly(out) || out[0] < 0 || out[len(out)-1] >= n {
		t.Errorf("%d candidates, %v: runoff %d, %v", n, list, winner, eliminated)
	}
}

// checkElection checks what the functions tell of an election of any kind, but for candidates among
// whom votes are counted or who are moved up.
func checkElection(t *testing.T, n int, list []impl.Ranking) {
	t.Helper()
	fine := isElection(n, list)
	if got := impl.IsElection(n, list); got != fine {
		t.Errorf("%d candidates, %.200s: an election: %v; want %v", n, fmt.Sprint(list), got, fine)
	}
	want := countedBy(n, list)
	if got := toldBy(t, n, list); !sameCounted(got, want) {
		t.Errorf("%d candidates, %.200s: %v; want %v", n, fmt.Sprint(list), got, want)
	}
	if fine {
		checkCondorcet(t, n, list)
		checkVotesAgree(t, n, list)
	}
}

// checkWhole checks all functions in an election of any kind.
func checkWhole(t *testing.T, n int, list []impl.Ranking) {
	t.Helper()
	checkElection(t, n, list)
	checkMovesUp(t, n, list)
	eachSubset(-1, min(max(n, 0), 6), func(among []int) { checkFirstVotes(t, n, list, among) })
}

// checkNoElection checks that this is no election and that all functions fail.
func checkNoElection(t *testing.T, name string, n int, list []impl.Ranking) {
	t.Helper()
	if isElection(n, list) {
		t.Errorf("wrong test: %s", name)
	}
	if impl.IsElection(n, list) {
		t.Errorf("%s: %d candidates, %.200s", name, n, fmt.Sprint(list))
	}
	checkWhole(t, n, list)
	if got, ok := impl.FirstVotes(n, list, []int{0}); ok || len(got) != 0 {
		t.Errorf("%s: first votes %v, %v", name, got, ok)
	}
	if got, ok := impl.MoveUp(n, list, 0, 1); ok || len(got) != 0 {
		t.Errorf("%s: moved up %v, %v", name, got, ok)
	}
}

// aheadOf returns two Rankings of n candidates by which one of them beats some others, and in which
// all other sums are equal.
func aheadOf(n int, candidate int, beaten []int) []impl.Ranking {
	rest := slices.DeleteFunc(membersFrom(0, n), func(other int) bool {
		return other == candidate || slices.Contains(beaten, other)
	})
	first, second := slices.Concat([]int{candidate}, beaten, rest), slices.Concat(beaten, []int{candidate}, rest)
	slices.Reverse(second)
	return []impl.Ranking{withWeight(1, first...), withWeight(1, second...)}
}

// contest returns Rankings with which each candidate beats those in its list, and no other one. Not
// more than four of them may beat anybody.
func contest(beaten ...[]int) []impl.Ranking {
	n := len(beaten)
	list := []impl.Ranking{}
	for candidate, others := range beaten {
		if len(others) > 0 {
			list = append(list, aheadOf(n, candidate, others)...)
		}
	}
	if len(list) == 0 {
		return aheadOf(n, 0, nil)
	}
	return list
}

func TestConstantsOfElections(t *testing.T) {
	if impl.MaxCandidates != 5 || impl.MaxRankings != 9 {
		t.Error(impl.MaxCandidates, impl.MaxRankings)
	}
}

func TestNumbersOfCandidates(t *testing.T) {
	for n := range 8 {
		up, down := membersFrom(0, n), membersFrom(0, n)
		slices.Reverse(down)
		for _, list := range [][]impl.Ranking{{withWeight(3, up...)}, {withWeight(2, up...), withWeight(1, down...)}, {withWeight(1, down...), withWeight(1, up...)}} {
			if got := impl.IsElection(n, list); got != (n >= 1 && n <= 5) {
				t.Errorf("%d candidates: an election: %v", n, got)
			}
			checkWhole(t, n, list)
			for _, other := range append(votersBeyond(n), n-3, n-2, n+2, n+3, 0, 6) {
				if other != n {
					checkNoElection(t, "another number of candidates", other, list)
				}
			}
		}
	}
	checkNoElection(t, "no candidate", 0, []impl.Ranking{{Weight: 1}})
	checkNoElection(t, "no candidate, but an empty Order", 0, []impl.Ranking{{Order: []int{}, Weight: 1}})
	checkNoElection(t, "a negative number of candidates", -1, []impl.Ranking{{Weight: 1}})
	checkNoElection(t, "very many candidates", 100000, []impl.Ranking{withWeight(1, membersFrom(0, 100000)...)})
}

func TestOnlyCandidate(t *testing.T) {
	for rankings := 1; rankings <= 9; rankings++ {
		list := slices.Repeat(rankingsOf("0*7"), rankings)
		checkWhole(t, 1, list)
		want := counted{
			plurality: []int{0}, borda: []int{0}, dominant: []int{0}, copeland: []int{0}, table: [][]int{{0}}, hasCondorcet: true,
		}
		if got := toldBy(t, 1, list); !sameCounted(got, want) {
			t.Errorf("the only candidate in %d Rankings: %v", rankings, got)
		}
		if votes, ok := impl.FirstVotes(1, list, []int{0}); !ok || !slices.Equal(votes, []int{7 * rankings}) {
			t.Errorf("the only candidate in %d Rankings: %v, %v", rankings, votes, ok)
		}
	}
}

func TestNumbersOfRankings(t *testing.T) {
	for n := 1; n <= 5; n++ {
		orders := ordersOf(n)
		for rankings := range 13 {
			list := []impl.Ranking{}
			for i := range rankings {
				list = append(list, withWeight(i+1, orders[i*7%len(orders)]...))
			}
			if got := impl.IsElection(n, list); got != (rankings >= 1 && rankings <= 9) {
				t.Errorf("%d Rankings: an election: %v", rankings, got)
			}
			checkWhole(t, n, list)
		}
		checkNoElection(t, "no Ranking", n, nil)
		checkNoElection(t, "no Ranking in a list", n, []impl.Ranking{})
		checkNoElection(t, "one Ranking too many", n, slices.Repeat([]impl.Ranking{withWeight(1, orders[0]...)}, 10))
		checkNoElection(t, "very many Rankings", n, slices.Repeat([]impl.Ranking{withWeight(1, orders[0]...)}, 100000))
	}
}

func TestWeightsOfRankings(t *testing.T) {
	weights := []int{math.MinInt, math.MinInt + 1, -100, 1000, math.MaxInt - 1, math.MaxInt}
	for weight := -3; weight <= 103; weight++ {
		weights = append(weights, weight)
	}
	for _, weight := range weights {
		for place := range 3 {
			list := rankingsOf("012*50 120*40 201*30")
			list[place].Weight = weight
			if got := impl.IsElection(3, list); got != (weight >= 1 && weight <= 100) {
				t.Errorf("the Weight %d is valid: %v", weight, got)
			}
			checkWhole(t, 3, list)
			if weight <= 0 || weight >= 101 {
				checkNoElection(t, "a Weight", 3, list)
			}
		}
	}
	for _, weight := range []int{1, 100} {
		list := slices.Repeat([]impl.Ranking{withWeight(weight, 3, 1, 4, 0, 2)}, 9)
		checkWhole(t, 5, list)
		if scores, ok := impl.BordaScores(5, list); !ok || !slices.Equal(scores, []int{9 * weight, 27 * weight, 0, 36 * weight, 18 * weight}) {
			t.Errorf("scores of equal Rankings with the Weight %d: %v, %v", weight, scores, ok)
		}
	}
}

func TestInvalidOrders(t *testing.T) {
	for name, order := range map[string][]int{
		"none":                                    nil,
		"too short":                               {0, 1},
		"too short, without the first one":        {1, 2},
		"too long":                                {0, 1, 2, 3},
		"too long, the first one twice":           {0, 1, 2, 0},
		"a candidate twice":                       {0, 1, 1},
		"the first one twice":                     {0, 0, 2},
		"a candidate twice, apart":                {2, 1, 2},
		"one candidate three times":               {0, 0, 0},
		"a candidate that does not occur":         {0, 1, 3},
		"one that does not occur in front":        {3, 1, 2},
		"one below":                               {0, -1, 2},
		"a candidate twice, and one that is none": {1, 1, 3},
		"counted from 1":                          {1, 2, 3},
	} {
		for place := range 3 {
			list := rankingsOf("012 120 201")
			list[place].Order = order
			checkNoElection(t, name, 3, list)
		}
		checkNoElection(t, name, 3, []impl.Ranking{withWeight(1, order...)})
	}
	for n := 1; n <= 5; n++ {
		for _, beyond := range candidatesBeyond(n) {
			for place := range n {
				order := membersFrom(0, n)
				order[place] = beyond
				checkNoElection(t, "a candidate that does not occur", n, []impl.Ranking{withWeight(1, order...)})
				order = slices.Insert(membersFrom(0, n), place, beyond)
				checkNoElection(t, "one candidate more", n, []impl.Ranking{withWeight(1, order...)})
			}
		}
	}
	checkNoElection(t, "Orders of another number", 2, rankingsOf("01 012"))
	checkNoElection(t, "a very long Order", 5, []impl.Ranking{withWeight(1, make([]int, 100000)...)})
}

func TestEveryOrder(t *testing.T) {
	valid := 0
	for size := range 5 {
		eachTuple(size, -1, 4, func(order []int) {
			for n := 1; n <= 4; n++ {
				list := []impl.Ranking{withWeight(2, order...)}
				checkElection(t, n, list)
				checkElection(t, n, append(list, withWeight(1, membersFrom(0, n)...)))
				checkElection(t, n, []impl.Ranking{withWeight(1, membersFrom(0, n)...), list[0]})
				if isElection(n, list) {
					valid++
				}
			}
		})
	}
	if valid != 1+2+6+24 {
		t.Error("wrong test:", valid)
	}
}

func TestFirstVotes(t *testing.T) {
	list := rankingsOf("0312*5 1320*7 3012*2 0132*4") // 2 and 4 never stand first
	for i := range list {
		list[i].Order = append(list[i].Order, 4)
	}
	for _, x := range []struct {
		name  string
		among []int
		want  []int
	}{
		{"all", []int{0, 1, 2, 3, 4}, []int{9, 7, 0, 2, 0}},
		{"all but one that stands first", []int{0, 1, 2, 4}, []int{11, 7, 0, 0}},
		{"all but one that never stands first", []int{0, 1, 2, 3}, []int{9, 7, 0, 2}},
		{"one that stands first", []int{0}, []int{18}},
		{"one that never stands first", []int{2}, []int{18}},
		{"the last one alone", []int{4}, []int{18}},
		{"two that never stand first", []int{2, 4}, []int{18, 0}},
		{"one that never stands first and another one", []int{2, 3}, []int{0, 18}},
		{"two", []int{0, 1}, []int{11, 7}},
		{"two others", []int{1, 3}, []int{11, 7}},
		{"three", []int{1, 2, 3}, []int{11, 0, 7}},
		{"none", nil, nil},
		{"none in a list", []int{}, nil},
		{"descending", []int{1, 0}, nil},
		{"descending at the end", []int{0, 3, 1}, nil},
		{"the first one is the greatest", []int{3, 0, 1}, nil},
		{"one twice", []int{1, 1}, nil},
		{"one twice behind another one", []int{0, 1, 1}, nil},
		{"one twice, apart", []int{0, 1, 0}, nil},
		{"one below", []int{-1, 0}, nil},
		{"one below alone", []int{-1}, nil},
		{"one beyond", []int{0, 5}, nil},
		{"one beyond alone", []int{5}, nil},
		{"all and one more", []int{0, 1, 2, 3, 4, 5}, nil},
		{"all twice", []int{0, 1, 2, 3, 4, 0, 1, 2, 3, 4}, nil},
	} {
		if got, ok := impl.FirstVotes(5, list, x.among); !slices.Equal(got, x.want) || ok != (x.want != nil) {
			t.Errorf("%s: %v, %v", x.name, got, ok)
		}
		checkFirstVotes(t, 5, list, x.among)
	}
	for _, beyond := range candidatesBeyond(5) {
		for _, among := range [][]int{{beyond}, {0, beyond}, {beyond, 0}, {0, 1, 2, 3, beyond}, {beyond, 1, 2, 3, 4}, {beyond, beyond}} {
			if got, ok := impl.FirstVotes(5, list, among); ok || len(got) != 0 {
				t.Errorf("among %v: %v, %v", among, got, ok)
			}
			checkFirstVotes(t, 5, list, among)
		}
	}
	checkFirstVotes(t, 5, list, make([]int, 100000))
	checkFirstVotes(t, 5, list, membersFrom(0, 100000))
}

func TestEveryListAmongWhichVotesAreCounted(t *testing.T) {
	for n, s := range map[int]string{1: "0", 2: "01*3 10*2", 3: "012*3 201*4 102*2 021*1", 4: "3120*9 0123*4 2103*7 1302*5"} {
		for size := range 5 {
			eachTuple(size, -1, n, func(among []int) { checkFirstVotes(t, n, rankingsOf(s), among) })
		}
	}
}

func TestPluralityWinners(t *testing.T) {
	for _, x := range []struct {
		name string
		n    int
		list string
		want []int
	}{
		{"the only Ranking", 3, "201", []int{2}},
		{"one, by its Weight", 3, "012*4 120*3 210*2", []int{0}},
		{"one, by several Rankings", 3, "012*4 120*3 102*2", []int{1}},
		{"the last one", 3, "201*4 120*3 012*3", []int{2}},
		{"one, who is beaten by all", 3, "012*4 120*3 210*3", []int{0}},
		{"two", 3, "012*4 120*4 210*2", []int{0, 1}},
		{"two that are apart", 3, "210*4 012*4 120*2", []int{0, 2}},
		{"the last two", 3, "210*4 102*4", []int{1, 2}},
		{"three of five", 5, "43210*2 10234*2 34012*2 43021*1 02341*1 13240*1 30124*1", []int{1, 3, 4}},
		{"equally many of all", 3, "012*5 120*5 201*5", []int{0, 1, 2}},
		{"equally many of all five", 5, "01234 12340 23401 34012 40123", []int{0, 1, 2, 3, 4}},
		{"none but of one", 4, "3012 3120 3201", []int{3}},
		{"the only candidate", 1, "0*9 0*1", []int{0}},
	} {
		if got, ok := impl.PluralityWinners(x.n, rankingsOf(x.list)); !ok || !slices.Equal(got, x.want) {
			t.Errorf("%s: %v, %v", x.name, got, ok)
		}
		checkWhole(t, x.n, rankingsOf(x.list))
	}
}

func TestRunoffWinner(t *testing.T) {
	for _, x := range []struct {
		name       string
		n          int
		list       string
		winner     int
		eliminated []int
	}{
		{"the only candidate", 1, "0", 0, nil},
		{"the only Ranking", 5, "31204", 3, nil},
		{"won at once", 3, "012*3 120*1 201*1", 0, nil},
		{"won at once by the least majority", 3, "201*51 120*50", 2, nil},
		{"won at once by several Rankings", 3, "012*2 120*3 021*2", 0, nil},
		{"half between two", 2, "01*2 10*2", 0, []int{1}},
		{"half at first, and a winner", 3, "012*4 120*2 210*2", 0, []int{2, 1}},
		{"half at first, but not the winner", 3, "210*3 102*2 012*1", 1, []int{0, 2}},
		{"half at first, then more", 3, "012*4 102*3 201*1", 0, []int{2}},
		{"most at first, but not the winner", 3, "012*4 120*3 210*2", 1, []int{2}},
		{"the last two have equally many", 3, "120*3 210*2 021*1", 1, []int{0, 2}},
		{"the last two have equally many, from the start", 4, "2301*5 3210*5", 2, []int{1, 0, 3}},
		{"a cycle", 3, "012 120 201", 0, []int{2}},
		{"all have equally many", 5, "01234 12340 23401 34012 40123", 0, []int{4, 3}},
		{"several of the fewest", 4, "0123*4 1023*3 2103*1 3102*1", 1, []int{3, 2}},
		{"some without any first votes", 5, "01234 10234", 0, []int{4, 3, 2, 1}},
		{"the one without any first votes beats all others", 4, "0312 1302 2301", 0, []int{3, 2}},
		{"votes pass to the next candidate", 3, "012*4 120*3 201*2", 0, []int{2}},
		{"votes pass to one behind others", 4, "3210*2 2310*3 1320*4 0123*5", 2, []int{3, 1}},
		{"votes pass to one behind three others", 5, "43210*1 32140*2 21034*4 14320*7 04321*8", 1, []int{4, 3, 2}},
		{"votes pass twice", 4, "3201*2 2310*3 1032*6 0132*5", 1, []int{3, 2}},
		{"the last candidate wins", 3, "210*2 021*3 201*2", 2, nil},
		{"the last candidate wins in the end", 3, "210*4 021*3 120*2", 2, []int{1}},
	} {
		list := rankingsOf(x.list)
		if winner, eliminated, ok := impl.RunoffWinner(x.n, list); !ok || winner != x.winner || !slices.Equal(eliminated, x.eliminated) {
			t.Errorf("%s: %d, %v, %v", x.name, winner, eliminated, ok)
		}
		checkWhole(t, x.n, list)
	}
}

func TestPairTable(t *testing.T) {
	for _, x := range []struct {
		name string
		n    int
		list string
		want [][]int
	}{
		{"one candidate", 1, "0*9", [][]int{{0}}},
		{"two candidates", 2, "01*9 10*7 01*1", [][]int{{0, 10}, {7, 0}}},
		{"equal sums", 2, "01*9 10*7 10*2", [][]int{{0, 9}, {9, 0}}},
		{"one Ranking", 3, "201*5", [][]int{{0, 5, 0}, {0, 0, 0}, {5, 5, 0}}},
		{"three candidates", 3, "012*4 120*3 210*2", [][]int{{0, 4, 4}, {5, 0, 7}, {5, 2, 0}}},
		{"equal sums of all", 3, "012*4 210*4", [][]int{{0, 4, 4}, {4, 0, 4}, {4, 4, 0}}},
		{"equal sums of some", 3, "012*4 201*4", [][]int{{0, 8, 4}, {0, 0, 4}, {4, 4, 0}}},
		{
			"five candidates", 5, "01234*1 12340*2 23401*4 34012*8 40123*16",
			[][]int{{0, 29, 25, 17, 1}, {2, 0, 27, 19, 3}, {6, 4, 0, 23, 7}, {14, 12, 8, 0, 15}, {30, 28, 24, 16, 0}},
		},
	} {
		if got, ok := impl.PairTable(x.n, rankingsOf(x.list)); !ok || !slices.EqualFunc(got, x.want, slices.Equal) {
			t.Errorf("%s: %v, %v", x.name, got, ok)
		}
		checkWhole(t, x.n, rankingsOf(x.list))
	}
}

func TestBordaScores(t *testing.T) {
	for _, x := range []struct {
		name string
		n    int
		list string
		want []int
	}{
		{"one candidate", 1, "0*9 0*1", []int{0}},
		{"two candidates", 2, "01*9 10*7", []int{9, 7}},
		{"three candidates", 3, "012*4 120*3 210*2", []int{8, 12, 7}},
		{"one Ranking", 5, "41302*3", []int{3, 9, 0, 6, 12}},
		{"equal scores", 3, "012 120 201", []int{3, 3, 3}},
		{"the greatest score", 5, strings.Repeat("40123*100 ", 9), []int{2700, 1800, 900, 0, 3600}},
	} {
		if got, ok := impl.BordaScores(x.n, rankingsOf(x.list)); !ok || !slices.Equal(got, x.want) {
			t.Errorf("%s: %v, %v", x.name, got, ok)
		}
		checkWhole(t, x.n, rankingsOf(x.list))
	}
}

func TestWinsOfPairs(t *testing.T) {
	for _, x := range []struct {
		name      string
		list      []impl.Ranking
		condorcet int // -1 if there is none
		dominant  []int
		copeland  []int
	}{
		{"the only candidate", rankingsOf("0*3"), 0, []int{0}, []int{0}},
		{"two candidates", rankingsOf("01*3 10*4"), 1, []int{1}, []int{1}},
		{"equal sums of two", rankingsOf("01*3 10*2 10*1"), -1, []int{0, 1}, []int{0, 1}},
		{"one Ranking", rankingsOf("31204"), 3, []int{3}, []int{3}},
		{"all have all equal sums", rankingsOf("01234*7 43210*7"), -1, []int{0, 1, 2, 3, 4}, []int{0, 1, 2, 3, 4}},
		{"the winner has not the most first votes", rankingsOf("012*4 120*3 210*2"), 1, []int{1}, []int{1}},
		{"the winner has no first vote", rankingsOf("0312 1302 2301"), 3, []int{3}, []int{3}},
		{"the winner has no first vote among five", rankingsOf("04123 14230 24301 34012"), 4, []int{4}, []int{4}},
		{"the winner wins by one vote each", rankingsOf("102*51 012*50"), 1, []int{1}, []int{1}},
		{"no winner because of one pair with equal sums", rankingsOf("012*5 102*5"), -1, []int{0, 1}, []int{0, 1}},
		{"no winner because the last one has equal sums with the first one", contest([]int{1}, []int{2}, nil), -1, []int{0, 1, 2}, []int{0, 1}},
		{"a cycle of three", rankingsOf("012 120 201"), -1, []int{0, 1, 2}, []int{0, 1, 2}},
		{"a cycle of three, the other way", rankingsOf("021*9 102*8 210*7"), -1, []int{0, 1, 2}, []int{0, 1, 2}},
		{"a cycle of four", contest([]int{1}, []int{2}, []int{3}, []int{0}), -1, []int{0, 1, 2, 3}, []int{0, 1, 2, 3}},
		{"a cycle of four without equal sums", contest([]int{1, 2}, []int{2, 3}, []int{3}, []int{0}), -1, []int{0, 1, 2, 3}, []int{0, 1}},
		{"a cycle of all five", rankingsOf("01234 12340 23401 34012 40123"), -1, []int{0, 1, 2, 3, 4}, []int{0, 1, 2, 3, 4}},
		{"a cycle behind a winner", contest([]int{1, 2, 3}, []int{2}, []int{3}, []int{1}), 0, []int{0}, []int{0}},
		{"a cycle behind a winner who is the last one", rankingsOf("3012 3120 3201"), 3, []int{3}, []int{3}},
		{"a cycle of four behind a winner", rankingsOf("20134 21340 23401 24013"), 2, []int{2}, []int{2}},
		{"a cycle behind two with equal sums", rankingsOf("01234 10342 01423 10234 01342 10423"), -1, []int{0, 1}, []int{0, 1}},
		{"a cycle in front", rankingsOf("01234 12043 20134"), -1, []int{0, 1, 2}, []int{0, 1, 2}},
		{"a cycle of the last ones in front", rankingsOf("23401 34210 42301"), -1, []int{2, 3, 4}, []int{2, 3, 4}},
		{"a cycle of four in front", rankingsOf("12340 23410 34120 41230"), -1, []int{1, 2, 3, 4}, []int{1, 2, 3, 4}},
		{"a cycle with equal sums in front", contest([]int{1, 3}, []int{2, 3}, []int{0, 3}, nil), -1, []int{0, 1, 2}, []int{0, 1, 2}},
		{"a cycle of which one does not beat the one behind", contest([]int{1, 3}, []int{2, 3}, []int{0}, nil), -1, []int{0, 1, 2, 3}, []int{0, 1}},
		{"a cycle of which one is beaten by the one behind", contest([]int{1, 3}, []int{2, 3}, []int{0}, []int{2}), -1, []int{0, 1, 2, 3}, []int{0, 1}},
		{"most wins of one who is beaten", contest([]int{1, 2}, []int{3}, []int{3}, []int{0}), -1, []int{0, 1, 2, 3}, []int{0}},
		{"most wins of one who is not beaten, but wins not all", contest([]int{1, 2}, []int{2}, nil, nil), -1, []int{0, 1, 2, 3}, []int{0}},
		{"a chain of equal sums from the first one to the last one", contest([]int{2, 3, 4}, []int{3, 4}, []int{4}, nil, nil), -1, []int{0, 1, 2, 3, 4}, []int{0}},
		{"a chain of equal sums from the last one to the first one", contest(nil, nil, []int{0}, []int{0, 1}, []int{0, 1, 2}), -1, []int{0, 1, 2, 3, 4}, []int{4}},
		{"nobody beats anybody but the last two", contest(nil, nil, nil, nil, []int{3}), -1, []int{0, 1, 2, 3, 4}, []int{4}},
	} {
		n := len(x.list[0].Order)
		winner, found := impl.CondorcetWinner(n, x.list)
		if found != (x.condorcet >= 0) || winner != max(x.condorcet, 0) {
			t.Errorf("%s: winner %d, %v", x.name, winner, found)
		}
		if got, ok := impl.DominantSet(n, x.list); !ok || !slices.Equal(got, x.dominant) {
			t.Errorf("%s: dominant set %v, %v", x.name, got, ok)
		}
		if got, ok := impl.CopelandWinners(n, x.list); !ok || !slices.Equal(got, x.copeland) {
			t.Errorf("%s: most wins of %v, %v", x.name, got, ok)
		}
		checkWhole(t, n, x.list)
	}
}

func TestMoveUp(t *testing.T) {
	list := "01234*5 43210*1 20314*9"
	for _, x := range []struct {
		name             string
		voter, candidate int
		want             string
	}{
		{"to the front", 0, 1, "10234*5 43210*1 20314*9"},
		{"to the front in the last Ranking", 2, 0, "01234*5 43210*1 02314*9"},
		{"in the middle", 0, 2, "02134*5 43210*1 20314*9"},
		{"in the middle of another Ranking", 1, 2, "01234*5 42310*1 20314*9"},
		{"behind the middle", 2, 1, "01234*5 43210*1 20134*9"},
		{"from the end", 0, 4, "01243*5 43210*1 20314*9"},
		{"from the end of another Ranking", 1, 0, "01234*5 43201*1 20314*9"},
		{"the first one", 0, 0, ""},
		{"the first one of another Ranking", 1, 4, ""},
		{"the first one of the last Ranking", 2, 2, ""},
		{"in a Ranking below", -1, 1, ""},
		{"in a Ranking beyond", 3, 1, ""},
		{"a candidate below", 0, -1, ""},
		{"a candidate beyond", 0, 5, ""},
		{"neither occurs", 3, 5, ""},
	} {
		got, ok := impl.MoveUp(5, rankingsOf(list), x.voter, x.candidate)
		if ok != (x.want != "") || !sameRankings(got, rankingsOf(x.want)) {
			t.Errorf("%s: %v, %v", x.name, got, ok)
		}
	}
	for _, beyond := range []int{math.MinInt, -10, -2, -1, 3, 4, 9, math.MaxInt} {
		checkMoveUp(t, 5, rankingsOf(list), beyond, 2)
		checkMoveUp(t, 5, rankingsOf(list), beyond, beyond)
	}
	for _, beyond := range candidatesBeyond(5) {
		for voter := range 3 {
			checkMoveUp(t, 5, rankingsOf(list), voter, beyond)
		}
	}
	checkMoveUp(t, 1, rankingsOf("0 0"), 1, 0)
}

func TestMovesUp(t *testing.T) {
	for start := range 300 {
		next := drawsFrom(start)
		list := drawnElection(2+start%4, next)
		n := len(list[0].Order)
		for voter := range list {
			candidate := list[voter].Order[1+next(n-1)]
			up, ok := impl.MoveUp(n, list, voter, candidate)
			at := slices.Index(list[voter].Order, candidate)
			other := list[voter].Order[at-1]
			// The other one is moved up in turn, which leads back.
			back, fine := impl.MoveUp(n, up, voter, other)
			if !ok || !fine || !sameRankings(back, list) {
				t.Errorf("%v: %d moved up in %d: %v, %v and back %v, %v", list, candidate, voter, up, ok, back, fine)
			}
			before, _ := impl.PairTable(n, list)
			before[candidate][other] += list[voter].Weight
			before[other][candidate] -= list[voter].Weight
			if after, ok := impl.PairTable(n, up); !ok || !slices.EqualFunc(after, before, slices.Equal) {
				t.Errorf("%v: %d moved up in %d: sums %v, %v; want %v", list, candidate, voter, after, ok, before)
			}
			// A Condorcet winner who is moved up remains one.
			winner, found := impl.CondorcetWinner(n, list)
			if still, is := impl.CondorcetWinner(n, up); found && winner == candidate && (!is || still != winner) {
				t.Errorf("%v: the winner %d moved up in %d: %d, %v", list, winner, voter, still, is)
			}
			checkElection(t, n, up)
		}
	}
}

// eachElection calls visit with every list of up to most Rankings of n candidates with some Weights.
func eachElection(n int, most int, weights []int, visit func([]impl.Ranking)) {
	rankings := []impl.Ranking{}
	for _, order := range ordersOf(n) {
		for _, weight := range weights {
			rankings = append(rankings, withWeight(weight, order...))
		}
	}
	for size := range most + 1 {
		eachTuple(size, 0, len(rankings)-1, func(places []int) {
			list := []impl.Ranking{}
			for _, place := range places {
				list = append(list, rankings[place])
			}
			visit(list)
		})
	}
}

func TestEveryElectionOfUpToThreeCandidates(t *testing.T) {
	for n := 1; n <= 3; n++ {
		eachElection(n, 3, []int{1, 2, 4}, func(list []impl.Ranking) { checkElection(t, n, list) })
		eachElection(n, 2, []int{1, 2}, func(list []impl.Ranking) { checkWhole(t, n, list) })
	}
}

func TestEveryElectionOfFourCandidates(t *testing.T) {
	won := [5]int{}
	eachElection(4, 3, []int{1}, func(list []impl.Ranking) {
		checkElection(t, 4, list)
		dominant, _ := impl.DominantSet(4, list)
		won[len(dominant)]++
	})
	eachElection(4, 2, []int{1, 2}, func(list []impl.Ranking) { checkElection(t, 4, list) })
	// Only without a Ranking nothing is counted.
	if won[0] != 1 || slices.Min(won[1:]) == 0 {
		t.Error("wrong test:", won)
	}
}

func TestEveryTwoOrdersOfFiveCandidates(t *testing.T) {
	orders := ordersOf(5)
	for i, order := range orders {
		for j, other := range orders {
			// The Weights are equal in every other election.
			checkElection(t, 5, []impl.Ranking{withWeight(1+i%2, order...), withWeight(1+j%2, other...)})
		}
	}
}

// checkBeaten checks an election of which is known whom each candidate beats.
func checkBeaten(t *testing.T, list []impl.Ranking, beaten [][]int) {
	t.Helper()
	n := len(beaten)
	if !isElection(n, list) || !slices.EqualFunc(beatenBy(n, list), beaten, slices.Equal) {
		t.Fatalf("wrong test: %v does not beat as %v", list, beaten)
	}
	checkElection(t, n, list)
	if got, ok := impl.DominantSet(n, list); !ok || !slices.Equal(got, dominantOf(beaten)) {
		t.Errorf("dominant set of %v: %v, %v", beaten, got, ok)
	}
}

func TestAllWaysToBeatAmongFour(t *testing.T) {
	ways := 0
	// Of each of the six pairs the first one beats, the second one beats or neither.
	eachTuple(6, 0, 2, func(wins []int) {
		beaten, pair := make([][]int, 4), 0
		for a := range 4 {
			for b := range a {
				switch wins[pair] {
				case 1:
					beaten[a] = append(beaten[a], b)
				case 2:
					beaten[b] = append(beaten[b], a)
				}
				pair++
			}
		}
		checkBeaten(t, contest(beaten...), beaten)
		ways++
	})
	if ways != 729 {
		t.Error("wrong test:", ways)
	}
}

// upset returns Rankings of five candidates in which, of each pair for which upsets has a bit, the
// one with the greater number wins against the one with the smaller number, who beats it otherwise;
// and whom each beats. With the weight 2 the sums of the former pairs are equal instead.
func upset(upsets int, weight int) ([]impl.Ranking, [][]int) {
	list, beaten, pair := []impl.Ranking{withWeight(weight, 0, 1, 2, 3, 4)}, make([][]int, 5), 0
	for a := range 5 {
		ahead := []int{}
		for b := range a {
			if upsets>>pair%2 == 1 {
				ahead = append(ahead, b)
			} else {
				beaten[b] = append(beaten[b], a)
			}
			pair++
		}
		if len(ahead) > 0 {
			list = append(list, aheadOf(5, a, ahead)...)
		}
		if weight == 1 {
			beaten[a] = append(beaten[a], ahead...)
		}
	}
	return list, beaten
}

func TestAllWaysToBeatAmongFive(t *testing.T) {
	sizes := [6]int{}
	for upsets := range 1024 {
		for weight := 1; weight <= 2; weight++ {
			list, beaten := upset(upsets, weight)
			checkBeaten(t, list, beaten)
			if weight == 1 {
				sizes[len(dominantOf(beaten))]++
			}
		}
	}
	// There are 1, 2, 24 and 544 ways in which one, three, four and five candidates stand in a cycle.
	if want := [6]int{0, 5 * 64, 0, 10 * 2 * 2, 5 * 24, 544}; sizes != want {
		t.Error("wrong test:", sizes)
	}
}

// drawnElection returns Rankings of n candidates, often with several that have the same Order or the
// same sum.
func drawnElection(n int, next func(int) int) []impl.Ranking {
	list, most := []impl.Ranking{}, []int{1, 2, 100}[next(3)]
	for range 1 + next(9) {
		order := membersFrom(0, n)
		for i := range order {
			j := i + next(n-i)
			order[i], order[j] = order[j], order[i]
		}
		list = append(list, withWeight(1+next(most), order...))
	}
	return list
}

func TestManyElections(t *testing.T) {
	sizes, ways := [6]int{}, map[string]bool{}
	for start := range 6000 {
		n := 5 - start%4%3
		list := drawnElection(n, drawsFrom(start))
		checkElection(t, n, list)
		if start%20 == 0 {
			checkWhole(t, n, list)
		}
		if n == 5 {
			beaten := beatenBy(n, list)
			sizes[len(dominantOf(beaten))]++
			ways[fmt.Sprint(beaten)] = true
		}
	}
	if slices.Min(sizes[1:]) < 10 || len(ways) < 1000 {
		t.Error("wrong test:", sizes, len(ways))
	}
}

func TestCondorcetWinnerIsTheOnlyMemberOfTheDominantSet(t *testing.T) {
	won, none := 0, 0
	for start := range 40000 {
		n := 1 + start%5
		list := drawnElection(n, drawsFrom(start))
		checkCondorcet(t, n, list)
		winner, found := impl.CondorcetWinner(n, list)
		if !found {
			none++
			continue
		}
		won++
		for other := range n {
			// Between these two alone, the winner has more than half of the first votes.
			pair := []int{min(winner, other), max(winner, other)}
			if votes, ok := impl.FirstVotes(n, list, pair); other != winner && (!ok || 2*votes[slices.Index(pair, winner)] <= sumOf(votes)) {
				t.Errorf("%v: the winner %d and %d have %v, %v", list, winner, other, votes, ok)
			}
		}
	}
	if won < 5000 || none < 5000 {
		t.Error("wrong test:", won, none)
	}
}

// roomyElection returns Rankings in lists with room, and with something in that room.
func roomyElection() []impl.Ranking {
	list := rankingsOf("0123*4 1230*3 2013*2 3102*5 44 1*900")
	for i := range list {
		list[i].Order = append(list[i].Order, 7, -1, 0)[:len(list[i].Order)]
	}
	return list[:4]
}

func TestNothingBeyondTheLengthInElections(t *testing.T) {
	for rankings := range 7 {
		for place := range 4 {
			for size := range 7 {
				list := roomyElection()[:rankings]
				if place < rankings {
					list[place].Order = list[place].Order[:size]
				}
				checkWhole(t, 4, list)
			}
		}
	}
	among := []int{0, 1, 3, 3, -1, 9}
	for size := range among {
		checkFirstVotes(t, 4, roomyElection(), among[:size])
	}
}

// resultsOfElections calls all functions of elections, and returns the lists and the Rankings that
// they return.
func resultsOfElections(n int, list []impl.Ranking, among []int) ([][]int, [][]impl.Ranking) {
	impl.IsElection(n, list)
	impl.CondorcetWinner(n, list)
	votes, _ := impl.FirstVotes(n, list, among)
	plurality, _ := impl.PluralityWinners(n, list)
	_, eliminated, _ := impl.RunoffWinner(n, list)
	table, _ := impl.PairTable(n, list)
	scores, _ := impl.BordaScores(n, list)
	dominant, _ := impl.DominantSet(n, list)
	copeland, _ := impl.CopelandWinners(n, list)
	moved := [][]impl.Ranking{}
	for voter := range list {
		for candidate := range n {
			up, _ := impl.MoveUp(n, list, voter, candidate)
			moved = append(moved, up)
		}
	}
	return append(table, votes, plurality, eliminated, scores, dominant, copeland), moved
}

func TestElectionFunctionsShareNothing(t *testing.T) {
	list, among := roomyElection(), []int{0, 2, 3, 9, 9}[:3]
	orders := [][]int{}
	for _, r := range list[:cap(list)] {
		orders = append(orders, r.Order[:cap(r.Order)])
	}
	keptRankings, keptOrders := copiedRankings(list[:cap(list)]), [][]int{}
	for _, order := range orders {
		keptOrders = append(keptOrders, slices.Clone(order))
	}
	checkArguments := func(what string) {
		if !sameRankings(list[:cap(list)], keptRankings) || !slices.EqualFunc(orders, keptOrders, slices.Equal) {
			t.Errorf("%s: %v, %v", what, list[:cap(list)], orders)
		}
		if !slices.Equal(among[:5], []int{0, 2, 3, 9, 9}) {
			t.Errorf("%s: %v", what, among[:5])
		}
	}
	lists, moved := resultsOfElections(4, list, among)
	wantLists, wantMoved := resultsOfElections(4, list, among)
	checkArguments("changed")
	for i, result := range lists {
		if !slices.EqualFunc(lists[i:], wantLists[i:], slices.Equal) || !slices.EqualFunc(moved, wantMoved, sameRankings) {
			t.Errorf("shared with another result: %v, %v", lists, moved)
		}
		overwriteNumbers(result)
	}
	for i, result := range moved {
		for j := range result {
			// What was written over so far shows in nothing behind it.
			if !sameRankings(result[j:], wantMoved[i][j:]) || !slices.EqualFunc(moved[i+1:], wantMoved[i+1:], sameRankings) {
				t.Errorf("shared with another result: %v", moved)
			}
			overwriteNumbers(result[j].Order)
		}
		for j := range result[:cap(result)] {
			result[:cap(result)][j] = withWeight(-7, -7)
		}
	}
	checkArguments("shared with a result")
	againLists, againMoved := resultsOfElections(4, list, among)
	if !slices.EqualFunc(againLists, wantLists, slices.Equal) || !slices.EqualFunc(againMoved, wantMoved, sameRankings) {
		t.Errorf("not repeated: %v, %v; want %v, %v", againLists, againMoved, wantLists, wantMoved)
	}
}
