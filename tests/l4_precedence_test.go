package tests

import (
	"fmt"
	"math"
	"slices"
	"testing"

	"loop.example/g00909/impl"
)

// precedenceOf returns the Precedence with pairs, which are in order already.
func precedenceOf(kinds int, pairs ...[2]int) impl.Precedence {
	return impl.Precedence{Kinds: kinds, Over: pairs}
}

// sevenPairs returns a sound Precedence of all kinds: two ways of different length lead to the
// kind 3, so that one pair follows from others, and 4 has nothing to do with the others.
func sevenPairs() impl.Precedence {
	return precedenceOf(8, [2]int{0, 1}, [2]int{0, 3}, [2]int{1, 2}, [2]int{2, 3}, [2]int{2, 6}, [2]int{7, 5}, [2]int{7, 6})
}

// twoCycles returns a Precedence with cycles of two and of three kinds, where 0 leads into both
// of them and the last kinds follow them.
func twoCycles() impl.Precedence {
	return precedenceOf(8, [2]int{0, 1}, [2]int{0, 5}, [2]int{1, 2}, [2]int{2, 3}, [2]int{3, 1}, [2]int{4, 5}, [2]int{5, 4}, [2]int{5, 6}, [2]int{6, 7})
}

// ringOf returns the Precedence in which each kind yields to the next one and the last one to 0.
func ringOf(kinds int) impl.Precedence {
	p := precedenceOf(kinds)
	for kind := range kinds {
		p.Over = append(p.Over, [2]int{kind, (kind + 1) % kinds})
	}
	return p
}

// chainOf returns the Precedence in which each kind yields to the next one.
func chainOf(kinds int) impl.Precedence {
	p := ringOf(kinds)
	p.Over = p.Over[:kinds-1]
	return p
}

// allPairs returns all pairs of different kinds, in order.
func allPairs(kinds int) [][2]int {
	pairs := [][2]int{}
	for low := range kinds {
		for high := range kinds {
			if low != high {
				pairs = append(pairs, [2]int{low, high})
			}
		}
	}
	return pairs
}

// noKinds returns numbers that are no kind of p.
func noKinds(p impl.Precedence) []int {
	return []int{-1, p.Kinds, p.Kinds + 1, -8, 8, 64, 1 << 32, -1 << 32, math.MinInt, math.MaxInt}
}

// invalidPrecedences returns Precedences that are not valid, by what is wrong with them.
func invalidPrecedences() map[string]impl.Precedence {
	invalid := map[string]impl.Precedence{
		"a zero Precedence":           {},
		"no kinds, with a pair":       precedenceOf(0, [2]int{0, 1}),
		"one above MaxKinds":          precedenceOf(9),
		"one above MaxKinds, a pair":  precedenceOf(9, [2]int{0, 8}),
		"one above MaxKinds, a ring":  ringOf(9),
		"-1 kinds":                    precedenceOf(-1),
		"the least Kinds":             precedenceOf(math.MinInt),
		"the greatest Kinds":          precedenceOf(math.MaxInt, [2]int{0, 1}),
		"Kinds beyond 32 bits":        precedenceOf(1<<32+4, [2]int{0, 1}),
		"one above MaxPairs":          {Kinds: 8, Over: allPairs(8)[:17]},
		"one above MaxPairs, sound":   {Kinds: 8, Over: soundPairs(8)[:17]},
		"far above MaxPairs":          {Kinds: 8, Over: make([][2]int, 100000)},
		"all pairs":                   {Kinds: 8, Over: allPairs(8)},
		"the only kind with itself":   precedenceOf(1, [2]int{0, 0}),
		"the last kind with itself":   precedenceOf(4, [2]int{3, 3}),
		"a kind with itself, first":   precedenceOf(4, [2]int{0, 0}, [2]int{0, 1}),
		"a kind with itself, amid":    precedenceOf(4, [2]int{0, 1}, [2]int{1, 1}, [2]int{1, 2}),
		"one pair twice":              precedenceOf(4, [2]int{0, 1}, [2]int{0, 1}),
		"one pair twice, amid":        precedenceOf(4, [2]int{0, 1}, [2]int{1, 2}, [2]int{1, 2}, [2]int{2, 3}),
		"one pair twice, far apart":   precedenceOf(4, [2]int{0, 1}, [2]int{1, 2}, [2]int{0, 1}),
		"first kinds out of order":    precedenceOf(4, [2]int{1, 2}, [2]int{0, 1}),
		"first kinds, second ones up": precedenceOf(4, [2]int{1, 2}, [2]int{0, 3}),
		"second kinds out of order":   precedenceOf(4, [2]int{0, 2}, [2]int{0, 1}),
		"the last pair out of order":  precedenceOf(4, [2]int{0, 1}, [2]int{1, 2}, [2]int{2, 3}, [2]int{2, 1}),
		"the last pair belongs first": precedenceOf(4, [2]int{0, 2}, [2]int{1, 2}, [2]int{2, 3}, [2]int{0, 1}),
	}
	for _, kind := range noKinds(precedenceOf(4)) {
		for at, p := range []impl.Precedence{
			precedenceOf(4, [2]int{kind, 0}), precedenceOf(4, [2]int{3, kind}), precedenceOf(4, [2]int{kind, kind}),
			precedenceOf(4, [2]int{0, 1}, [2]int{0, kind}, [2]int{1, 2}), precedenceOf(4, [2]int{kind, 1}, [2]int{2, 3}),
			precedenceOf(4, [2]int{0, 1}, [2]int{2, 3}, [2]int{kind, 3}),
		} {
			invalid[fmt.Sprint("the kind ", kind, ", ", at)] = p
		}
	}
	return invalid
}

// soundPairs returns all pairs in which the second kind is the greater one, in order.
func soundPairs(kinds int) [][2]int {
	return slices.DeleteFunc(allPairs(kinds), func(pair [2]int) bool { return pair[0] > pair[1] })
}

// eachPrecedence calls visit with all valid Precedences of 1 to 4 kinds.
func eachPrecedence(visit func(impl.Precedence)) {
	for kinds := 1; kinds <= 4; kinds++ {
		pairs := allPairs(kinds)
		for code := range 1 << len(pairs) {
			p := precedenceOf(kinds)
			for i, pair := range pairs {
				if code>>i&1 == 1 {
					p.Over = append(p.Over, pair)
				}
			}
			visit(p)
		}
	}
}

// eachMixture calls visit with n Precedences of 5 to MaxKinds kinds and 1 to MaxPairs pairs; at
// least half of them have no cycle.
func eachMixture(n int, visit func(impl.Precedence)) {
	seed := uint32(1)
	draw := func(below int) int {
		seed = seed*1664525 + 1013904223
		return int(seed>>16) % below
	}
	for i := range n {
		kinds := 5 + draw(4)
		names := make([]int, kinds)
		for j := range names {
			at := draw(j + 1)
			names[j], names[at] = names[at], j
		}
		pairs := allPairs(kinds)
		if i%2 == 0 {
			pairs = soundPairs(kinds)
		}
		p := precedenceOf(kinds)
		for size := min(1+draw(impl.MaxPairs), len(pairs)); len(p.Over) < size; {
			pair := pairs[draw(len(pairs))]
			pair = [2]int{names[pair[0]], names[pair[1]]}
			if !slices.Contains(p.Over, pair) {
				p.Over = append(p.Over, pair)
			}
		}
		slices.SortFunc(p.Over, func(a, b [2]int) int { return slices.Compare(a[:], b[:]) })
		visit(p)
	}
}

// stepsTo returns, for every kind, the numbers of pairs in a row, up to most, that lead from one
// of the starts to it.
func stepsTo(p impl.Precedence, starts []int, most int) [][]int {
	steps := make([][]int, p.Kinds)
	here := starts
	for step := 1; step <= most; step++ {
		next := []int{}
		for _, pair := range p.Over {
			if slices.Contains(here, pair[0]) && !slices.Contains(next, pair[1]) {
				next = append(next, pair[1])
				steps[pair[1]] = append(steps[pair[1]], step)
			}
		}
		here = next
	}
	return steps
}

// kindsAbove returns the kinds to which a kind yields.
func kindsAbove(p impl.Precedence, kind int) []int {
	above := []int{}
	for other, steps := range stepsTo(p, []int{kind}, p.Kinds) {
		if len(steps) > 0 {
			above = append(above, other)
		}
	}
	return above
}

// hasCycle reports whether a kind of p yields to itself.
func hasCycle(p impl.Precedence) bool {
	for kind := range p.Kinds {
		if slices.Contains(kindsAbove(p, kind), kind) {
			return true
		}
	}
	return false
}

// knownLists keeps what kindLists has returned, by its arguments.
var knownLists = map[[2]int][][]int{}

// kindLists returns all lists of so many different kinds, in lexicographic order.
func kindLists(kinds int, size int) [][]int {
	if size == 0 {
		return [][]int{{}}
	}
	if lists, ok := knownLists[[2]int{kinds, size}]; ok {
		return lists
	}
	lists := [][]int{}
	for _, list := range kindLists(kinds, size-1) {
		for kind := range kinds {
			if !slices.Contains(list, kind) {
				lists = append(lists, append(slices.Clone(list), kind))
			}
		}
	}
	knownLists[[2]int{kinds, size}] = lists
	return lists
}

// cycleOf returns the cycle that ShortestCycle has to return, and nil if there is none.
func cycleOf(p impl.Precedence) []int {
	for size := 2; size <= p.Kinds; size++ {
		for _, list := range kindLists(p.Kinds, size) {
			closed := true
			for i, kind := range list {
				closed = closed && slices.Contains(p.Over, [2]int{kind, list[(i+1)%size]})
			}
			if closed {
				return list
			}
		}
	}
	return nil
}

// orderOf returns the order that OrderKinds has to return, and nil if there is none.
func orderOf(p impl.Precedence) []int {
	for _, order := range kindLists(p.Kinds, p.Kinds) {
		disorder := func(pair [2]int) bool { return slices.Index(order, pair[0]) > slices.Index(order, pair[1]) }
		if !slices.ContainsFunc(p.Over, disorder) {
			return order
		}
	}
	return nil
}

// ranksOf returns the ranks of the kinds of p, which has no cycle.
func ranksOf(p impl.Precedence) []int {
	all := []int{}
	for kind := range p.Kinds {
		all = append(all, kind)
	}
	ranks := make([]int, p.Kinds)
	for kind, steps := range stepsTo(p, all, p.Kinds) {
		if len(steps) > 0 {
			ranks[kind] = slices.Max(steps)
		}
	}
	return ranks
}

// needlessOf returns the pairs of p, which has no cycle, that follow from its other pairs.
func needlessOf(p impl.Precedence) [][2]int {
	return slices.DeleteFunc(slices.Clone(p.Over), func(pair [2]int) bool {
		others := slices.DeleteFunc(slices.Clone(p.Over), func(other [2]int) bool { return other == pair })
		return !slices.Contains(kindsAbove(impl.Precedence{Kinds: p.Kinds, Over: others}, pair[0]), pair[1])
	})
}

// checkKind checks what is said of one kind of p.
func checkKind(t *testing.T, p impl.Precedence, kind int) {
	t.Helper()
	above := kindsAbove(p, kind)
	if got, ok := impl.YieldsTo(p, kind); !ok || !slices.Equal(got, above) {
		t.Errorf("YieldsTo(%v, %d) = %v, %v; want %v", p, kind, got, ok, above)
	}
	blocked := []int{}
	for other := range p.Kinds {
		if other != kind && !slices.Contains(above, other) {
			blocked = append(blocked, other)
		}
	}
	if got, ok := impl.BlockedKinds(p, kind); !ok || !slices.Equal(got, blocked) {
		t.Errorf("BlockedKinds(%v, %d) = %v, %v; want %v", p, kind, got, ok, blocked)
	}
}

// checkPrecedence checks all that is said of a valid Precedence as a whole.
func checkPrecedence(t *testing.T, p impl.Precedence) {
	t.Helper()
	if !impl.IsValidPrecedence(p) {
		t.Errorf("not valid: %v", p)
	}
	sound := !hasCycle(p)
	if got, ok := impl.IsSound(p); !ok || got != sound {
		t.Errorf("IsSound(%v) = %v, %v; want %v", p, got, ok, sound)
	}
	if got, ok := impl.ShortestCycle(p); ok != !sound || !slices.Equal(got, cycleOf(p)) {
		t.Errorf("ShortestCycle(%v) = %v, %v; want %v", p, got, ok, cycleOf(p))
	}
	if got, ok := impl.OrderKinds(p); ok != sound || !slices.Equal(got, orderOf(p)) {
		t.Errorf("OrderKinds(%v) = %v, %v; want %v", p, got, ok, orderOf(p))
	}
	ranks, needless := []int{}, [][2]int{}
	if sound {
		ranks, needless = ranksOf(p), needlessOf(p)
	}
	if got, ok := impl.RanksOf(p); ok != sound || !slices.Equal(got, ranks) {
		t.Errorf("RanksOf(%v) = %v, %v; want %v", p, got, ok, ranks)
	}
	if got, ok := impl.NeedlessPairs(p); ok != sound || !slices.Equal(got, needless) {
		t.Errorf("NeedlessPairs(%v) = %v, %v; want %v", p, got, ok, needless)
	}
}

// checkAddPair checks the sum of a valid Precedence and a pair.
func checkAddPair(t *testing.T, p impl.Precedence, low int, high int) {
	t.Helper()
	pair := [2]int{low, high}
	longer := impl.Precedence{Kinds: p.Kinds, Over: append(slices.Clone(p.Over), pair)}
	slices.SortFunc(longer.Over, func(a, b [2]int) int { return slices.Compare(a[:], b[:]) })
	want := low >= 0 && low < p.Kinds && high >= 0 && high < p.Kinds && low != high &&
		!slices.Contains(p.Over, pair) && len(longer.Over) <= impl.MaxPairs && !hasCycle(longer)
	got, ok := impl.AddPair(p, low, high)
	if ok != want || want && (got.Kinds != p.Kinds || !slices.Equal(got.Over, longer.Over)) {
		t.Errorf("AddPair(%v, %d, %d) = %v, %v", p, low, high, got, ok)
	}
	if !ok && (got.Kinds != 0 || len(got.Over) != 0) {
		t.Errorf("AddPair(%v, %d, %d) = %v without success", p, low, high, got)
	}
}

// checkNoRanksAndNoOrder checks what is not said of a Precedence that is not valid or not sound.
func checkNoRanksAndNoOrder(t *testing.T, name string, p impl.Precedence) {
	t.Helper()
	if got, ok := impl.RanksOf(p); ok || len(got) != 0 {
		t.Error("RanksOf:", name, got)
	}
	if got, ok := impl.NeedlessPairs(p); ok || len(got) != 0 {
		t.Error("NeedlessPairs:", name, got)
	}
	if got, ok := impl.OrderKinds(p); ok || len(got) != 0 {
		t.Error("OrderKinds:", name, got)
	}
}

func TestConstantsOfPrecedence(t *testing.T) {
	if impl.MaxKinds != 8 || impl.MaxPairs != 16 {
		t.Error("constants", impl.MaxKinds, impl.MaxPairs)
	}
}

func TestIsValidPrecedence(t *testing.T) {
	for kinds := 1; kinds <= impl.MaxKinds; kinds++ {
		valid := []impl.Precedence{{Kinds: kinds}, {Kinds: kinds, Over: [][2]int{}}, chainOf(kinds)}
		for _, pair := range allPairs(kinds) {
			valid = append(valid, precedenceOf(kinds, pair))
		}
		pairs := allPairs(kinds)
		for size := range min(len(pairs), impl.MaxPairs) + 1 {
			valid = append(valid, precedenceOf(kinds, pairs[:size]...), precedenceOf(kinds, pairs[len(pairs)-size:]...))
		}
		for _, p := range valid {
			if !impl.IsValidPrecedence(p) {
				t.Error("not valid:", p)
			}
		}
	}
	for _, p := range []impl.Precedence{
		sevenPairs(), twoCycles(), precedenceOf(2, [2]int{0, 1}, [2]int{1, 0}), precedenceOf(8, [2]int{6, 7}, [2]int{7, 6}),
		precedenceOf(4, [2]int{0, 3}, [2]int{1, 0}, [2]int{1, 2}, [2]int{3, 0}), {Kinds: 8, Over: soundPairs(8)[:16]},
	} {
		if !impl.IsValidPrecedence(p) {
			t.Error("not valid:", p)
		}
	}
	for name, p := range invalidPrecedences() {
		if impl.IsValidPrecedence(p) {
			t.Error("valid:", name)
		}
	}
}

func TestEveryPairInAPrecedence(t *testing.T) {
	for kinds := -1; kinds <= 10; kinds++ {
		for low := -2; low <= 10; low++ {
			for high := -2; high <= 10; high++ {
				want := kinds >= 1 && kinds <= 8 && low >= 0 && low < kinds && high >= 0 && high < kinds && low != high
				p := precedenceOf(kinds, [2]int{low, high})
				if got := impl.IsValidPrecedence(p); got != want {
					t.Errorf("%v: %v", p, got)
				}
				if got, ok := impl.AddPair(precedenceOf(kinds), low, high); ok != want || ok && !slices.Equal(got.Over, p.Over) {
					t.Errorf("AddPair to none of %d kinds: %v, %v", kinds, got, ok)
				}
			}
		}
	}
}

func TestEveryOrderOfTwoPairs(t *testing.T) {
	for _, first := range allPairs(4) {
		for _, second := range allPairs(4) {
			want := slices.Compare(first[:], second[:]) < 0
			if got := impl.IsValidPrecedence(precedenceOf(4, first, second)); got != want {
				t.Error(first, second, got)
			}
		}
	}
}

func TestAPrecedenceIsSoundIfItHasNoCycle(t *testing.T) {
	eachPrecedence(func(p impl.Precedence) { checkPrecedence(t, p) })
	eachMixture(60, func(p impl.Precedence) { checkPrecedence(t, p) })
	for kinds := 1; kinds <= impl.MaxKinds; kinds++ {
		for _, p := range []impl.Precedence{precedenceOf(kinds), chainOf(kinds)} {
			checkPrecedence(t, p)
		}
		if kinds > 1 {
			checkPrecedence(t, ringOf(kinds))
		}
	}
	checkPrecedence(t, sevenPairs())
	checkPrecedence(t, twoCycles())
	pairs := allPairs(8)
	for first := 0; first+impl.MaxPairs <= len(pairs); first += 8 {
		checkPrecedence(t, impl.Precedence{Kinds: 8, Over: pairs[first : first+impl.MaxPairs]})
	}
	checkPrecedence(t, impl.Precedence{Kinds: 8, Over: soundPairs(8)[:16]})
	checkPrecedence(t, impl.Precedence{Kinds: 8, Over: soundPairs(8)[12:]})
}

func TestEveryKindYieldsAsThePairsSay(t *testing.T) {
	check := func(p impl.Precedence) {
		for kind := range p.Kinds {
			checkKind(t, p, kind)
		}
	}
	eachPrecedence(check)
	eachMixture(2000, check)
	for kinds := 2; kinds <= impl.MaxKinds; kinds++ {
		check(ringOf(kinds))
		check(chainOf(kinds))
	}
}

func TestYieldsTo(t *testing.T) {
	for kind, want := range [][]int{{1, 2, 3, 6}, {2, 3, 6}, {3, 6}, {}, {}, {}, {}, {5, 6}} {
		if got, ok := impl.YieldsTo(sevenPairs(), kind); !ok || !slices.Equal(got, want) {
			t.Errorf("of %d: %v, %v; want %v", kind, got, ok, want)
		}
	}
	for kind, want := range [][]int{
		{1, 2, 3, 4, 5, 6, 7}, {1, 2, 3}, {1, 2, 3}, {1, 2, 3}, {4, 5, 6, 7}, {4, 5, 6, 7}, {7}, {},
	} {
		if got, ok := impl.YieldsTo(twoCycles(), kind); !ok || !slices.Equal(got, want) {
			t.Errorf("with cycles, of %d: %v, %v; want %v", kind, got, ok, want)
		}
	}
	both := precedenceOf(2, [2]int{0, 1}, [2]int{1, 0})
	for kind := range 2 {
		if got, ok := impl.YieldsTo(both, kind); !ok || !slices.Equal(got, []int{0, 1}) {
			t.Errorf("in both directions, of %d: %v, %v", kind, got, ok)
		}
	}
}

func TestIsSound(t *testing.T) {
	for _, c := range []struct {
		p    impl.Precedence
		want bool
	}{
		{precedenceOf(1), true}, {precedenceOf(8), true}, {sevenPairs(), true}, {chainOf(8), true}, {twoCycles(), false},
		{precedenceOf(2, [2]int{0, 1}), true}, {precedenceOf(2, [2]int{1, 0}), true}, {precedenceOf(2, [2]int{0, 1}, [2]int{1, 0}), false},
		{precedenceOf(8, [2]int{6, 7}, [2]int{7, 6}), false}, {ringOf(3), false}, {ringOf(8), false},
		{precedenceOf(8, [2]int{0, 7}, [2]int{7, 6}, [2]int{6, 0}), false},
		{precedenceOf(3, [2]int{0, 1}, [2]int{0, 2}, [2]int{1, 2}), true},
	} {
		slices.SortFunc(c.p.Over, func(a, b [2]int) int { return slices.Compare(a[:], b[:]) })
		if got, ok := impl.IsSound(c.p); !ok || got != c.want {
			t.Errorf("%v: %v, %v", c.p, got, ok)
		}
	}
}

func TestShortestCycle(t *testing.T) {
	for _, c := range []struct {
		p    impl.Precedence
		want []int
	}{
		{precedenceOf(2, [2]int{0, 1}, [2]int{1, 0}), []int{0, 1}},
		{precedenceOf(8, [2]int{6, 7}, [2]int{7, 6}), []int{6, 7}},
		{ringOf(3), []int{0, 1, 2}},
		{ringOf(8), []int{0, 1, 2, 3, 4, 5, 6, 7}},
		{twoCycles(), []int{4, 5}},
		// A longer cycle begins with the smaller kind.
		{precedenceOf(3, [2]int{0, 1}, [2]int{1, 2}, [2]int{2, 0}, [2]int{2, 1}), []int{1, 2}},
		{precedenceOf(5, [2]int{0, 1}, [2]int{1, 2}, [2]int{2, 0}, [2]int{3, 4}, [2]int{4, 3}), []int{3, 4}},
		// The way around in the other direction is another cycle.
		{precedenceOf(3, [2]int{0, 2}, [2]int{1, 0}, [2]int{2, 1}), []int{0, 2, 1}},
		// Cycles of equal length, with and without kinds in common.
		{precedenceOf(4, [2]int{0, 2}, [2]int{1, 3}, [2]int{2, 0}, [2]int{3, 1}), []int{0, 2}},
		{precedenceOf(4, [2]int{0, 3}, [2]int{1, 2}, [2]int{2, 1}, [2]int{3, 0}), []int{0, 3}},
		{precedenceOf(3, [2]int{0, 1}, [2]int{0, 2}, [2]int{1, 0}, [2]int{2, 0}), []int{0, 1}},
		{precedenceOf(4, [2]int{0, 1}, [2]int{0, 3}, [2]int{1, 2}, [2]int{2, 0}, [2]int{3, 2}), []int{0, 1, 2}},
		{precedenceOf(4, [2]int{0, 2}, [2]int{1, 0}, [2]int{2, 1}, [2]int{2, 3}, [2]int{3, 0}), []int{0, 2, 1}},
		{precedenceOf(6, [2]int{0, 5}, [2]int{1, 3}, [2]int{2, 1}, [2]int{3, 2}, [2]int{4, 0}, [2]int{5, 4}), []int{0, 5, 4}},
		// The first kind leads into the cycle.
		{precedenceOf(4, [2]int{0, 2}, [2]int{1, 2}, [2]int{2, 3}, [2]int{3, 2}), []int{2, 3}},
		{precedenceOf(4, [2]int{0, 1}, [2]int{1, 2}, [2]int{2, 3}, [2]int{3, 1}), []int{1, 2, 3}},
	} {
		if got, ok := impl.ShortestCycle(c.p); !ok || !slices.Equal(got, c.want) {
			t.Errorf("of %v: %v, %v; want %v", c.p, got, ok, c.want)
		}
	}
	for _, p := range []impl.Precedence{precedenceOf(1), precedenceOf(8), chainOf(8), sevenPairs()} {
		if got, ok := impl.ShortestCycle(p); ok || len(got) != 0 {
			t.Errorf("of %v: %v", p, got)
		}
	}
}

func TestRanksOf(t *testing.T) {
	for _, c := range []struct {
		p    impl.Precedence
		want []int
	}{
		{precedenceOf(1), []int{0}},
		{precedenceOf(8), []int{0, 0, 0, 0, 0, 0, 0, 0}},
		{chainOf(8), []int{0, 1, 2, 3, 4, 5, 6, 7}},
		{sevenPairs(), []int{0, 1, 2, 3, 0, 1, 3, 0}},
		{precedenceOf(4, [2]int{1, 0}, [2]int{2, 1}, [2]int{3, 2}), []int{3, 2, 1, 0}},
		{precedenceOf(4, [2]int{0, 3}, [2]int{1, 0}, [2]int{1, 3}, [2]int{2, 0}), []int{1, 0, 0, 2}},
		{precedenceOf(4, [2]int{3, 0}, [2]int{3, 1}, [2]int{3, 2}), []int{1, 1, 1, 0}},
	} {
		if got, ok := impl.RanksOf(c.p); !ok || !slices.Equal(got, c.want) {
			t.Errorf("of %v: %v, %v; want %v", c.p, got, ok, c.want)
		}
	}
}

func TestAddPair(t *testing.T) {
	for _, c := range []struct {
		pair [2]int
		at   int
	}{
		{[2]int{0, 2}, 1}, {[2]int{0, 4}, 2}, {[2]int{0, 7}, 2}, {[2]int{1, 3}, 3}, {[2]int{4, 0}, 5}, {[2]int{6, 4}, 5},
		{[2]int{7, 0}, 5}, {[2]int{7, 4}, 5}, {[2]int{2, 1}, -1}, {[2]int{3, 0}, -1}, {[2]int{6, 7}, -1}, {[2]int{5, 7}, -1},
		{[2]int{0, 1}, -1}, {[2]int{2, 3}, -1}, {[2]int{7, 6}, -1}, {[2]int{4, 4}, -1}, {[2]int{0, 0}, -1},
		{[2]int{0, 8}, -1}, {[2]int{8, 0}, -1}, {[2]int{-1, 0}, -1}, {[2]int{0, -1}, -1}, {[2]int{math.MinInt, math.MaxInt}, -1},
	} {
		p := sevenPairs()
		got, ok := impl.AddPair(p, c.pair[0], c.pair[1])
		if c.at < 0 {
			if ok || got.Kinds != 0 || len(got.Over) != 0 {
				t.Error("added", c.pair, got)
			}
		} else if !ok || got.Kinds != 8 || !slices.Equal(got.Over, slices.Insert(p.Over, c.at, c.pair)) {
			t.Error("not added in its place:", c.pair, got, ok)
		}
	}
	// At the beginning, at the end, and in between.
	for _, pair := range [][2]int{{0, 1}, {3, 2}, {2, 1}, {1, 0}} {
		checkAddPair(t, precedenceOf(4, [2]int{1, 3}, [2]int{2, 0}), pair[0], pair[1])
	}
}

func TestAddEveryPair(t *testing.T) {
	check := func(p impl.Precedence) {
		for low := -1; low <= p.Kinds; low++ {
			for high := -1; high <= p.Kinds; high++ {
				checkAddPair(t, p, low, high)
			}
		}
		for _, kind := range noKinds(p) {
			checkAddPair(t, p, kind, 0)
			checkAddPair(t, p, 0, kind)
			checkAddPair(t, p, kind, kind)
		}
	}
	eachPrecedence(check)
	eachMixture(100, check)
	check(twoCycles())
	check(ringOf(8))
}

func TestAddPairsUntilThereAreMaxPairs(t *testing.T) {
	pairs := soundPairs(8)
	for step := 1; step < len(pairs); step++ {
		p := precedenceOf(8)
		// Every step visits all pairs if it has no divisor in common with their number.
		for i := range impl.MaxPairs {
			pair := pairs[i*step%len(pairs)]
			checkAddPair(t, p, pair[0], pair[1])
			if longer, ok := impl.AddPair(p, pair[0], pair[1]); ok {
				p = longer
			}
		}
		if step%2 == 1 && step%7 != 0 && len(p.Over) != impl.MaxPairs {
			t.Error("so many pairs were added:", len(p.Over))
		}
		for _, pair := range pairs {
			checkAddPair(t, p, pair[0], pair[1])
		}
	}
}

func TestNeedlessPairs(t *testing.T) {
	for _, c := range []struct {
		p    impl.Precedence
		want [][2]int
	}{
		{precedenceOf(1), nil},
		{chainOf(8), nil},
		{sevenPairs(), [][2]int{{0, 3}}},
		{precedenceOf(3, [2]int{0, 1}, [2]int{0, 2}, [2]int{1, 2}), [][2]int{{0, 2}}},
		{precedenceOf(3, [2]int{1, 0}, [2]int{2, 0}, [2]int{2, 1}), [][2]int{{2, 0}}},
		{precedenceOf(4, [2]int{0, 1}, [2]int{0, 3}, [2]int{1, 2}, [2]int{2, 3}), [][2]int{{0, 3}}},
		// All pairs of four kinds: those of the chain are needed.
		{impl.Precedence{Kinds: 4, Over: soundPairs(4)}, [][2]int{{0, 2}, {0, 3}, {1, 3}}},
		// Two ways of equal length without a pair between their ends.
		{precedenceOf(4, [2]int{0, 1}, [2]int{0, 2}, [2]int{1, 3}, [2]int{2, 3}), nil},
		{precedenceOf(4, [2]int{0, 1}, [2]int{0, 2}, [2]int{0, 3}, [2]int{1, 3}, [2]int{2, 3}), [][2]int{{0, 3}}},
		{precedenceOf(8, [2]int{0, 1}, [2]int{0, 7}, [2]int{1, 2}, [2]int{2, 3}, [2]int{3, 4}, [2]int{4, 5}, [2]int{5, 6}, [2]int{6, 7}), [][2]int{{0, 7}}},
	} {
		if got, ok := impl.NeedlessPairs(c.p); !ok || !slices.Equal(got, c.want) {
			t.Errorf("of %v: %v, %v; want %v", c.p, got, ok, c.want)
		}
	}
}

func TestOrderKinds(t *testing.T) {
	for _, c := range []struct {
		p    impl.Precedence
		want []int
	}{
		{precedenceOf(1), []int{0}},
		{precedenceOf(8), []int{0, 1, 2, 3, 4, 5, 6, 7}},
		{sevenPairs(), []int{0, 1, 2, 3, 4, 7, 5, 6}},
		{precedenceOf(4, [2]int{1, 0}, [2]int{2, 1}, [2]int{3, 2}), []int{3, 2, 1, 0}},
		{precedenceOf(4, [2]int{3, 0}), []int{1, 2, 3, 0}},
		{precedenceOf(4, [2]int{3, 1}), []int{0, 2, 3, 1}},
		{precedenceOf(4, [2]int{2, 0}, [2]int{3, 1}), []int{2, 0, 3, 1}},
		{precedenceOf(5, [2]int{4, 0}, [2]int{4, 1}, [2]int{4, 2}), []int{3, 4, 0, 1, 2}},
		{precedenceOf(5, [2]int{1, 0}, [2]int{2, 0}, [2]int{3, 0}), []int{1, 2, 3, 0, 4}},
	} {
		if got, ok := impl.OrderKinds(c.p); !ok || !slices.Equal(got, c.want) {
			t.Errorf("of %v: %v, %v; want %v", c.p, got, ok, c.want)
		}
	}
}

func TestWithACycleThereAreNoRanksAndNoOrder(t *testing.T) {
	for _, p := range []impl.Precedence{
		precedenceOf(2, [2]int{0, 1}, [2]int{1, 0}), ringOf(3), ringOf(8), twoCycles(), precedenceOf(8, [2]int{6, 7}, [2]int{7, 6}),
	} {
		checkNoRanksAndNoOrder(t, fmt.Sprint(p), p)
		// No pair makes it sound again.
		for _, pair := range allPairs(p.Kinds) {
			if got, ok := impl.AddPair(p, pair[0], pair[1]); ok || got.Kinds != 0 || len(got.Over) != 0 {
				t.Errorf("AddPair(%v, %d, %d) = %v", p, pair[0], pair[1], got)
			}
		}
	}
}

func TestBlockedKinds(t *testing.T) {
	for start, want := range [][]int{
		{4, 5, 7}, {0, 4, 5, 7}, {0, 1, 4, 5, 7}, {0, 1, 2, 4, 5, 6, 7}, {0, 1, 2, 3, 5, 6, 7}, {0, 1, 2, 3, 4, 6, 7}, {0, 1, 2, 3, 4, 5, 7}, {0, 1, 2, 3, 4},
	} {
		if got, ok := impl.BlockedKinds(sevenPairs(), start); !ok || !slices.Equal(got, want) {
			t.Errorf("from %d: %v, %v; want %v", start, got, ok, want)
		}
	}
	for start, want := range [][]int{
		{}, {0, 4, 5, 6, 7}, {0, 4, 5, 6, 7}, {0, 4, 5, 6, 7}, {0, 1, 2, 3}, {0, 1, 2, 3}, {0, 1, 2, 3, 4, 5}, {0, 1, 2, 3, 4, 5, 6},
	} {
		if got, ok := impl.BlockedKinds(twoCycles(), start); !ok || !slices.Equal(got, want) {
			t.Errorf("with cycles, from %d: %v, %v; want %v", start, got, ok, want)
		}
	}
	if got, ok := impl.BlockedKinds(precedenceOf(1), 0); !ok || len(got) != 0 {
		t.Error("from the only kind", got, ok)
	}
}

func TestKindsThatDoNotOccur(t *testing.T) {
	for _, p := range []impl.Precedence{precedenceOf(1), precedenceOf(7), precedenceOf(8), sevenPairs(), twoCycles(), ringOf(5)} {
		for _, kind := range noKinds(p) {
			if got, ok := impl.YieldsTo(p, kind); ok || len(got) != 0 {
				t.Errorf("YieldsTo(%v, %d) = %v", p, kind, got)
			}
			if got, ok := impl.BlockedKinds(p, kind); ok || len(got) != 0 {
				t.Errorf("BlockedKinds(%v, %d) = %v", p, kind, got)
			}
		}
	}
}

func TestInvalidPrecedences(t *testing.T) {
	for name, p := range invalidPrecedences() {
		for kind := -1; kind <= 9; kind++ {
			if got, ok := impl.YieldsTo(p, kind); ok || len(got) != 0 {
				t.Error("YieldsTo:", name, kind, got)
			}
			if got, ok := impl.BlockedKinds(p, kind); ok || len(got) != 0 {
				t.Error("BlockedKinds:", name, kind, got)
			}
			for other := -1; other <= 9; other++ {
				if got, ok := impl.AddPair(p, kind, other); ok || got.Kinds != 0 || len(got.Over) != 0 {
					t.Error("AddPair:", name, kind, other, got)
				}
			}
		}
		if got, ok := impl.IsSound(p); ok || got {
			t.Error("IsSound:", name, got, ok)
		}
		if got, ok := impl.ShortestCycle(p); ok || len(got) != 0 {
			t.Error("ShortestCycle:", name, got)
		}
		checkNoRanksAndNoOrder(t, name, p)
	}
}

func TestPrecedenceFunctionsLeaveTheirArguments(t *testing.T) {
	beyond := [2]int{-1, -1}
	for _, p := range []impl.Precedence{sevenPairs(), twoCycles(), precedenceOf(4)} {
		memory := slices.Concat([][2]int{beyond}, p.Over, [][2]int{beyond, beyond})
		kept := slices.Clone(memory)
		p.Over = memory[1 : len(memory)-2]
		results := [][][2]int{}
		for low := -1; low <= p.Kinds; low++ {
			for high := -1; high <= p.Kinds; high++ {
				longer, _ := impl.AddPair(p, low, high)
				results = append(results, longer.Over)
			}
			impl.YieldsTo(p, low)
			impl.BlockedKinds(p, low)
		}
		needless, _ := impl.NeedlessPairs(p)
		impl.IsValidPrecedence(p)
		impl.IsSound(p)
		impl.ShortestCycle(p)
		impl.RanksOf(p)
		impl.OrderKinds(p)
		for _, result := range append(results, needless) {
			// Even what lies beyond the length of a result must not be the argument's memory.
			result = result[:cap(result)]
			for i := range result {
				result[i] = beyond
			}
		}
		if !slices.Equal(memory, kept) {
			t.Error("changed", memory)
		}
	}
}

func TestPrecedenceResultsAreRepeated(t *testing.T) {
	higher, _ := impl.YieldsTo(sevenPairs(), 0)
	cycle, _ := impl.ShortestCycle(twoCycles())
	ranks, _ := impl.RanksOf(sevenPairs())
	needless, _ := impl.NeedlessPairs(sevenPairs())
	order, _ := impl.OrderKinds(sevenPairs())
	higher[0], cycle[0], ranks[0], needless[0], order[0] = 50, 50, 50, [2]int{5, 0}, 50
	checkKind(t, sevenPairs(), 0)
	checkPrecedence(t, sevenPairs())
	checkPrecedence(t, twoCycles())
}
