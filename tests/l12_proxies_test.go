package tests

import (
	"cmp"
	"fmt"
	"math"
	"slices"
	"testing"

	"loop.example/g00909/impl"
)

// someWeights are weights of 13 voters, of which no two of the first eight sets of voters have the
// same sum.
func someWeights() []int { return []int{1, 2, 4, 8, 16, 32, 64, 100, 0, 77, 55, 3, 90} }

// letting returns Voters with someWeights of whom each lets the one vote whose number stands at its
// place, or nobody if this is -1.
func letting(to ...int) impl.Voters {
	v := impl.Voters{Weights: someWeights()[:len(to):len(to)]}
	for from, other := range to {
		if other != -1 {
			v.Proxies = append(v.Proxies, impl.Proxy{From: from, To: other})
		}
	}
	return v
}

// alone returns what letting takes for n voters without a Proxy.
func alone(n int) []int { return slices.Repeat([]int{-1}, n) }

// chained returns what letting takes for n voters of whom each one in the order lets the next one
// vote.
func chained(n int, order ...int) []int {
	to := alone(n)
	for i, voter := range order[1:] {
		to[order[i]] = voter
	}
	return to
}

// votersBeyond are numbers that are no voters among n.
func votersBeyond(n int) []int {
	return []int{math.MinInt, math.MinInt + 1, -12, -2, -1, n, n + 1, n + 12, math.MaxInt - 1, math.MaxInt}
}

// eachTuple calls visit with every list of n numbers in first..last.
func eachTuple(n int, first int, last int, visit func([]int)) {
	if n == 0 {
		visit(nil)
		return
	}
	eachTuple(n-1, first, last, func(list []int) {
		for number := first; number <= last; number++ {
			visit(append(slices.Clone(list), number))
		}
	})
}

// eachSubset calls visit with every list of numbers in first..last in strictly ascending order.
func eachSubset(first int, last int, visit func([]int)) {
	for set := range 1 << (last - first + 1) {
		list := []int{}
		for i := range last - first + 1 {
			if set>>i%2 == 1 {
				list = append(list, first+i)
			}
		}
		visit(list)
	}
}

// sumOf returns the sum of numbers.
func sumOf(list []int) int {
	sum := 0
	for _, n := range list {
		sum += n
	}
	return sum
}

// reachable returns, for each voter, to which voters one comes by following Proxies, all of which
// are between voters that occur.
func reachable(v impl.Voters) [][]bool {
	n := len(v.Weights)
	reach := make([][]bool, n)
	for i := range reach {
		reach[i] = make([]bool, n)
	}
	for _, p := range v.Proxies {
		reach[p.From][p.To] = true
	}
	for k := range n {
		for i := range n {
			for j := range n {
				reach[i][j] = reach[i][j] || reach[i][k] && reach[k][j]
			}
		}
	}
	return reach
}

// isVoterOf reports whether a voter occurs.
func isVoterOf(v impl.Voters, voter int) bool {
	return slices.Contains(membersFrom(0, len(v.Weights)), voter)
}

// areVoters reports whether v is valid.
func areVoters(v impl.Voters) bool {
	if len(v.Weights) >= 13 || len(v.Proxies) >= 13 {
		return false
	}
	for _, weight := range v.Weights {
		if weight <= -1 || weight >= 101 {
			return false
		}
	}
	from := []int{}
	for _, p := range v.Proxies {
		from = append(from, p.From)
		if !isVoterOf(v, p.From) || !isVoterOf(v, p.To) {
			return false
		}
	}
	for voter, reached := range reachable(v) {
		if reached[voter] {
			return false
		}
	}
	return ascendStrictly(from)
}

// holderOf returns the holder of a voter among valid Voters, and how many Proxies lead there: as
// many as there are voters to whom one comes.
func holderOf(v impl.Voters, voter int) (int, int) {
	holder, steps := voter, 0
	for other, reached := range reachable(v)[voter] {
		if !reached {
			continue
		}
		steps++
		if !slices.ContainsFunc(v.Proxies, func(p impl.Proxy) bool { return p.From == other }) {
			holder = other
		}
	}
	return holder, steps
}

// weightHeldBy returns the weight of all voters whose holder fits.
func weightHeldBy(v impl.Voters, fits func(int) bool) int {
	sum := 0
	for voter, weight := range v.Weights {
		if holder, _ := holderOf(v, voter); fits(holder) {
			sum += weight
		}
	}
	return sum
}

// sameVoters reports whether two Voters are the same.
func sameVoters(a impl.Voters, b impl.Voters) bool {
	return slices.Equal(a.Weights, b.Weights) && slices.Equal(a.Proxies, b.Proxies)
}

// otherProxies returns the Proxies that are not from a voter.
func otherProxies(v impl.Voters, from int) []impl.Proxy {
	return slices.DeleteFunc(slices.Clone(v.Proxies), func(p impl.Proxy) bool { return p.From == from })
}

// checkVotersAfter checks the result of a call that returns Voters, or fails if they are not fine.
func checkVotersAfter(t *testing.T, call string, v impl.Voters, got impl.Voters, ok bool, want impl.Voters, fine bool) {
	t.Helper()
	if !fine {
		want = impl.Voters{}
	}
	if ok != fine || !sameVoters(got, want) {
		t.Errorf("%s of %v: %v, %v; want %v, %v", call, v, got, ok, want, fine)
	}
}

// checkGive checks giving a Proxy among Voters of any kind.
func checkGive(t *testing.T, v impl.Voters, from int, to int) {
	t.Helper()
	want := impl.Voters{Weights: v.Weights, Proxies: append(otherProxies(v, from), impl.Proxy{From: from, To: to})}
	slices.SortFunc(want.Proxies, func(p impl.Proxy, q impl.Proxy) int { return cmp.Compare(p.From, q.From) })
	got, ok := impl.GiveProxy(v, from, to)
	checkVotersAfter(t, fmt.Sprint("giving ", from, " to ", to), v, got, ok, want, areVoters(v) && areVoters(want))
}

// checkRevoke checks revoking a Proxy among Voters of any kind.
func checkRevoke(t *testing.T, v impl.Voters, from int) {
	t.Helper()
	want := impl.Voters{Weights: v.Weights, Proxies: otherProxies(v, from)}
	got, ok := impl.RevokeProxy(v, from)
	checkVotersAfter(t, fmt.Sprint("revoking ", from), v, got, ok, want, areVoters(v) && len(want.Proxies) < len(v.Proxies))
}

// checkVoter checks what the functions tell of a voter, among Voters of any kind, who need not
// occur.
func checkVoter(t *testing.T, v impl.Voters, voter int) {
	t.Helper()
	holder, steps, fine := 0, 0, areVoters(v) && isVoterOf(v, voter)
	if fine {
		holder, steps = holderOf(v, voter)
	}
	if got, ok := impl.HolderFor(v, voter); got != holder || ok != fine {
		t.Errorf("holder of %d in %v: %d, %v; want %d, %v", voter, v, got, ok, holder, fine)
	}
	if got, ok := impl.ProxySteps(v, voter); got != steps || ok != fine {
		t.Errorf("steps of %d in %v: %d, %v; want %d, %v", voter, v, got, ok, steps, fine)
	}
}

// checkPresent checks the weight present, among Voters of any kind, with a list of any kind.
func checkPresent(t *testing.T, v impl.Voters, present []int) {
	t.Helper()
	fine := areVoters(v) && ascendStrictly(present)
	for _, voter := range present {
		fine = fine && isVoterOf(v, voter)
	}
	want := 0
	if fine {
		want = weightHeldBy(v, func(holder int) bool { return slices.Contains(present, holder) })
	}
	if got, ok := impl.WeightPresent(v, present); got != want || ok != fine {
		t.Errorf("weight with %v present in %v: %d, %v; want %d, %v", present, v, got, ok, want, fine)
	}
}

// checkCast checks the votes that are cast, among Voters of any kind, with a list of any kind.
func checkCast(t *testing.T, v impl.Voters, votes []int) {
	t.Helper()
	fine := areVoters(v) && len(votes) == len(v.Weights)
	for _, vote := range votes {
		fine = fine && slices.Contains([]int{0, 1, 2, 3}, vote)
	}
	want := []int{}
	for vote := range 4 {
		if fine {
			want = append(want, weightHeldBy(v, func(holder int) bool { return votes[holder] == vote }))
		}
	}
	if got, ok := impl.CastVotes(v, votes); !slices.Equal(got, want) || ok != fine {
		t.Errorf("votes %v cast in %v: %v, %v; want %v, %v", votes, v, got, ok, want, fine)
	}
}

// checkHeld checks promise 12 for valid Voters, by what the functions tell alone.
func checkHeld(t *testing.T, v impl.Voters) {
	t.Helper()
	held, ok := impl.HeldWeights(v)
	if !ok || len(held) != len(v.Weights) || sumOf(held) != sumOf(v.Weights) {
		t.Errorf("held weights of %v: %v, %v", v, held, ok)
	}
	direct, ok := impl.DirectVotes(v)
	if all, fine := impl.WeightPresent(v, direct); !ok || !fine || all != sumOf(v.Weights) {
		t.Errorf("weight with all holders of %v, %v, present: %d, %v", v, direct, all, fine)
	}
	for voter := range v.Weights {
		holder, ok := impl.HolderFor(v, voter)
		last, fine := impl.HolderFor(v, holder)
		if !ok || !fine || last != holder || !slices.Contains(direct, holder) {
			t.Errorf("holders of %d in %v: %d, %v and %d, %v", voter, v, holder, ok, last, fine)
		}
		if steps, ok := impl.ProxySteps(v, holder); steps != 0 || !ok {
			t.Errorf("steps of the holder %d in %v: %d, %v", holder, v, steps, ok)
		}
	}
}

// checkVoters checks what the functions tell of Voters of any kind, but for lists present and votes.
func checkVoters(t *testing.T, v impl.Voters) {
	t.Helper()
	fine := areVoters(v)
	if got := impl.AreVoters(v); got != fine {
		t.Errorf("%v are valid: %v; want %v", v, got, fine)
	}
	held, direct := []int{}, []int{}
	for voter := range v.Weights {
		if !fine {
			break
		}
		held = append(held, weightHeldBy(v, func(holder int) bool { return holder == voter }))
		if _, steps := holderOf(v, voter); steps == 0 {
			direct = append(direct, voter)
		}
	}
	if got, ok := impl.HeldWeights(v); !slices.Equal(got, held) || ok != fine {
		t.Errorf("held weights of %v: %v, %v; want %v, %v", v, got, ok, held, fine)
	}
	if got, ok := impl.DirectVotes(v); !slices.Equal(got, direct) || ok != fine {
		t.Errorf("direct votes of %v: %v, %v; want %v, %v", v, got, ok, direct, fine)
	}
	for _, voter := range membersFrom(-1, min(len(v.Weights), 13)+2) {
		checkVoter(t, v, voter)
		checkRevoke(t, v, voter)
	}
	if fine {
		checkHeld(t, v)
	}
}

// checkGives checks giving every Proxy, also from and to voters that do not occur.
func checkGives(t *testing.T, v impl.Voters) {
	t.Helper()
	numbers := membersFrom(-1, min(len(v.Weights), 13)+2)
	for _, from := range numbers {
		for _, to := range numbers {
			checkGive(t, v, from, to)
		}
	}
}

// checkNoVoters checks that v is not valid and that all functions fail.
func checkNoVoters(t *testing.T, name string, v impl.Voters) {
	t.Helper()
	if areVoters(v) {
		t.Errorf("wrong test: %s", name)
	}
	if impl.AreVoters(v) {
		t.Errorf("%s: %.200v are valid", name, fmt.Sprint(v))
	}
	checkVoters(t, v)
	checkGives(t, v)
	for _, list := range [][]int{nil, {0}, {0, 1}, {0, 1, 2}, make([]int, len(v.Weights)), membersFrom(0, len(v.Weights))} {
		checkPresent(t, v, list)
		checkCast(t, v, list)
	}
}

func TestConstantsOfProxies(t *testing.T) {
	if impl.MaxVoters != 12 {
		t.Error(impl.MaxVoters)
	}
}

func TestNumbersOfVoters(t *testing.T) {
	for n := range 14 {
		for _, to := range [][]int{alone(n), chained(n, membersFrom(0, max(n, 1))...)} {
			v := letting(to...)
			if got := impl.AreVoters(v); got != (n <= 12) {
				t.Errorf("%d voters are valid: %v", n, got)
			}
			checkVoters(t, v)
			checkGives(t, v)
		}
	}
	checkNoVoters(t, "too many voters without weight", impl.Voters{Weights: make([]int, 13)})
	checkNoVoters(t, "very many voters", impl.Voters{Weights: make([]int, 100000)})
	checkNoVoters(t, "very many Proxies", impl.Voters{Weights: make([]int, 12), Proxies: make([]impl.Proxy, 100000)})
	checkNoVoters(t, "a Proxy of nobody", impl.Voters{Proxies: []impl.Proxy{{}}})
	checkNoVoters(t, "a Proxy among nobody", impl.Voters{Proxies: []impl.Proxy{{From: 0, To: 1}}})
}

func TestNobodyIsAVoter(t *testing.T) {
	v := impl.Voters{}
	if !impl.AreVoters(v) || !impl.AreVoters(impl.Voters{Weights: []int{}, Proxies: []impl.Proxy{}}) {
		t.Error("nobody at all is not valid")
	}
	checkVoters(t, v)
	checkGives(t, v)
	if sum, ok := impl.WeightPresent(v, nil); sum != 0 || !ok {
		t.Error("weight of nobody present:", sum, ok)
	}
	if weights, ok := impl.CastVotes(v, nil); !slices.Equal(weights, []int{0, 0, 0, 0}) || !ok {
		t.Error("votes of nobody:", weights, ok)
	}
	checkPresent(t, v, []int{0})
	checkCast(t, v, []int{0})
}

func TestWeightsOfVoters(t *testing.T) {
	weights := []int{math.MinInt, math.MinInt + 1, -100, math.MaxInt - 1, math.MaxInt}
	for weight := -2; weight <= 102; weight++ {
		weights = append(weights, weight)
	}
	for _, weight := range weights {
		for place := range 3 {
			v := letting(1, 2, -1)
			v.Weights[place] = weight
			checkVoters(t, v)
			if got := impl.AreVoters(v); got != (weight >= 0 && weight <= 100) {
				t.Errorf("the weight %d is valid: %v", weight, got)
			}
			if weight <= -1 || weight >= 101 {
				checkNoVoters(t, "a weight", v)
			}
			checkGives(t, v)
			checkPresent(t, v, []int{2})
			checkCast(t, v, []int{3, 3, 0})
		}
	}
}

func TestEqualWeights(t *testing.T) {
	for n := range 13 {
		for _, weight := range []int{0, 100} {
			for _, to := range [][]int{alone(n), chained(n, membersFrom(0, max(n, 1))...)} {
				v := letting(to...)
				v.Weights = slices.Repeat([]int{weight}, n)
				checkVoters(t, v)
				if held, ok := impl.HeldWeights(v); !ok || sumOf(held) != weight*n {
					t.Errorf("held weights of %v: %v, %v", v, held, ok)
				}
				checkPresent(t, v, membersFrom(0, n))
				checkCast(t, v, make([]int, n))
			}
		}
	}
}

func TestHolders(t *testing.T) {
	for _, x := range []struct {
		name          string
		v             impl.Voters
		holders, held []int
		steps, direct []int
	}{
		{"one voter", letting(-1), []int{0}, []int{1}, []int{0}, []int{0}},
		{"no Proxy", letting(-1, -1, -1), []int{0, 1, 2}, []int{1, 2, 4}, []int{0, 0, 0}, []int{0, 1, 2}},
		{"one Proxy up", letting(1, -1), []int{1, 1}, []int{0, 3}, []int{1, 0}, []int{1}},
		{"one Proxy down", letting(-1, 0), []int{0, 0}, []int{3, 0}, []int{0, 1}, []int{0}},
		{"a chain up", letting(1, 2, 3, -1), []int{3, 3, 3, 3}, []int{0, 0, 0, 15}, []int{3, 2, 1, 0}, []int{3}},
		{"a chain down", letting(-1, 0, 1, 2), []int{0, 0, 0, 0}, []int{15, 0, 0, 0}, []int{0, 1, 2, 3}, []int{0}},
		{"a chain up and down", letting(3, -1, 1, 2), []int{1, 1, 1, 1}, []int{0, 15, 0, 0}, []int{3, 0, 1, 2}, []int{1}},
		{"all let the same one", letting(2, 2, -1, 2), []int{2, 2, 2, 2}, []int{0, 0, 15, 0}, []int{1, 1, 0, 1}, []int{2}},
		{"chains that meet", letting(2, 2, 4, 4, -1, -1), []int{4, 4, 4, 4, 4, 5}, []int{0, 0, 0, 0, 31, 32}, []int{2, 2, 1, 1, 0, 0}, []int{4, 5}},
		{"two chains", letting(2, 3, -1, -1), []int{2, 3, 2, 3}, []int{0, 0, 5, 10}, []int{1, 1, 0, 0}, []int{2, 3}},
		{
			"a chain of all", letting(chained(12, membersFrom(0, 12)...)...), slices.Repeat([]int{11}, 12),
			[]int{0, 0, 0, 0, 0, 0, 0, 0, 0, 0, 0, 362}, []int{11, 10, 9, 8, 7, 6, 5, 4, 3, 2, 1, 0}, []int{11},
		},
	} {
		holders, steps := []int{}, []int{}
		for voter := range x.v.Weights {
			holder, ok := impl.HolderFor(x.v, voter)
			n, fine := impl.ProxySteps(x.v, voter)
			if !ok || !fine {
				t.Errorf("%s: nothing of %d", x.name, voter)
			}
			holders, steps = append(holders, holder), append(steps, n)
		}
		held, ok := impl.HeldWeights(x.v)
		direct, fine := impl.DirectVotes(x.v)
		if !ok || !fine || !slices.Equal(holders, x.holders) || !slices.Equal(held, x.held) || !slices.Equal(steps, x.steps) || !slices.Equal(direct, x.direct) {
			t.Errorf("%s: holders %v, held %v, %v, steps %v, direct %v, %v", x.name, holders, held, ok, steps, direct, fine)
		}
		checkVoters(t, x.v)
		checkGives(t, x.v)
	}
}

func TestEveryVotersOfUpToFive(t *testing.T) {
	valid, circles := 0, 0
	for n := range 6 {
		eachTuple(n, -1, n-1, func(to []int) {
			v := letting(to...)
			checkVoters(t, v)
			if n <= 4 {
				checkGives(t, v)
			}
			if areVoters(v) {
				valid++
				return
			}
			circles++
			if n <= 3 {
				checkNoVoters(t, "a circle", v)
			}
		})
	}
	// There are (n+1)^(n-1) forests of n voters.
	if want := 1 + 1 + 3 + 16 + 125 + 1296; valid != want || circles == 0 {
		t.Error("wrong test:", valid, "valid ones and", circles, "others")
	}
}

func TestHeldWeightsAddUpAndHoldersHoldThemselves(t *testing.T) {
	// There are 16807 forests of six voters, of which every eleventh one is checked in all.
	valid := 0
	eachTuple(6, -1, 5, func(to []int) {
		v := letting(to...)
		if !areVoters(v) {
			return
		}
		valid++
		checkHeld(t, v)
		if valid%11 == 0 {
			checkVoters(t, v)
		}
	})
	if valid != 16807 {
		t.Error("wrong test:", valid)
	}
}

func TestChainsOfEveryLength(t *testing.T) {
	orders := [][]int{membersFrom(0, 12), membersFrom(0, 12), {5, 0, 11, 3, 8, 1, 10, 6, 2, 9, 4, 7}, {11, 0, 10, 1, 9, 2, 8, 3, 7, 4, 6, 5}}
	slices.Reverse(orders[1])
	for _, order := range orders {
		for length := 1; length <= 12; length++ {
			v := letting(chained(12, order[:length]...)...)
			checkVoters(t, v)
			checkGives(t, v)
			end := order[length-1]
			for i, voter := range order[:length] {
				holder, ok := impl.HolderFor(v, voter)
				if steps, fine := impl.ProxySteps(v, voter); holder != end || !ok || steps != length-1-i || !fine {
					t.Errorf("in a chain %v, %d: %d, %v and %d, %v", order[:length], voter, holder, ok, steps, fine)
				}
			}
			// The last one of the chain closes a circle with each before it.
			for i, voter := range order[:length] {
				if got, ok := impl.GiveProxy(v, end, voter); ok || !sameVoters(got, impl.Voters{}) {
					t.Errorf("a circle of %d: %v, %v", length-i, got, ok)
				}
			}
			checkPresent(t, v, []int{end})
			checkPresent(t, v, []int{order[0]})
		}
	}
}

func TestCirclesOfEveryLength(t *testing.T) {
	order := []int{5, 0, 11, 3, 8, 1, 10, 6, 2, 9, 4, 7}
	for length := 1; length <= 12; length++ {
		to := chained(12, order[:length]...)
		to[order[length-1]] = order[0]
		checkNoVoters(t, fmt.Sprint("a circle of ", length), letting(to...))
		for at := length; at < 12; at++ {
			// The others lead to the circle, one behind the other, at each of its voters in turn.
			to[order[at]] = order[at-1]
			checkNoVoters(t, fmt.Sprint("a circle of ", length, " and a chain"), letting(to...))
		}
		for _, voter := range order[length:] {
			to[voter] = order[voter%length]
		}
		checkNoVoters(t, fmt.Sprint("a circle of ", length, " to which all others lead"), letting(to...))
	}
	checkNoVoters(t, "two circles", letting(1, 0, 3, 2))
	checkNoVoters(t, "the only voter lets itself vote", letting(0))
	checkNoVoters(t, "the last voter lets itself vote", letting(-1, -1, 2))
	checkNoVoters(t, "a circle beside a chain", letting(1, -1, 3, 4, 2))
	checkNoVoters(t, "a chain to one that lets itself vote", letting(1, 2, 2))
}

func TestEveryListOfProxies(t *testing.T) {
	proxies := []impl.Proxy{}
	for from := -1; from <= 3; from++ {
		for to := -1; to <= 3; to++ {
			proxies = append(proxies, impl.Proxy{From: from, To: to})
		}
	}
	valid := 0
	for n := range 4 {
		eachTuple(n, 0, len(proxies)-1, func(places []int) {
			v := impl.Voters{Weights: []int{1, 2, 4}}
			for _, place := range places {
				v.Proxies = append(v.Proxies, proxies[place])
			}
			if areVoters(v) {
				valid++
			}
			checkVoters(t, v)
		})
	}
	if valid != 16 {
		t.Error("wrong test:", valid)
	}
}

func TestInvalidProxies(t *testing.T) {
	weights := someWeights()[:4]
	for name, list := range map[string][]impl.Proxy{
		"descending":                         {{From: 1, To: 3}, {From: 0, To: 3}},
		"the last two descend":               {{From: 0, To: 3}, {From: 2, To: 3}, {From: 1, To: 3}},
		"the first one is the last":          {{From: 2, To: 3}, {From: 0, To: 3}, {From: 1, To: 3}},
		"two from the same voter":            {{From: 0, To: 2}, {From: 0, To: 3}},
		"the same one twice":                 {{From: 1, To: 2}, {From: 1, To: 2}},
		"two from the same voter, apart":     {{From: 0, To: 2}, {From: 1, To: 2}, {From: 0, To: 3}},
		"two from the same voter, a circle":  {{From: 0, To: 1}, {From: 1, To: 0}, {From: 1, To: 2}},
		"two from the same voter, no circle": {{From: 0, To: 1}, {From: 1, To: 2}, {From: 1, To: 0}},
		"to itself":                          {{From: 0, To: 0}},
		"to itself, behind others":           {{From: 0, To: 1}, {From: 3, To: 3}},
		"in a circle of two":                 {{From: 1, To: 2}, {From: 2, To: 1}},
	} {
		checkNoVoters(t, name, impl.Voters{Weights: weights, Proxies: list})
	}
	for _, beyond := range votersBeyond(4) {
		for _, list := range [][]impl.Proxy{
			{{From: beyond, To: 0}}, {{From: 0, To: beyond}}, {{From: beyond, To: beyond}}, {{From: beyond, To: beyond - 1}},
			{{From: 0, To: 1}, {From: beyond, To: 1}}, {{From: beyond, To: 1}, {From: 0, To: 1}},
			{{From: 0, To: 1}, {From: 1, To: beyond}}, {{From: 3, To: beyond}},
		} {
			checkNoVoters(t, "a voter who does not occur", impl.Voters{Weights: weights, Proxies: list})
		}
	}
}

func TestVotersBeyond(t *testing.T) {
	for _, v := range []impl.Voters{letting(), letting(-1), letting(1, 2, -1), letting(-1, 0, 1), letting(chained(12, membersFrom(0, 12)...)...)} {
		n := len(v.Weights)
		for _, beyond := range votersBeyond(n) {
			checkVoter(t, v, beyond)
			checkRevoke(t, v, beyond)
			checkGive(t, v, beyond, beyond)
			for voter := range n {
				checkGive(t, v, beyond, voter)
				checkGive(t, v, voter, beyond)
			}
			checkPresent(t, v, []int{beyond})
			checkPresent(t, v, append(membersFrom(0, n), beyond))
			checkPresent(t, v, append([]int{beyond}, membersFrom(0, n)...))
		}
	}
}

func TestGiveProxy(t *testing.T) {
	none := impl.Voters{}
	for _, x := range []struct {
		name     string
		v        impl.Voters
		from, to int
		want     impl.Voters
	}{
		{"the first one", letting(-1, -1), 0, 1, letting(1, -1)},
		{"to a voter who does not occur", letting(-1, 0, 1), 0, 3, none},
		{"in front", letting(-1, 3, 3, -1), 0, 1, letting(1, 3, 3, -1)},
		{"between", letting(3, -1, 3, -1), 1, 2, letting(3, 2, 3, -1)},
		{"at the end", letting(1, -1, -1, -1), 3, 1, letting(1, -1, -1, 1)},
		{"instead of one", letting(1, -1, -1), 0, 2, letting(2, -1, -1)},
		{"instead of the middle one", letting(3, 3, 3, -1), 1, 2, letting(3, 2, 3, -1)},
		{"instead of the last one", letting(3, 3, 3, -1), 2, 0, letting(3, 3, 0, -1)},
		{"the same one again", letting(1, 2, -1), 0, 1, letting(1, 2, -1)},
		{"a chain becomes longer", letting(1, -1, -1), 1, 2, letting(1, 2, -1)},
		{"to itself", letting(-1, -1), 1, 1, none},
		{"to itself instead of another one", letting(1, -1), 0, 0, none},
		{"a circle of two", letting(1, -1), 1, 0, none},
		{"a circle of three", letting(1, 2, -1), 2, 0, none},
		{"a circle instead of a chain", letting(1, 2, -1), 1, 0, none},
		{"the old one led elsewhere", letting(1, -1, -1, 0), 0, 2, letting(2, -1, -1, 0)},
		{"the old one led to the new one", letting(1, 2, -1), 0, 2, letting(2, 2, -1)},
		{"the old one was on the way of the new one", letting(1, 2, 3, -1, 0), 1, 3, letting(1, 3, 3, -1, 0)},
		{"a circle already", letting(1, 0, -1), 2, 0, none},
		{"one that opens a circle", letting(1, 0, -1), 0, 2, none},
		{"one instead of that to itself", letting(0, -1), 0, 1, none},
	} {
		got, ok := impl.GiveProxy(x.v, x.from, x.to)
		if ok != (len(x.want.Weights) > 0) || !sameVoters(got, x.want) {
			t.Errorf("%s: %v, %v", x.name, got, ok)
		}
		checkGives(t, x.v)
	}
}

func TestGiveProxyFailsExactlyIfItClosesACircle(t *testing.T) {
	closed, instead := 0, 0
	eachTuple(4, -1, 3, func(to []int) {
		v := letting(to...)
		if !areVoters(v) {
			return
		}
		for from, old := range to {
			for other := range to {
				// There is one if one comes from the end of the new Proxy to its beginning, on a way
				// on which the old one cannot lie.
				circle := other == from || reachable(v)[other][from]
				if got, ok := impl.GiveProxy(v, from, other); ok == circle {
					t.Errorf("giving %d to %d instead of %d in %v: %v, %v", from, other, old, v, got, ok)
				}
				if circle && old == -1 {
					closed++
				}
				if circle && old != -1 {
					instead++
				}
			}
		}
	})
	if closed == 0 || instead == 0 {
		t.Error("wrong test:", closed, instead)
	}
}

func TestRevokeProxy(t *testing.T) {
	for _, x := range []struct {
		name string
		v    impl.Voters
		from int
		want impl.Voters
	}{
		{"the only one", letting(1, -1), 0, letting(-1, -1)},
		{"at the start of a chain", letting(1, 2, 3, -1), 0, letting(-1, 2, 3, -1)},
		{"in the middle of a chain", letting(1, 2, 3, -1), 1, letting(1, -1, 3, -1)},
		{"at the end of a chain", letting(1, 2, 3, -1), 2, letting(1, 2, -1, -1)},
		{"at the start of a chain down", letting(-1, 0, 1, 2), 3, letting(-1, 0, 1, -1)},
		{"at the end of a chain down", letting(-1, 0, 1, 2), 1, letting(-1, -1, 1, 2)},
		{"where chains meet", letting(2, 2, 3, -1), 2, letting(2, 2, -1, -1)},
		{"of a holder", letting(1, 2, 3, -1), 3, impl.Voters{}},
		{"among none", letting(-1, -1), 0, impl.Voters{}},
		{"in a circle", letting(1, 0), 0, impl.Voters{}},
		{"to itself", letting(0), 0, impl.Voters{}},
	} {
		got, ok := impl.RevokeProxy(x.v, x.from)
		if ok != (len(x.want.Weights) > 0) || !sameVoters(got, x.want) {
			t.Errorf("%s: %v, %v", x.name, got, ok)
		}
		for from := -1; from <= len(x.v.Weights); from++ {
			checkRevoke(t, x.v, from)
		}
	}
}

func TestGivenProxiesAreRevoked(t *testing.T) {
	eachTuple(4, -1, 3, func(to []int) {
		v := letting(to...)
		for from := range to {
			for other := range to {
				more, ok := impl.GiveProxy(v, from, other)
				if !ok || to[from] != -1 {
					continue
				}
				if less, fine := impl.RevokeProxy(more, from); !fine || !sameVoters(less, v) {
					t.Errorf("revoking what was given to %v: %v, %v", v, less, fine)
				}
				checkVoters(t, more)
			}
		}
	})
}

func TestWeightPresent(t *testing.T) {
	v := letting(2, 2, 4, 5, -1, -1, -1)
	for _, x := range []struct {
		name    string
		present []int
		weight  int
		fine    bool
	}{
		{"nobody", nil, 0, true},
		{"everybody", membersFrom(0, 7), 127, true},
		{"the holders alone", []int{4, 5, 6}, 127, true},
		{"one holder", []int{4}, 23, true},
		{"two holders", []int{5, 6}, 104, true},
		{"nobody who is a holder", []int{0, 1, 2, 3}, 0, true},
		{"the first one, who is no holder", []int{0}, 0, true},
		{"one in the middle of a chain", []int{2}, 0, true},
		{"one holder and others", []int{0, 3, 4}, 23, true},
		{"descending", []int{5, 4}, 0, false},
		{"descending at the end", []int{0, 5, 4}, 0, false},
		{"the first one is the greatest", []int{6, 4, 5}, 0, false},
		{"a holder twice", []int{4, 4}, 0, false},
		{"another one twice", []int{0, 0, 4}, 0, false},
		{"twice, apart", []int{4, 5, 4}, 0, false},
		{"one below", []int{-1, 4}, 0, false},
		{"one beyond", []int{4, 7}, 0, false},
		{"everybody twice", slices.Repeat(membersFrom(0, 7), 2), 0, false},
	} {
		if got, ok := impl.WeightPresent(v, x.present); got != x.weight || ok != x.fine {
			t.Errorf("%s: %d, %v", x.name, got, ok)
		}
		checkPresent(t, v, x.present)
	}
}

func TestEveryListOfVotersPresent(t *testing.T) {
	eachTuple(4, -1, 3, func(to []int) {
		v := letting(to...)
		eachSubset(-1, 4, func(present []int) { checkPresent(t, v, present) })
	})
	for _, v := range []impl.Voters{letting(1, 2, -1), letting(-1, -1, 0), letting(-1, -1, -1)} {
		for n := range 5 {
			eachTuple(n, -1, 3, func(present []int) { checkPresent(t, v, present) })
		}
	}
	v := letting(11, 0, 0, 2, -1, 4, 4, -1, 7, 8, 8, -1)
	eachSubset(0, 11, func(present []int) { checkPresent(t, v, present) })
}

func TestCastVotes(t *testing.T) {
	v := letting(2, 2, 4, 5, -1, -1, -1) // 4 holds 23, 5 holds 40, 6 holds 64
	for _, x := range []struct {
		name  string
		votes []int
		want  []int
	}{
		{"all yes", []int{0, 0, 0, 0, 0, 0, 0}, []int{127, 0, 0, 0}},
		{"all no", []int{1, 1, 1, 1, 1, 1, 1}, []int{0, 127, 0, 0}},
		{"all abstain", []int{2, 2, 2, 2, 2, 2, 2}, []int{0, 0, 127, 0}},
		{"no vote at all", []int{3, 3, 3, 3, 3, 3, 3}, []int{0, 0, 0, 127}},
		{"the holders alone vote", []int{3, 3, 3, 3, 0, 1, 2}, []int{23, 40, 64, 0}},
		{"the others vote as well", []int{0, 1, 2, 0, 1, 2, 3}, []int{0, 23, 40, 64}},
		{"the others alone vote", []int{0, 1, 2, 0, 3, 3, 3}, []int{0, 0, 0, 127}},
		{"two holders vote alike", []int{1, 1, 1, 1, 0, 3, 0}, []int{87, 0, 0, 40}},
		{"too short", []int{0, 0, 0, 0, 0, 0}, nil},
		{"too long", []int{0, 0, 0, 0, 0, 0, 0, 0}, nil},
		{"none", nil, nil},
		{"a holder below", []int{0, 0, 0, 0, -1, 0, 0}, nil},
		{"a holder beyond", []int{0, 0, 0, 0, 0, 0, 4}, nil},
		{"another one below", []int{-1, 0, 0, 0, 0, 0, 0}, nil},
		{"another one beyond", []int{0, 0, 0, 4, 0, 0, 0}, nil},
	} {
		if got, ok := impl.CastVotes(v, x.votes); !slices.Equal(got, x.want) || ok != (x.want != nil) {
			t.Errorf("%s: %v, %v", x.name, got, ok)
		}
		checkCast(t, v, x.votes)
	}
	for _, vote := range []int{math.MinInt, -2, -1, 4, 5, 12, math.MaxInt} {
		for voter := range v.Weights {
			votes := make([]int, 7)
			votes[voter] = vote
			checkCast(t, v, votes)
		}
	}
	checkCast(t, v, make([]int, 100000))
}

func TestVotesOfVotersWithoutWeight(t *testing.T) {
	v := impl.Voters{Weights: make([]int, 5), Proxies: []impl.Proxy{{From: 0, To: 1}, {From: 3, To: 1}}}
	checkVoters(t, v)
	if got, ok := impl.CastVotes(v, []int{0, 1, 2, 3, 0}); !slices.Equal(got, []int{0, 0, 0, 0}) || !ok {
		t.Error("votes without weight:", got, ok)
	}
	if held, ok := impl.HeldWeights(v); !slices.Equal(held, make([]int, 5)) || !ok {
		t.Error("held without weight:", held, ok)
	}
	if direct, ok := impl.DirectVotes(v); !slices.Equal(direct, []int{1, 2, 4}) || !ok {
		t.Error("direct votes without weight:", direct, ok)
	}
	v.Weights[0] = 100
	if held, ok := impl.HeldWeights(v); !slices.Equal(held, []int{0, 100, 0, 0, 0}) || !ok {
		t.Error("held by a voter without weight:", held, ok)
	}
	checkCast(t, v, []int{0, 1, 2, 3, 0})
	checkPresent(t, v, []int{1})
}

func TestEveryListOfVotesCast(t *testing.T) {
	eachTuple(3, -1, 2, func(to []int) {
		v := letting(to...)
		for n := 2; n <= 4; n++ {
			eachTuple(n, -1, 4, func(votes []int) { checkCast(t, v, votes) })
		}
	})
	for _, v := range []impl.Voters{letting(4, 4, -1, 2, -1), letting(-1, 0, 1, 2, 3), letting(-1, -1, -1, -1, -1)} {
		eachTuple(5, 0, 3, func(votes []int) { checkCast(t, v, votes) })
	}
}

func TestManyVoters(t *testing.T) {
	valid := 0
	for start := range 3000 {
		next := drawsFrom(start)
		to := alone(6 + next(7))
		for range next(20) {
			from, other := next(len(to)), next(len(to))
			got, ok := impl.GiveProxy(letting(to...), from, other)
			checkGive(t, letting(to...), from, other)
			if ok {
				to[from] = other
			}
			// Some may take a Proxy that closes a circle.
			if start%7 == 0 {
				to[from] = other
			}
			if ok && !sameVoters(got, letting(to...)) {
				t.Errorf("giving %d to %d: %v", from, other, got)
			}
		}
		v := letting(to...)
		checkVoters(t, v)
		present, votes := []int{}, []int{}
		for voter := range to {
			if next(2) == 0 {
				present = append(present, voter)
			}
			votes = append(votes, next(4))
		}
		checkPresent(t, v, present)
		checkCast(t, v, votes)
		if areVoters(v) {
			valid++
		}
	}
	if valid < 2000 || valid == 3000 {
		t.Error("wrong test:", valid)
	}
}

// roomyVoters returns Voters in lists with room, and with something in that room.
func roomyVoters() impl.Voters {
	v := letting(1, 4, -1, 2, -1, 0)
	v.Weights = append(v.Weights, -5, 101, 7)[:6]
	v.Proxies = append(v.Proxies, impl.Proxy{From: 4, To: 0}, impl.Proxy{From: 9, To: 9})[:4]
	return v
}

func TestNothingBeyondTheLengthInVoters(t *testing.T) {
	for weights := range 8 {
		for proxies := range 6 {
			v := roomyVoters()
			v.Weights, v.Proxies = v.Weights[:weights], v.Proxies[:proxies]
			checkVoters(t, v)
			checkGives(t, v)
			list := []int{0, 1, 2, 3, 3, 9}
			for n := range list {
				checkPresent(t, v, list[:n])
				checkCast(t, v, list[:n])
			}
		}
	}
}

// votersResults are what the functions of proxies return.
type votersResults struct {
	voters []impl.Voters
	lists  [][]int
}

// resultsOfVoters calls all functions of proxies and returns what they return.
func resultsOfVoters(v impl.Voters, present []int, votes []int) votersResults {
	r := votersResults{}
	impl.AreVoters(v)
	impl.WeightPresent(v, present)
	for from := -1; from <= len(v.Weights); from++ {
		impl.HolderFor(v, from)
		impl.ProxySteps(v, from)
		less, _ := impl.RevokeProxy(v, from)
		r.voters = append(r.voters, less)
		for to := -1; to <= len(v.Weights); to++ {
			more, _ := impl.GiveProxy(v, from, to)
			r.voters = append(r.voters, more)
		}
	}
	held, _ := impl.HeldWeights(v)
	cast, _ := impl.CastVotes(v, votes)
	direct, _ := impl.DirectVotes(v)
	r.lists = append(r.lists, held, cast, direct)
	return r
}

// copiedVoters returns copies of all results.
func (r votersResults) copiedVoters() votersResults {
	c := votersResults{}
	for _, v := range r.voters {
		c.voters = append(c.voters, impl.Voters{Weights: slices.Clone(v.Weights), Proxies: slices.Clone(v.Proxies)})
	}
	for _, list := range r.lists {
		c.lists = append(c.lists, slices.Clone(list))
	}
	return c
}

// checkSame checks that results are still, or again, those of a copy, from a place on.
func (r votersResults) checkSame(t *testing.T, what string, want votersResults, voters int, lists int) {
	t.Helper()
	if !slices.EqualFunc(r.voters[voters:], want.voters[voters:], sameVoters) || !slices.EqualFunc(r.lists[lists:], want.lists[lists:], slices.Equal) {
		t.Errorf("%s: %v; want %v", what, r, want)
	}
}

// overwriteNumbers writes over a list, even over what lies beyond its length.
func overwriteNumbers(list []int) {
	for i := range list[:cap(list)] {
		list[:cap(list)][i] = -7
	}
}

func TestProxyFunctionsShareNothing(t *testing.T) {
	v, present, votes := roomyVoters(), []int{0, 2, 4, 9, 9}[:3], []int{3, 0, 1, 2, 0, 1, 9, 9}[:6]
	weights, proxies := slices.Clone(v.Weights[:9]), slices.Clone(v.Proxies[:6])
	r := resultsOfVoters(v, present, votes)
	kept := r.copiedVoters()
	checkArguments := func(what string) {
		if !slices.Equal(v.Weights[:9], weights) || !slices.Equal(v.Proxies[:6], proxies) {
			t.Errorf("%s: %v, %v", what, v.Weights[:9], v.Proxies[:6])
		}
		if !slices.Equal(present[:5], []int{0, 2, 4, 9, 9}) || !slices.Equal(votes[:8], []int{3, 0, 1, 2, 0, 1, 9, 9}) {
			t.Errorf("%s: %v, %v", what, present[:5], votes[:8])
		}
	}
	checkArguments("changed")
	for i, result := range r.voters {
		r.checkSame(t, "shared with another result", kept, i, len(r.lists))
		overwriteNumbers(result.Weights)
		for j := range result.Proxies[:cap(result.Proxies)] {
			result.Proxies[:cap(result.Proxies)][j] = impl.Proxy{From: -7, To: -7}
		}
	}
	for i, list := range r.lists {
		r.checkSame(t, "shared with another result", kept, len(r.voters), i)
		overwriteNumbers(list)
	}
	checkArguments("shared with a result")
	resultsOfVoters(v, present, votes).checkSame(t, "not repeated", kept, 0, 0)
}
