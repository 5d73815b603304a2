package tests

import (
	"math"
	"regexp"
	"strconv"
	"strings"
	"testing"

	"loop.example/g00909/impl"
)

// votes returns a Tally.
func votes(yes int, no int, abstain int) impl.Tally {
	return impl.Tally{Yes: yes, No: no, Abstain: abstain}
}

// needs are all needs.
func needs() []int { return []int{impl.NeedMajority, impl.NeedTwoThirds, impl.NeedAll} }

// numbersBeyond are numbers that are no numbers of votes.
func numbersBeyond() []int {
	return []int{math.MinInt, math.MinInt + 1, -1000, -1, 1001, 2000, 2001, math.MaxInt - 1, math.MaxInt}
}

// needsBeyond are numbers that are no needs.
func needsBeyond() []int { return []int{math.MinInt, -3, -2, -1, 0, 4, 5, 1000, math.MaxInt} }

// isTally reports whether the fields of a Tally are numbers of votes.
func isTally(v impl.Tally) bool {
	for _, n := range []int{v.Yes, v.No, v.Abstain} {
		if n <= -1 || n >= 1001 {
			return false
		}
	}
	return true
}

// adopts reports whether so many votes adopt a motion with a need.
func adopts(need int, yes int, no int) bool {
	cast := yes + no
	switch need {
	case impl.NeedMajority:
		return yes-no >= 1
	case impl.NeedTwoThirds:
		twoThirds := (2*cast + 2) / 3 // rounded up
		return cast >= 1 && yes >= twoThirds
	}
	return cast >= 1 && yes == cast
}

// divisorOf returns the greatest common divisor of two numbers, not both 0.
func divisorOf(a int, b int) int {
	if a == 0 {
		return b
	}
	return divisorOf(b%a, a)
}

// checkNeed checks what the functions tell of a need and a valid Tally.
func checkNeed(t *testing.T, need int, v impl.Tally) {
	t.Helper()
	if got, ok := impl.IsAdopted(need, v); !ok || got != adopts(need, v.Yes, v.No) {
		t.Fatalf("need %d with %v: adopted %v, %v", need, v, got, ok)
	}
	got, ok := impl.ChairMatters(need, v)
	if v.Yes == 1000 || v.No == 1000 {
		if got || ok {
			t.Fatalf("need %d with %v: the chair matters %v, %v", need, v, got, ok)
		}
		return
	}
	matters := adopts(need, v.Yes+1, v.No) && !adopts(need, v.Yes, v.No+1)
	if !ok || got != matters {
		t.Fatalf("need %d with %v: the chair matters %v, %v", need, v, got, ok)
	}
}

// checkTally checks what the functions tell of a valid Tally.
func checkTally(t *testing.T, v impl.Tally) {
	t.Helper()
	if !impl.IsValidTally(v) {
		t.Fatalf("%v is not valid", v)
	}
	strictest := 0
	for _, need := range needs() {
		checkNeed(t, need, v)
		if adopts(need, v.Yes, v.No) {
			strictest = need
		}
	}
	if got, ok := impl.StrictestNeed(v); !ok || got != strictest {
		t.Fatalf("strictest need with %v: %d, %v", v, got, ok)
	}
	over, under, ok := impl.YesShare(v)
	cast := v.Yes + v.No
	if cast == 0 {
		if over != 0 || under != 0 || ok {
			t.Fatalf("share of %v: %d/%d, %v", v, over, under, ok)
		}
		return
	}
	if !ok || over < 0 || under < 1 || over*cast != under*v.Yes || divisorOf(over, under) != 1 {
		t.Fatalf("share of %v: %d/%d, %v", v, over, under, ok)
	}
}

// checkNoTally checks that all functions fail for a Tally that is not valid.
func checkNoTally(t *testing.T, v impl.Tally) {
	t.Helper()
	if impl.IsValidTally(v) {
		t.Errorf("%v is valid", v)
	}
	for _, need := range append(needs(), needsBeyond()...) {
		if got, ok := impl.IsAdopted(need, v); got || ok {
			t.Errorf("need %d with %v: adopted %v, %v", need, v, got, ok)
		}
		if got, ok := impl.ChairMatters(need, v); got || ok {
			t.Errorf("need %d with %v: the chair matters %v, %v", need, v, got, ok)
		}
	}
	if over, under, ok := impl.YesShare(v); over != 0 || under != 0 || ok {
		t.Errorf("share of %v: %d/%d, %v", v, over, under, ok)
	}
	if got, ok := impl.StrictestNeed(v); got != 0 || ok {
		t.Errorf("strictest need with %v: %d, %v", v, got, ok)
	}
	if got, ok := impl.TallyText(v); got != "" || ok {
		t.Errorf("text of %v: %q, %v", v, got, ok)
	}
	// The other Tally could make up for what is wrong with this one.
	for _, other := range []impl.Tally{{}, votes(1, 1, 1), votes(1000, 1000, 1000), v, votes(-v.Yes, -v.No, -v.Abstain)} {
		checkSum(t, v, other)
		checkSum(t, other, v)
	}
}

// checkSum checks the sum of two Tallies of any kind.
func checkSum(t *testing.T, a impl.Tally, b impl.Tally) {
	t.Helper()
	sum := votes(a.Yes+b.Yes, a.No+b.No, a.Abstain+b.Abstain)
	valid := isTally(a) && isTally(b) && isTally(sum)
	if !valid {
		sum = impl.Tally{}
	}
	if got, ok := impl.AddTallies(a, b); ok != valid || got != sum {
		t.Errorf("%v and %v: %v, %v", a, b, got, ok)
	}
}

func TestConstantsOfVotes(t *testing.T) {
	if impl.MaxVotes != 1000 {
		t.Error(impl.MaxVotes)
	}
}

func TestValidTallies(t *testing.T) {
	if !impl.IsValidTally(impl.Tally{}) {
		t.Error("no votes at all")
	}
	fields := append(numbersBeyond(), 0, 1, 2, 500, 999, 1000)
	for _, yes := range fields {
		for _, no := range fields {
			for _, abstain := range fields {
				v := votes(yes, no, abstain)
				if isTally(v) {
					checkTally(t, v)
				} else {
					checkNoTally(t, v)
				}
			}
		}
	}
}

func TestEachFieldOfTallies(t *testing.T) {
	for n := -3; n <= 1003; n++ {
		for _, v := range []impl.Tally{votes(n, 0, 0), votes(0, n, 0), votes(0, 0, n), votes(n, 1000, 1000), votes(1000, n, 1000), votes(1000, 1000, n)} {
			if got := impl.IsValidTally(v); got != (n >= 0 && n <= 1000) {
				t.Errorf("%v is valid: %v", v, got)
			}
		}
	}
}

func TestIsAdopted(t *testing.T) {
	for _, x := range []struct {
		name                     string
		vote                     impl.Tally
		majority, twoThirds, all bool
	}{
		{"no vote at all", votes(0, 0, 0), false, false, false},
		{"one abstains", votes(0, 0, 1), false, false, false},
		{"all abstain", votes(0, 0, 1000), false, false, false},
		{"one Yes", votes(1, 0, 0), true, true, true},
		{"one Yes against many who abstain", votes(1, 0, 1000), true, true, true},
		{"one No", votes(0, 1, 0), false, false, false},
		{"one No and many who abstain", votes(0, 1, 1000), false, false, false},
		{"one of each", votes(1, 1, 0), false, false, false},
		{"as many Yes as No", votes(5, 5, 0), false, false, false},
		{"as many Yes as No and one who abstains", votes(5, 5, 1), false, false, false},
		{"one more Yes", votes(6, 5, 0), true, false, false},
		{"one fewer Yes", votes(4, 5, 0), false, false, false},
		{"all 1000 and 999 against them", votes(1000, 999, 1000), true, false, false},
		{"all 1000 on both sides", votes(1000, 1000, 0), false, false, false},
		{"999 and all 1000 against them", votes(999, 1000, 0), false, false, false},
		{"exactly two thirds", votes(4, 2, 0), true, true, false},
		{"one Yes less than two thirds of 6", votes(3, 3, 0), false, false, false},
		{"one Yes more than two thirds of 6", votes(5, 1, 0), true, true, false},
		{"two thirds of 3", votes(2, 1, 0), true, true, false},
		{"less than two thirds of 4", votes(2, 2, 0), false, false, false},
		{"more than two thirds of 4", votes(3, 1, 0), true, true, false},
		{"less than two thirds of 5", votes(3, 2, 0), true, false, false},
		{"more than two thirds of 5", votes(4, 1, 0), true, true, false},
		{"less than two thirds of 7", votes(4, 3, 0), true, false, false},
		{"more than two thirds of 7", votes(5, 2, 0), true, true, false},
		{"two thirds of those who voted only", votes(4, 2, 3), true, true, false},
		{"exactly two thirds of 1500", votes(1000, 500, 0), true, true, false},
		{"a bit less than two thirds of 1501", votes(1000, 501, 0), true, false, false},
		{"a bit less than two thirds of 1499", votes(999, 500, 0), true, false, false},
		{"a bit more than two thirds of 1499", votes(1000, 499, 0), true, true, false},
		{"one No of many", votes(1000, 1, 0), true, true, false},
		{"no No of many", votes(1000, 0, 0), true, true, true},
		{"only No", votes(0, 1000, 0), false, false, false},
	} {
		for i, want := range []bool{x.majority, x.twoThirds, x.all} {
			if got, ok := impl.IsAdopted(i+1, x.vote); !ok || got != want {
				t.Errorf("%s, need %d: %v, %v", x.name, i+1, got, ok)
			}
		}
	}
}

func TestEveryTally(t *testing.T) {
	for yes := range 1001 {
		for no := range 1001 {
			checkTally(t, votes(yes, no, (yes*7+no*13)%1001))
		}
	}
}

func TestThoseWhoAbstainCastNoVote(t *testing.T) {
	for yes := range 13 {
		for no := range 13 {
			for abstain := range 40 {
				checkTally(t, votes(yes, no, abstain))
			}
			checkTally(t, votes(yes, no, 1000))
		}
	}
}

func TestNeedsBeyond(t *testing.T) {
	for _, need := range needsBeyond() {
		for _, v := range []impl.Tally{{}, votes(1, 0, 0), votes(0, 1, 0), votes(5, 5, 0), votes(999, 0, 9), votes(1000, 0, 0)} {
			if got, ok := impl.IsAdopted(need, v); got || ok {
				t.Errorf("need %d with %v: adopted %v, %v", need, v, got, ok)
			}
			if got, ok := impl.ChairMatters(need, v); got || ok {
				t.Errorf("need %d with %v: the chair matters %v, %v", need, v, got, ok)
			}
		}
		for _, n := range append(numbersBeyond(), 0, 1, 2, 500, 1000) {
			if got, ok := impl.YesNeeded(need, n); got != 0 || ok {
				t.Errorf("need %d, %d No: %d, %v", need, n, got, ok)
			}
			if got, ok := impl.MostNo(need, n); got != 0 || ok {
				t.Errorf("need %d, %d Yes: %d, %v", need, n, got, ok)
			}
		}
	}
}

func TestNumbersOfVotesBeyond(t *testing.T) {
	for _, need := range needs() {
		for _, n := range numbersBeyond() {
			if got, ok := impl.YesNeeded(need, n); got != 0 || ok {
				t.Errorf("need %d, %d No: %d, %v", need, n, got, ok)
			}
			if got, ok := impl.MostNo(need, n); got != 0 || ok {
				t.Errorf("need %d, %d Yes: %d, %v", need, n, got, ok)
			}
		}
	}
}

func TestYesNeeded(t *testing.T) {
	for _, x := range []struct{ need, no, yes int }{
		{impl.NeedMajority, 0, 1}, {impl.NeedMajority, 1, 2}, {impl.NeedMajority, 5, 6},
		{impl.NeedMajority, 998, 999}, {impl.NeedMajority, 999, 1000}, {impl.NeedMajority, 1000, 1001},
		{impl.NeedTwoThirds, 0, 1}, {impl.NeedTwoThirds, 1, 2}, {impl.NeedTwoThirds, 5, 10},
		{impl.NeedTwoThirds, 500, 1000}, {impl.NeedTwoThirds, 501, 1002}, {impl.NeedTwoThirds, 999, 1998}, {impl.NeedTwoThirds, 1000, 2000},
		{impl.NeedAll, 0, 1},
	} {
		if got, ok := impl.YesNeeded(x.need, x.no); !ok || got != x.yes {
			t.Errorf("need %d, %d No: %d, %v", x.need, x.no, got, ok)
		}
	}
	for no := 1; no <= 1000; no++ {
		if got, ok := impl.YesNeeded(impl.NeedAll, no); got != 0 || ok {
			t.Errorf("need of all, %d No: %d, %v", no, got, ok)
		}
	}
}

// checkLeastYes checks that a motion is adopted with yes votes and with more of them, and with no
// fewer ones.
func checkLeastYes(t *testing.T, need int, no int, yes int) {
	t.Helper()
	for n := range 1001 {
		if got, ok := impl.IsAdopted(need, votes(n, no, 0)); !ok || got != (n >= yes) {
			t.Fatalf("need %d: %d Yes are needed against %d No, and with %d it is %v, %v", need, yes, no, n, got, ok)
		}
	}
}

func TestVotesThatAreNeeded(t *testing.T) {
	for _, need := range needs() {
		for no := range 1001 {
			yes, ok := impl.YesNeeded(need, no)
			if !ok {
				checkLeastYes(t, need, no, 1001)
				continue
			}
			checkLeastYes(t, need, no, yes)
			if !adopts(need, yes, no) || adopts(need, yes-1, no) {
				t.Fatalf("need %d, %d No: %d", need, no, yes)
			}
		}
	}
}

func TestMostNo(t *testing.T) {
	for _, x := range []struct{ need, yes, no int }{
		{impl.NeedMajority, 1, 0}, {impl.NeedMajority, 2, 1}, {impl.NeedMajority, 10, 9}, {impl.NeedMajority, 1000, 999},
		{impl.NeedTwoThirds, 1, 0}, {impl.NeedTwoThirds, 2, 1}, {impl.NeedTwoThirds, 3, 1}, {impl.NeedTwoThirds, 10, 5},
		{impl.NeedTwoThirds, 999, 499}, {impl.NeedTwoThirds, 1000, 500},
		{impl.NeedAll, 1, 0}, {impl.NeedAll, 2, 0}, {impl.NeedAll, 1000, 0},
	} {
		if got, ok := impl.MostNo(x.need, x.yes); !ok || got != x.no {
			t.Errorf("need %d, %d Yes: %d, %v", x.need, x.yes, got, ok)
		}
	}
	for _, need := range needs() {
		if got, ok := impl.MostNo(need, 0); got != 0 || ok {
			t.Errorf("need %d without any Yes: %d, %v", need, got, ok)
		}
	}
}

func TestMostNoOfEveryNumber(t *testing.T) {
	for _, need := range needs() {
		for yes := range 1001 {
			most, ok := impl.MostNo(need, yes)
			if !ok {
				most = -1
			}
			for n := range 1001 {
				if got, fits := impl.IsAdopted(need, votes(yes, n, 0)); !fits || got != (n <= most) {
					t.Fatalf("need %d: at most %d No against %d Yes, %v, and with %d it is %v, %v", need, most, yes, ok, n, got, fits)
				}
			}
		}
	}
}

func TestAddTallies(t *testing.T) {
	for _, x := range []struct {
		name    string
		a, b    impl.Tally
		sum     impl.Tally
		succeed bool
	}{
		{"nothing", votes(0, 0, 0), votes(0, 0, 0), votes(0, 0, 0), true},
		{"nothing more", votes(4, 2, 1), votes(0, 0, 0), votes(4, 2, 1), true},
		{"each field", votes(4, 2, 1), votes(10, 20, 30), votes(14, 22, 31), true},
		{"exactly MaxVotes in each field", votes(999, 500, 0), votes(1, 500, 1000), votes(1000, 1000, 1000), true},
		{"one Yes too many", votes(999, 500, 0), votes(2, 500, 1000), impl.Tally{}, false},
		{"one No too many", votes(999, 500, 0), votes(1, 501, 1000), impl.Tally{}, false},
		{"one too many who abstain", votes(999, 500, 1), votes(1, 500, 1000), impl.Tally{}, false},
		{"a Yes below 0 that the other makes up for", votes(-1, 0, 0), votes(2, 0, 0), impl.Tally{}, false},
		{"a No below 0 that the other makes up for", votes(0, 2, 0), votes(0, -1, 0), impl.Tally{}, false},
		{"too many who abstain and the other makes up for it", votes(0, 0, 1001), votes(0, 0, -1), impl.Tally{}, false},
		{"a sum beyond int", votes(math.MaxInt, 0, 0), votes(math.MinInt, 0, 0), impl.Tally{}, false},
		{"a sum that wraps to 0", votes(math.MinInt, 0, 0), votes(math.MinInt, 0, 0), impl.Tally{}, false},
	} {
		if got, ok := impl.AddTallies(x.a, x.b); got != x.sum || ok != x.succeed {
			t.Errorf("%s: %v, %v", x.name, got, ok)
		}
	}
}

func TestEverySumOfFields(t *testing.T) {
	for a := -2; a <= 1002; a++ {
		for _, b := range []int{-2, -1, 0, 1, 2, 499, 500, 501, 998, 999, 1000, 1001, 1000 - a, 1001 - a, 999 - a} {
			checkSum(t, votes(a, 3, 4), votes(b, 5, 6))
			checkSum(t, votes(3, a, 4), votes(5, b, 6))
			checkSum(t, votes(3, 4, a), votes(5, 6, b))
		}
	}
}

func TestYesShare(t *testing.T) {
	for _, x := range []struct {
		vote        impl.Tally
		over, under int
	}{
		{votes(0, 1, 0), 0, 1}, {votes(0, 6, 3), 0, 1}, {votes(0, 1000, 0), 0, 1},
		{votes(1, 0, 0), 1, 1}, {votes(6, 0, 3), 1, 1}, {votes(1000, 0, 1000), 1, 1},
		{votes(1, 1, 0), 1, 2}, {votes(1000, 1000, 0), 1, 2},
		{votes(4, 2, 0), 2, 3}, {votes(4, 2, 6), 2, 3}, {votes(2, 4, 0), 1, 3}, {votes(3, 2, 0), 3, 5}, {votes(6, 9, 0), 2, 5},
		{votes(1000, 999, 0), 1000, 1999}, {votes(999, 1000, 0), 999, 1999}, {votes(1000, 500, 7), 2, 3}, {votes(1, 1000, 0), 1, 1001},
	} {
		if over, under, ok := impl.YesShare(x.vote); !ok || over != x.over || under != x.under {
			t.Errorf("%v: %d/%d, %v", x.vote, over, under, ok)
		}
	}
	for _, abstain := range []int{0, 1, 500, 1000} {
		if over, under, ok := impl.YesShare(votes(0, 0, abstain)); over != 0 || under != 0 || ok {
			t.Errorf("no vote cast: %d/%d, %v", over, under, ok)
		}
	}
}

func TestChairMatters(t *testing.T) {
	for _, x := range []struct {
		name    string
		need    int
		vote    impl.Tally
		matters bool
	}{
		{"the only vote for a majority", impl.NeedMajority, votes(0, 0, 0), true},
		{"the only vote for two thirds", impl.NeedTwoThirds, votes(0, 0, 5), true},
		{"the only vote for all", impl.NeedAll, votes(0, 0, 1000), true},
		{"a tie", impl.NeedMajority, votes(5, 5, 0), true},
		{"one ahead", impl.NeedMajority, votes(6, 5, 0), true},
		{"two ahead", impl.NeedMajority, votes(7, 5, 0), false},
		{"one behind", impl.NeedMajority, votes(4, 5, 0), false},
		{"a tie of 999", impl.NeedMajority, votes(999, 999, 0), true},
		{"one behind 999", impl.NeedMajority, votes(998, 999, 0), false},
		{"exactly two thirds", impl.NeedTwoThirds, votes(4, 2, 0), true},
		{"one below two thirds", impl.NeedTwoThirds, votes(3, 2, 0), true},
		{"two below two thirds", impl.NeedTwoThirds, votes(2, 2, 0), false},
		{"one more than two thirds", impl.NeedTwoThirds, votes(5, 2, 0), true},
		{"two more than two thirds", impl.NeedTwoThirds, votes(6, 2, 0), false},
		{"nobody against it", impl.NeedAll, votes(5, 0, 0), true},
		{"nobody of 999 against it", impl.NeedAll, votes(999, 0, 0), true},
		{"one against it", impl.NeedAll, votes(5, 1, 0), false},
		{"one alone against it", impl.NeedAll, votes(0, 1, 0), false},
	} {
		if got, ok := impl.ChairMatters(x.need, x.vote); !ok || got != x.matters {
			t.Errorf("%s: %v, %v", x.name, got, ok)
		}
	}
	for _, need := range needs() {
		for _, v := range []impl.Tally{votes(1000, 999, 0), votes(999, 1000, 0), votes(1000, 1000, 0), votes(1000, 0, 0), votes(0, 1000, 0)} {
			if got, ok := impl.ChairMatters(need, v); got || ok {
				t.Errorf("need %d with %v: %v, %v", need, v, got, ok)
			}
		}
		// Those who abstain leave room for the chair.
		if _, ok := impl.ChairMatters(need, votes(999, 999, 1000)); !ok {
			t.Errorf("need %d with 999 votes on both sides", need)
		}
	}
}

func TestStrictestNeed(t *testing.T) {
	for _, x := range []struct {
		vote impl.Tally
		need int
	}{
		{votes(0, 0, 0), 0}, {votes(0, 0, 9), 0}, {votes(0, 1, 0), 0}, {votes(1, 1, 0), 0}, {votes(1000, 1000, 0), 0},
		{votes(3, 2, 0), impl.NeedMajority}, {votes(1000, 501, 0), impl.NeedMajority}, {votes(1000, 999, 0), impl.NeedMajority},
		{votes(2, 1, 0), impl.NeedTwoThirds}, {votes(4, 2, 9), impl.NeedTwoThirds}, {votes(1000, 500, 0), impl.NeedTwoThirds}, {votes(1000, 1, 0), impl.NeedTwoThirds},
		{votes(1, 0, 0), impl.NeedAll}, {votes(4, 0, 9), impl.NeedAll}, {votes(1000, 0, 1000), impl.NeedAll},
	} {
		if got, ok := impl.StrictestNeed(x.vote); !ok || got != x.need {
			t.Errorf("%v: %d, %v", x.vote, got, ok)
		}
	}
}

func TestTallyText(t *testing.T) {
	for _, x := range []struct {
		vote impl.Tally
		text string
	}{
		{votes(0, 0, 0), "0 yes, 0 no"},
		{votes(0, 0, 1), "0 yes, 0 no, 1 abstain"},
		{votes(1, 0, 0), "1 yes, 0 no"},
		{votes(0, 1, 0), "0 yes, 1 no"},
		{votes(4, 2, 0), "4 yes, 2 no"},
		{votes(4, 2, 1), "4 yes, 2 no, 1 abstain"},
		{votes(10, 20, 30), "10 yes, 20 no, 30 abstain"},
		{votes(123, 456, 789), "123 yes, 456 no, 789 abstain"},
		{votes(1000, 1000, 1000), "1000 yes, 1000 no, 1000 abstain"},
		{votes(1000, 999, 0), "1000 yes, 999 no"},
	} {
		if got, ok := impl.TallyText(x.vote); !ok || got != x.text {
			t.Errorf("%v: %q, %v", x.vote, got, ok)
		}
		if got, ok := impl.ParseTally(x.text); !ok || got != x.vote {
			t.Errorf("%q: %v, %v", x.text, got, ok)
		}
	}
}

// tallyLine matches the strings that look like the text of a Tally; the numbers may be too great.
var tallyLine = regexp.MustCompile(`\A(0|[1-9][0-9]*) yes, (0|[1-9][0-9]*) no(?:, ([1-9][0-9]*) abstain)?\z`)

// checkParseTally checks what is parsed from a string of any form.
func checkParseTally(t *testing.T, s string) {
	t.Helper()
	var want impl.Tally
	parts := tallyLine.FindStringSubmatch(s)
	valid := parts != nil
	if valid {
		for i, field := range []*int{&want.Yes, &want.No, &want.Abstain} {
			if parts[i+1] != "" {
				n, err := strconv.Atoi(parts[i+1])
				valid = valid && err == nil && n < 1001
				*field = n
			}
		}
	}
	if !valid {
		want = impl.Tally{}
	}
	if got, ok := impl.ParseTally(s); ok != valid || got != want {
		t.Errorf("%.80q: %v, %v", s, got, ok)
	}
}

func TestTalliesAreRecoveredFromTheirText(t *testing.T) {
	fields := []int{0, 1, 2, 9, 10, 11, 90, 99, 100, 101, 110, 500, 909, 990, 999, 1000}
	for _, yes := range fields {
		for _, no := range fields {
			for _, abstain := range fields {
				v := votes(yes, no, abstain)
				text, ok := impl.TallyText(v)
				if got, parsed := impl.ParseTally(text); !ok || !parsed || got != v {
					t.Errorf("%v: %q, %v: %v, %v", v, text, ok, got, parsed)
				}
				checkParseTally(t, text)
			}
		}
	}
}

func TestEveryNumberInATallyText(t *testing.T) {
	for n := range 1200 {
		number := strconv.Itoa(n)
		checkParseTally(t, number+" yes, 7 no")
		checkParseTally(t, "7 yes, "+number+" no")
		checkParseTally(t, "7 yes, 0 no, "+number+" abstain")
	}
}

func TestParseTallyOnChangedText(t *testing.T) {
	for _, text := range []string{"4 yes, 2 no", "10 yes, 0 no", "0 yes, 1000 no, 1 abstain", "999 yes, 12 no, 30 abstain"} {
		eachChange(text, func(s string) { checkParseTally(t, s) })
	}
}

func TestParseTallyOnChangedWords(t *testing.T) {
	for _, text := range []string{"4 yes, 2 no", "4 yes, 2 no, 1 abstain"} {
		words := strings.Split(text, " ")
		for i := range words {
			for _, word := range []string{"", "0", "1", "-1", "yes", "yes,", "no", "no,", "abstain", "abstain,", "x", "and"} {
				changed := append(append(append([]string{}, words[:i]...), word), words[i+1:]...)
				checkParseTally(t, strings.Join(changed, " "))
				more := append(append(append([]string{}, words[:i]...), word), words[i:]...)
				checkParseTally(t, strings.Join(more, " "))
				last := append(append([]string{}, words...), word)
				checkParseTally(t, strings.Join(last, " "))
			}
			fewer := append(append([]string{}, words[:i]...), words[i+1:]...)
			checkParseTally(t, strings.Join(fewer, " "))
			checkParseTally(t, strings.Join(words[:i], " "))
			checkParseTally(t, strings.Join(words[i:], " "))
		}
	}
}

func TestNoTallyText(t *testing.T) {
	many := strings.Repeat("1", 3000)
	for name, s := range map[string]string{
		"nothing": "", "a space": " ", "a line": "\n", "only a number": "4", "two numbers": "4 2", "three numbers": "4 2 1",
		"a Yes with a leading zero": "04 yes, 2 no", "a No with a leading zero": "4 yes, 02 no", "an Abstain with a leading zero": "4 yes, 2 no, 01 abstain",
		"a Yes of two zeros": "00 yes, 2 no", "a No of two zeros": "4 yes, 00 no",
		"a Yes with a plus": "+4 yes, 2 no", "a No with a plus": "4 yes, +2 no", "an Abstain with a plus": "4 yes, 2 no, +1 abstain",
		"a Yes below 0": "-1 yes, 2 no", "a No below 0": "4 yes, -1 no", "an Abstain below 0": "4 yes, 2 no, -1 abstain",
		"a Yes of -0": "-0 yes, 2 no", "a No of -0": "4 yes, -0 no", "an Abstain of -0": "4 yes, 2 no, -0 abstain",
		"a Yes beyond MaxVotes": "1001 yes, 2 no", "a No beyond MaxVotes": "4 yes, 1001 no", "an Abstain beyond MaxVotes": "4 yes, 2 no, 1001 abstain",
		"a Yes beyond int": "18446744073709551620 yes, 2 no", "a No of many digits": "4 yes, " + many + " no", "an Abstain of many digits": "4 yes, 2 no, " + many + " abstain",
		"no Yes": "2 no", "no No": "4 yes", "no No, but a comma": "4 yes, ", "No and Abstain": "2 no, 1 abstain", "Yes and Abstain": "4 yes, 1 abstain",
		"no number of Yes": "yes, 2 no", "no number of No": "4 yes, no", "no number of Abstain": "4 yes, 2 no, abstain", "no word yes": "4, 2 no", "no word no": "4 yes, 2", "no word abstain": "4 yes, 2 no, 1",
		"0 abstain": "4 yes, 2 no, 0 abstain", "a comma behind it": "4 yes, 2 no,", "a comma behind abstain": "4 yes, 2 no, 1 abstain,", "a full stop": "4 yes, 2 no.",
		"no first comma": "4 yes 2 no", "no second comma": "4 yes, 2 no 1 abstain", "the fields in another order": "2 no, 4 yes", "abstain first": "1 abstain, 4 yes, 2 no", "yes twice": "4 yes, 4 yes, 2 no",
		"capitals": "4 Yes, 2 No", "another word": "4 yes, 2 no, 1 abstained", "a word more": "4 yes, 2 no votes", "a word more in front": "with 4 yes, 2 no", "a word behind abstain": "4 yes, 2 no, 1 abstain too",
		"a space in front": " 4 yes, 2 no", "a space behind it": "4 yes, 2 no ", "a space behind abstain": "4 yes, 2 no, 1 abstain ", "two spaces behind the number": "4  yes, 2 no", "two spaces behind the comma": "4 yes,  2 no", "no space behind the comma": "4 yes,2 no", "a space before the comma": "4 yes , 2 no", "no space behind the number": "4yes, 2 no",
		"a tab": "4\tyes, 2 no", "a line end": "4 yes, 2 no\n", "a line end between": "4 yes,\n2 no", "a space of two bytes": "4\u00a0yes, 2 no", "a zero byte": "4 yes, 2 no\x00", "no UTF-8": "4 yes, 2 no\xff", "digits of another script": "٤ yes, 2 no",
		"two texts": "4 yes, 2 no 4 yes, 2 no", "many spaces behind it": "4 yes, 2 no" + strings.Repeat(" ", 5000), "many words": "4 yes, 2 no, 1 abstain" + strings.Repeat(" x", 500000), "many commas": strings.Repeat(",", 100000),
	} {
		if got, ok := impl.ParseTally(s); ok || got != (impl.Tally{}) {
			t.Errorf("%s: %v, %v", name, got, ok)
		}
		checkParseTally(t, s)
	}
}
