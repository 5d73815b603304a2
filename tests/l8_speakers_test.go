package tests

import (
	"fmt"
	"math"
	"slices"
	"testing"

	"loop.example/g00909/impl"
)

// share returns what a member has spoken.
func share(member int, turns int, seconds int) impl.Share {
	return impl.Share{Member: member, Turns: turns, Seconds: seconds}
}

// debate returns a Floor on which four wait behind the one who is Speaking, 5 has no turn left
// and 60 has no second left.
func debate() impl.Floor {
	return impl.Floor{
		Turns: 3, Seconds: 60, Speaking: 9, Waiting: []int{40, 2, 99, 7},
		Shares: []impl.Share{share(2, 1, 30), share(5, 3, 20), share(7, 2, 59), share(9, 1, 10), share(40, 2, 0), share(60, 1, 60)},
	}
}

// debateWith returns the Floor of debate with one change.
func debateWith(change func(f *impl.Floor)) impl.Floor {
	f := debate()
	change(&f)
	return f
}

// membersFrom returns n members in ascending order.
func membersFrom(first int, n int) []int {
	members := []int{}
	for i := range n {
		members = append(members, first+i)
	}
	return members
}

// sharesOfAll returns Shares of n members, the first of whom is 1.
func sharesOfAll(n int) []impl.Share {
	shares := []impl.Share{}
	for i := range n {
		shares = append(shares, share(i+1, i%3, i%50))
	}
	return shares
}

// told returns the finished turns and the seconds that the Shares tell of a member.
func told(f impl.Floor, member int) (int, int) {
	for _, s := range f.Shares {
		if s.Member == member {
			return s.Turns, s.Seconds
		}
	}
	return 0, 0
}

// mayAsk reports whether a member of the assembly has turns and seconds left.
func mayAsk(f impl.Floor, member int) bool {
	turns, seconds := told(f, member)
	return member >= 1 && member <= 99 && turns < f.Turns && seconds < f.Seconds
}

// isFloor reports whether f is a valid Floor.
func isFloor(f impl.Floor) bool {
	if f.Turns < 1 || f.Turns > 3 || f.Seconds < 1 || f.Seconds > 3600 || len(f.Waiting) > 10 {
		return false
	}
	members := []int{}
	for _, s := range f.Shares {
		members = append(members, s.Member)
		if s.Member < 1 || s.Member > 99 || s.Turns < 0 || s.Turns > f.Turns || s.Seconds < 0 || s.Seconds > f.Seconds {
			return false
		}
	}
	here := map[int]bool{f.Speaking: true}
	for _, member := range f.Waiting {
		if here[member] || !mayAsk(f, member) {
			return false
		}
		here[member] = true
	}
	turns, _ := told(f, f.Speaking)
	return ascendStrictly(members) && f.Speaking >= 0 && f.Speaking <= 99 && turns < f.Turns
}

// sameFloor reports whether two Floors are equal.
func sameFloor(a impl.Floor, b impl.Floor) bool {
	return a.Turns == b.Turns && a.Seconds == b.Seconds && a.Speaking == b.Speaking &&
		slices.Equal(a.Waiting, b.Waiting) && slices.Equal(a.Shares, b.Shares)
}

// copied returns a Floor with lists of its own.
func copied(f impl.Floor) impl.Floor {
	f.Waiting, f.Shares = slices.Clone(f.Waiting), slices.Clone(f.Shares)
	return f
}

// spokenMore returns a Floor on which a member has so many turns and seconds more.
func spokenMore(f impl.Floor, member int, turns int, seconds int) impl.Floor {
	shares := map[int]impl.Share{}
	for _, s := range f.Shares {
		shares[s.Member] = s
	}
	had := shares[member]
	shares[member] = share(member, had.Turns+turns, had.Seconds+seconds)
	f = copied(f)
	f.Shares = nil
	for m := range 100 {
		if s, ok := shares[m]; ok {
			f.Shares = append(f.Shares, s)
		}
	}
	return f
}

// waitingWithout returns a Floor on which the one with an index in Waiting does not wait.
func waitingWithout(f impl.Floor, at int) impl.Floor {
	f = copied(f)
	f.Waiting = append(f.Waiting[:at], f.Waiting[at+1:]...)
	return f
}

// asked returns what a valid Floor becomes if a member asks, or nil.
func asked(f impl.Floor, member int) *impl.Floor {
	if !mayAsk(f, member) || member == f.Speaking || slices.Contains(f.Waiting, member) || len(f.Waiting) >= 10 {
		return nil
	}
	f = copied(f)
	f.Waiting = append(f.Waiting, member)
	return &f
}

// given returns what a valid Floor becomes if the next speaker is given it, or nil.
func given(f impl.Floor) *impl.Floor {
	if f.Speaking != 0 {
		return nil
	}
	for fewest := range 3 {
		for i, member := range f.Waiting {
			if turns, _ := told(f, member); turns == fewest {
				next := waitingWithout(f, i)
				next.Speaking = member
				return &next
			}
		}
	}
	return nil
}

// yielded returns what a valid Floor becomes if the one who is Speaking yields it, or nil.
func yielded(f impl.Floor) *impl.Floor {
	if f.Speaking == 0 {
		return nil
	}
	f = spokenMore(f, f.Speaking, 1, 0)
	f.Speaking = 0
	return &f
}

// spoken returns what a valid Floor becomes if the one who is Speaking speaks, and how long it
// takes, or nil.
func spoken(f impl.Floor, seconds int) (*impl.Floor, int) {
	if f.Speaking == 0 || seconds < 1 || seconds > 3600 {
		return nil, 0
	}
	used := 0
	_, before := told(f, f.Speaking)
	for used < seconds && before+used < f.Seconds {
		used++
	}
	f = spokenMore(f, f.Speaking, 0, used)
	if before+used == f.Seconds {
		return yielded(f), used
	}
	return &f, used
}

// inTurn returns those that wait on a valid Floor in the order in which they speak.
func inTurn(f impl.Floor) []int {
	order := []int{}
	f.Speaking = 0
	for next := given(f); next != nil; next = given(f) {
		order = append(order, next.Speaking)
		f = *yielded(*next)
	}
	return order
}

// checkFloorAfter checks the Floor that a call returns; where it has to fail, want is nil.
func checkFloorAfter(t *testing.T, call string, f impl.Floor, got impl.Floor, ok bool, want *impl.Floor) {
	t.Helper()
	if ok != (want != nil) {
		t.Errorf("%s on %v: %v, %v; want %v", call, f, got, ok, want)
		return
	}
	if want == nil {
		want = &impl.Floor{}
	}
	if !sameFloor(got, *want) {
		t.Errorf("%s on %v: %v; want %v", call, f, got, *want)
	}
}

// checkMemberOn checks what a member may do on a valid Floor.
func checkMemberOn(t *testing.T, f impl.Floor, member int) {
	t.Helper()
	got, ok := impl.AskFloor(f, member)
	checkFloorAfter(t, "AskFloor", f, got, ok, asked(f, member))
	var left *impl.Floor
	if at := slices.Index(f.Waiting, member); at >= 0 {
		without := waitingWithout(f, at)
		left = &without
	}
	got, ok = impl.LeaveWaiting(f, member)
	checkFloorAfter(t, "LeaveWaiting", f, got, ok, left)
	seconds, exists := 0, member >= 1 && member <= 99
	if exists {
		_, before := told(f, member)
		seconds = f.Seconds - before
	}
	if got, ok := impl.SecondsLeft(f, member); ok != exists || got != seconds {
		t.Errorf("SecondsLeft on %v of %d: %d, %v; want %d", f, member, got, ok, seconds)
	}
}

// checkSpeaker checks how long the one who is Speaking speaks on a valid Floor.
func checkSpeaker(t *testing.T, f impl.Floor, seconds int) {
	t.Helper()
	want, used := spoken(f, seconds)
	got, n, ok := impl.SpeakFor(f, seconds)
	checkFloorAfter(t, fmt.Sprint("SpeakFor ", seconds), f, got, ok, want)
	if n != used {
		t.Errorf("SpeakFor %d on %v: spoken %d; want %d", seconds, f, n, used)
	}
}

// checkTurns checks who speaks next and what happens at the end of a turn on a valid Floor.
func checkTurns(t *testing.T, f impl.Floor) {
	t.Helper()
	want, first := given(f), 0
	if want != nil {
		first = want.Speaking
	}
	got, member, ok := impl.NextSpeaker(f)
	checkFloorAfter(t, "NextSpeaker", f, got, ok, want)
	if member != first {
		t.Errorf("NextSpeaker on %v: %d; want %d", f, member, first)
	}
	got, ok = impl.YieldFloor(f)
	checkFloorAfter(t, "YieldFloor", f, got, ok, yielded(f))
	if order, ok := impl.SpeakingOrder(f); !ok || !slices.Equal(order, inTurn(f)) {
		t.Errorf("SpeakingOrder on %v: %v, %v; want %v", f, order, ok, inTurn(f))
	}
}

// checkFloor checks all that is done on a valid Floor.
func checkFloor(t *testing.T, f impl.Floor) {
	t.Helper()
	if !impl.IsValidFloor(f) {
		t.Error("not valid:", f)
	}
	for _, member := range append([]int{-1, 0, 1, 2, 3, 4, 98, 99, 100}, f.Waiting...) {
		checkMemberOn(t, f, member)
	}
	_, before := told(f, f.Speaking)
	left := f.Seconds - before
	for _, seconds := range []int{-1, 0, 1, 2, 3, 3599, 3600, 3601, left - 1, left, left + 1} {
		checkSpeaker(t, f, seconds)
	}
	checkTurns(t, f)
}

// checkNoFloor checks that every function fails for a Floor that is not valid.
func checkNoFloor(t *testing.T, name string, f impl.Floor) {
	t.Helper()
	fails := func(call string, got impl.Floor, n int, ok bool) {
		t.Helper()
		if ok || n != 0 || !sameFloor(got, impl.Floor{}) {
			t.Errorf("%s on %s %v: %v, %d, %v", call, name, f, got, n, ok)
		}
	}
	if impl.IsValidFloor(f) {
		t.Error("valid:", name, f)
	}
	for _, n := range []int{0, 1, 2, 99} {
		got, ok := impl.AskFloor(f, n)
		fails("AskFloor", got, 0, ok)
		got, ok = impl.LeaveWaiting(f, n)
		fails("LeaveWaiting", got, 0, ok)
		got, used, ok := impl.SpeakFor(f, n)
		fails("SpeakFor", got, used, ok)
		left, ok := impl.SecondsLeft(f, n)
		fails("SecondsLeft", impl.Floor{}, left, ok)
	}
	got, member, ok := impl.NextSpeaker(f)
	fails("NextSpeaker", got, member, ok)
	got, ok = impl.YieldFloor(f)
	fails("YieldFloor", got, 0, ok)
	order, ok := impl.SpeakingOrder(f)
	fails("SpeakingOrder", impl.Floor{}, len(order), ok)
}

// checkAnyFloor checks what is done on a Floor, which may be valid or not.
func checkAnyFloor(t *testing.T, f impl.Floor) {
	t.Helper()
	if isFloor(f) {
		checkFloor(t, f)
	} else {
		checkNoFloor(t, "a Floor", f)
	}
}

func TestConstantsOfSpeakers(t *testing.T) {
	if impl.MaxWaiting != 10 || impl.MaxSeconds != 3600 {
		t.Error("constants", impl.MaxWaiting, impl.MaxSeconds)
	}
}

func TestNewFloor(t *testing.T) {
	numbers := []int{math.MinInt, -1 << 32, -3600, -1, 0, 1, 2, 3, 4, 5, 60, 3599, 3600, 3601, 1 << 32, 1<<32 + 1, math.MaxInt}
	for _, turns := range numbers {
		for _, seconds := range numbers {
			f := impl.Floor{Turns: turns, Seconds: seconds}
			got, ok := impl.NewFloor(turns, seconds)
			if turns < 1 || turns > 3 || seconds < 1 || seconds > 3600 {
				checkFloorAfter(t, "NewFloor", f, got, ok, nil)
				checkNoFloor(t, "limits", f)
				continue
			}
			checkFloorAfter(t, "NewFloor", f, got, ok, &f)
			checkFloor(t, f)
		}
	}
}

func TestValidFloors(t *testing.T) {
	for name, f := range map[string]impl.Floor{
		"in the middle of a debate":       debate(),
		"at the beginning":                {Turns: 1, Seconds: 1},
		"at the beginning, long":          {Turns: 3, Seconds: 3600},
		"the first member speaks":         {Turns: 1, Seconds: 1, Speaking: 1},
		"the last member speaks":          {Turns: 1, Seconds: 1, Speaking: 99},
		"one waits":                       {Turns: 1, Seconds: 1, Waiting: []int{99}},
		"two wait, in the order of Asks":  {Turns: 1, Seconds: 1, Waiting: []int{99, 1}},
		"MaxWaiting that wait":            {Turns: 1, Seconds: 1, Waiting: membersFrom(90, 10)},
		"MaxWaiting behind one":           {Turns: 1, Seconds: 1, Speaking: 89, Waiting: membersFrom(90, 10)},
		"nothing in a Share":              {Turns: 1, Seconds: 1, Waiting: []int{4}, Shares: []impl.Share{share(4, 0, 0)}},
		"seconds without a turn":          {Turns: 1, Seconds: 2, Shares: []impl.Share{share(4, 0, 1)}},
		"a turn without seconds":          {Turns: 1, Seconds: 1, Shares: []impl.Share{share(4, 1, 0)}},
		"all turns and seconds":           {Turns: 3, Seconds: 3600, Shares: []impl.Share{share(1, 3, 3600), share(99, 3, 3600)}},
		"Shares of all members":           {Turns: 3, Seconds: 60, Speaking: 1, Waiting: []int{98, 2}, Shares: sharesOfAll(99)},
		"the speaker has no second left":  debateWith(func(f *impl.Floor) { f.Speaking = 60 }),
		"the speaker has one second left": debateWith(func(f *impl.Floor) { f.Speaking, f.Waiting = 7, []int{9} }),
		"nobody speaks":                   debateWith(func(f *impl.Floor) { f.Speaking = 0 }),
	} {
		if !isFloor(f) {
			t.Error("wrong test:", name)
		}
		if !impl.IsValidFloor(f) {
			t.Error("not valid:", name, f)
		}
		checkFloor(t, f)
		for member := -2; member <= 102; member++ {
			checkMemberOn(t, f, member)
		}
	}
}

// floorsWithoutMember returns Floors that are not valid, for a number is no member.
func floorsWithoutMember(number int) map[string]impl.Floor {
	floors := map[string]impl.Floor{
		"alone, waiting":   {Turns: 1, Seconds: 1, Waiting: []int{number}},
		"waiting, first":   debateWith(func(f *impl.Floor) { f.Waiting[0] = number }),
		"waiting, last":    debateWith(func(f *impl.Floor) { f.Waiting[3] = number }),
		"in a Share alone": {Turns: 1, Seconds: 1, Shares: []impl.Share{share(number, 1, 1)}},
		"in a first Share": debateWith(func(f *impl.Floor) { f.Shares[0].Member = number }),
		"in a last Share":  debateWith(func(f *impl.Floor) { f.Shares[5].Member = number }),
	}
	if number != 0 {
		floors["speaking alone"] = impl.Floor{Turns: 1, Seconds: 1, Speaking: number}
		floors["speaking"] = debateWith(func(f *impl.Floor) { f.Speaking = number })
	}
	return floors
}

// invalidFloors returns Floors that are not valid, by what is wrong with them.
func invalidFloors() map[string]impl.Floor {
	return map[string]impl.Floor{
		"a zero Floor":              {},
		"one above MaxWaiting":      {Turns: 1, Seconds: 1, Waiting: membersFrom(89, 11)},
		"far above MaxWaiting":      {Turns: 1, Seconds: 1, Waiting: make([]int, 100000)},
		"far above MaxMember":       {Turns: 3, Seconds: 60, Shares: sharesOfAll(100000)},
		"a hundredth Share":         {Turns: 3, Seconds: 60, Shares: sharesOfAll(100)},
		"waiting twice":             debateWith(func(f *impl.Floor) { f.Waiting[1] = 40 }),
		"waiting first and last":    debateWith(func(f *impl.Floor) { f.Waiting[3] = 40 }),
		"waiting twice, at the end": debateWith(func(f *impl.Floor) { f.Waiting[3] = 99 }),
		"waiting twice alone":       {Turns: 1, Seconds: 1, Waiting: []int{1, 1}},
		"speaking and waiting":      debateWith(func(f *impl.Floor) { f.Waiting[1] = 9 }),
		"speaking and waiting last": debateWith(func(f *impl.Floor) { f.Speaking = 7 }),
		"waiting without a turn":    debateWith(func(f *impl.Floor) { f.Waiting[2] = 5 }),
		"waiting without a second":  debateWith(func(f *impl.Floor) { f.Waiting[0] = 60 }),
		"waiting without anything":  {Turns: 1, Seconds: 1, Waiting: []int{1}, Shares: []impl.Share{share(1, 1, 1)}},
		"speaking without a turn":   debateWith(func(f *impl.Floor) { f.Speaking = 5 }),
		"speaking without anything": {Turns: 1, Seconds: 1, Speaking: 1, Shares: []impl.Share{share(1, 1, 1)}},
		"Shares out of order":       debateWith(func(f *impl.Floor) { f.Shares[0].Member, f.Shares[1].Member = 5, 2 }),
		"the last Share before":     debateWith(func(f *impl.Floor) { f.Shares[5].Member = 39 }),
		"the last Share first":      debateWith(func(f *impl.Floor) { f.Shares[5].Member = 1 }),
		"a Share twice":             debateWith(func(f *impl.Floor) { f.Shares[5].Member = 40 }),
		"equal Shares":              {Turns: 3, Seconds: 60, Shares: []impl.Share{share(4, 1, 1), share(4, 1, 1)}},
		"negative turns":            debateWith(func(f *impl.Floor) { f.Shares[0].Turns = -1 }),
		"turns above the limit":     debateWith(func(f *impl.Floor) { f.Shares[1].Turns = 4 }),
		"turns above a lower limit": debateWith(func(f *impl.Floor) { f.Turns, f.Waiting = 2, nil }),
		"few turns above the limit": {Turns: 1, Seconds: 60, Shares: []impl.Share{share(4, 2, 0)}},
		"negative seconds":          debateWith(func(f *impl.Floor) { f.Shares[5].Seconds = -1 }),
		"seconds above the limit":   debateWith(func(f *impl.Floor) { f.Shares[5].Seconds = 61 }),
		"seconds above a lower one": debateWith(func(f *impl.Floor) { f.Seconds, f.Waiting = 59, nil }),
		"MaxSeconds above a limit":  {Turns: 1, Seconds: 3599, Shares: []impl.Share{share(4, 1, 3600)}},
		"least turns":               debateWith(func(f *impl.Floor) { f.Shares[2].Turns = math.MinInt }),
		"greatest turns":            debateWith(func(f *impl.Floor) { f.Shares[2].Turns = math.MaxInt }),
		"least seconds":             debateWith(func(f *impl.Floor) { f.Shares[2].Seconds = math.MinInt }),
		"greatest seconds":          debateWith(func(f *impl.Floor) { f.Shares[2].Seconds = math.MaxInt }),
		"Turns of 0":                debateWith(func(f *impl.Floor) { f.Turns = 0 }),
		"Turns of 4":                debateWith(func(f *impl.Floor) { f.Turns = 4 }),
		"Seconds of 0":              debateWith(func(f *impl.Floor) { f.Seconds = 0 }),
		"Seconds above MaxSeconds":  debateWith(func(f *impl.Floor) { f.Seconds = 3601 }),
	}
}

func TestInvalidFloors(t *testing.T) {
	for name, f := range invalidFloors() {
		checkNoFloor(t, name, f)
	}
	for _, number := range noAssemblyMembers {
		for name, f := range floorsWithoutMember(number) {
			checkNoFloor(t, fmt.Sprint(number, " ", name), f)
		}
	}
}

// eachShares calls visit with all lists of at most two Shares of these members.
func eachShares(members []int, turns []int, seconds []int, visit func([]impl.Share)) {
	all := []impl.Share{}
	for _, m := range members {
		for _, n := range turns {
			for _, s := range seconds {
				all = append(all, share(m, n, s))
			}
		}
	}
	visit(nil)
	for _, a := range all {
		visit([]impl.Share{a})
		for _, b := range all {
			visit([]impl.Share{a, b})
		}
	}
}

func TestEveryFloorOfThreeMembers(t *testing.T) {
	waiting := [][]int{nil}
	for i := 0; i < 40; i++ {
		for member := 1; member <= 3 && len(waiting[i]) < 3; member++ {
			waiting = append(waiting, append(slices.Clone(waiting[i]), member))
		}
	}
	eachShares([]int{1, 2, 3}, []int{0, 1, 2, 3}, []int{0, 1, 2, 3}, func(shares []impl.Share) {
		for _, list := range waiting {
			for speaking := range 4 {
				checkAnyFloor(t, impl.Floor{Turns: 2, Seconds: 2, Speaking: speaking, Waiting: list, Shares: shares})
			}
		}
	})
}

func TestEveryFloorAtTheLimits(t *testing.T) {
	eachShares([]int{0, 1, 99, 100}, []int{-1, 0, 1, 3, 4}, []int{-1, 0, 3599, 3600, 3601}, func(shares []impl.Share) {
		for _, list := range [][]int{nil, {0}, {1}, {99, 1}, {100}} {
			for _, speaking := range []int{-1, 0, 1, 99, 100} {
				checkAnyFloor(t, impl.Floor{Turns: 3, Seconds: 3600, Speaking: speaking, Waiting: list, Shares: shares})
			}
		}
	})
}

// spokenDebate is a debate and what has been heard in it since it began.
type spokenDebate struct {
	floor   impl.Floor
	turns   [4]int
	seconds [4]int
}

// nextDebates returns what a debate of the members 1 to 3 becomes by one call.
func nextDebates(d spokenDebate) []spokenDebate {
	next := []spokenDebate{}
	keep := func(f impl.Floor, ok bool) {
		if ok {
			next = append(next, spokenDebate{f, d.turns, d.seconds})
		}
	}
	for member := 1; member <= 3; member++ {
		keep(impl.AskFloor(d.floor, member))
		keep(impl.LeaveWaiting(d.floor, member))
	}
	keep(impl.YieldFloor(d.floor))
	if f, member, ok := impl.NextSpeaker(d.floor); ok {
		heard := spokenDebate{f, d.turns, d.seconds}
		heard.turns[member]++
		next = append(next, heard)
	}
	for _, seconds := range []int{1, 2, 3600} {
		if f, used, ok := impl.SpeakFor(d.floor, seconds); ok {
			heard := spokenDebate{f, d.turns, d.seconds}
			heard.seconds[d.floor.Speaking] += used
			next = append(next, heard)
		}
	}
	return next
}

// checkHeard checks that nobody has been heard longer than the Floor allows.
func checkHeard(t *testing.T, d spokenDebate) {
	t.Helper()
	if !impl.IsValidFloor(d.floor) {
		t.Error("not valid:", d)
	}
	for member := 1; member <= 3; member++ {
		if d.turns[member] > d.floor.Turns || d.seconds[member] > d.floor.Seconds {
			t.Error("heard longer than allowed:", d)
		}
		if left, ok := impl.SecondsLeft(d.floor, member); !ok || left != d.floor.Seconds-d.seconds[member] {
			t.Error("seconds left:", member, left, ok, d)
		}
		finished := d.turns[member]
		if d.floor.Speaking == member {
			finished--
		}
		if turns, seconds := told(d.floor, member); turns != finished || seconds != d.seconds[member] {
			t.Error("told:", member, turns, seconds, d)
		}
	}
}

func TestNobodySpeaksLongerThanAllowed(t *testing.T) {
	for _, limits := range [][2]int{{1, 1}, {1, 2}, {2, 1}, {2, 2}, {1, 3}, {3, 1}} {
		f, _ := impl.NewFloor(limits[0], limits[1])
		queue := []spokenDebate{{floor: f}}
		reached := map[string]bool{fmt.Sprint(queue[0]): true}
		most := spokenDebate{}
		for len(queue) > 0 {
			d := queue[0]
			queue = queue[1:]
			checkHeard(t, d)
			most.turns[1], most.seconds[1] = max(most.turns[1], d.turns[1]), max(most.seconds[1], d.seconds[1])
			for _, next := range nextDebates(d) {
				if key := fmt.Sprint(next); !reached[key] {
					reached[key] = true
					queue = append(queue, next)
				}
			}
		}
		// All that is allowed can be spoken.
		if most.turns[1] != limits[0] || most.seconds[1] != limits[1] {
			t.Error("heard at most", most, "of", limits)
		}
	}
}

// randomCall makes one call on a valid Floor as a number tells; a call that fails leaves it.
func randomCall(t *testing.T, f impl.Floor, number int) impl.Floor {
	t.Helper()
	var got impl.Floor
	var ok bool
	var want *impl.Floor
	member := []int{1, 2, 3, 7, 8, 30, 31, 50, 51, 70, 90, 97, 98, 99}[number/16%14]
	switch number % 16 {
	case 0:
		got, ok = impl.YieldFloor(f)
		want = yielded(f)
	case 1:
		got, ok = impl.LeaveWaiting(f, member)
		if at := slices.Index(f.Waiting, member); at >= 0 {
			without := waitingWithout(f, at)
			want = &without
		}
	case 2, 3:
		got, _, ok = impl.NextSpeaker(f)
		want = given(f)
	case 4, 5:
		got, _, ok = impl.SpeakFor(f, number/16%900)
		want, _ = spoken(f, number/16%900)
	default:
		got, ok = impl.AskFloor(f, member)
		want = asked(f, member)
	}
	checkFloorAfter(t, fmt.Sprint("call ", number), f, got, ok, want)
	if !ok {
		return f
	}
	return got
}

func TestLongDebates(t *testing.T) {
	full, heard := 0, 0
	for start := range 40 {
		next := drawsFrom(start)
		f, _ := impl.NewFloor(start%3+1, 200*(start%18+1))
		for range 400 {
			f = randomCall(t, f, next(1<<23))
			if len(f.Waiting) == 10 {
				full++
			}
			checkTurns(t, f)
		}
		for member := range 101 {
			checkMemberOn(t, f, member)
		}
		heard += len(f.Shares)
	}
	if full < 1000 || heard < 400 {
		t.Error("debates are not long:", full, heard)
	}
}

func TestAskFloor(t *testing.T) {
	for name, c := range map[string]struct {
		f      impl.Floor
		member int
	}{
		"the first member of all":        {impl.Floor{Turns: 1, Seconds: 1}, 1},
		"the last member of all":         {impl.Floor{Turns: 1, Seconds: 1}, 99},
		"who has not spoken":             {debate(), 1},
		"who has spoken":                 {debateWith(func(f *impl.Floor) { f.Speaking = 0 }), 9},
		"who has one second left":        {debateWith(func(f *impl.Floor) { f.Waiting = nil }), 7},
		"who has one turn left":          {debateWith(func(f *impl.Floor) { f.Waiting = []int{99} }), 40},
		"the tenth that waits":           {impl.Floor{Turns: 1, Seconds: 1, Waiting: membersFrom(80, 9)}, 4},
		"while the last member speaks":   {impl.Floor{Turns: 1, Seconds: 1, Speaking: 99}, 98},
		"while a greater member waits":   {impl.Floor{Turns: 1, Seconds: 1, Waiting: []int{2}}, 1},
		"the other one of two in Shares": {impl.Floor{Turns: 2, Seconds: 2, Shares: []impl.Share{share(1, 2, 2), share(2, 1, 1)}}, 2},
	} {
		want := copied(c.f)
		want.Waiting = append(want.Waiting, c.member)
		got, ok := impl.AskFloor(c.f, c.member)
		checkFloorAfter(t, name, c.f, got, ok, &want)
	}
}

func TestAskFloorFails(t *testing.T) {
	for name, member := range map[string]int{
		"waits first": 40, "waits between": 2, "waits last": 7, "is speaking": 9, "has no turn left": 5, "has no second left": 60,
		"above MaxMember": 100, "0": 0,
	} {
		got, ok := impl.AskFloor(debate(), member)
		checkFloorAfter(t, name, debate(), got, ok, nil)
	}
	full := impl.Floor{Turns: 1, Seconds: 1, Speaking: 89, Waiting: membersFrom(90, 10)}
	for member := range 101 {
		got, ok := impl.AskFloor(full, member)
		checkFloorAfter(t, "the eleventh that waits", full, got, ok, nil)
	}
	for _, number := range noAssemblyMembers {
		for _, f := range []impl.Floor{debate(), {Turns: 1, Seconds: 1}} {
			checkMemberOn(t, f, number)
			got, ok := impl.AskFloor(f, number)
			checkFloorAfter(t, fmt.Sprint("asked by ", number), f, got, ok, nil)
		}
	}
}

func TestNextSpeaker(t *testing.T) {
	shares := []impl.Share{share(2, 1, 5), share(4, 1, 6), share(6, 2, 7)}
	for _, c := range []struct {
		waiting []int
		next    int
		left    []int
	}{
		{[]int{2}, 2, nil}, {[]int{6}, 6, nil}, {[]int{1}, 1, nil},
		{[]int{2, 4}, 2, []int{4}}, {[]int{4, 2}, 4, []int{2}}, {[]int{9, 1}, 9, []int{1}},
		{[]int{6, 2}, 2, []int{6}}, {[]int{2, 6}, 2, []int{6}}, {[]int{2, 6, 9, 4}, 9, []int{2, 6, 4}},
		{[]int{6, 4, 2}, 4, []int{6, 2}}, {[]int{6, 4, 99, 1, 2}, 99, []int{6, 4, 1, 2}},
		{membersFrom(1, 10), 1, membersFrom(2, 9)}, {[]int{6, 2, 4, 90}, 90, []int{6, 2, 4}},
	} {
		f := impl.Floor{Turns: 3, Seconds: 9, Waiting: c.waiting, Shares: shares}
		want := impl.Floor{Turns: 3, Seconds: 9, Speaking: c.next, Waiting: c.left, Shares: shares}
		got, member, ok := impl.NextSpeaker(f)
		checkFloorAfter(t, "NextSpeaker", f, got, ok, &want)
		if member != c.next {
			t.Errorf("NextSpeaker of %v: %d; want %d", c.waiting, member, c.next)
		}
	}
	for name, f := range map[string]impl.Floor{
		"someone is speaking":             debate(),
		"nobody waits":                    {Turns: 3, Seconds: 9, Shares: shares},
		"nobody waits behind a speaker":   {Turns: 3, Seconds: 9, Speaking: 2, Shares: shares},
		"nobody waits at the beginning":   {Turns: 3, Seconds: 9},
		"a speaker without a turn so far": {Turns: 3, Seconds: 9, Speaking: 1, Waiting: []int{2}},
	} {
		got, member, ok := impl.NextSpeaker(f)
		checkFloorAfter(t, name, f, got, ok, nil)
		if member != 0 {
			t.Error(name, member)
		}
	}
}

func TestTheLastSecondOfAMember(t *testing.T) {
	f := impl.Floor{Turns: 2, Seconds: 60, Speaking: 7, Waiting: []int{4}, Shares: []impl.Share{share(7, 1, 50)}}
	for _, c := range []struct {
		seconds, used int
	}{
		{1, 1}, {8, 8}, {9, 9}, {10, 10}, {11, 10}, {60, 10}, {61, 10}, {3599, 10}, {3600, 10},
	} {
		want := impl.Floor{Turns: 2, Seconds: 60, Speaking: 7, Waiting: []int{4}, Shares: []impl.Share{share(7, 1, 50+c.used)}}
		if c.used == 10 {
			want.Speaking, want.Shares[0].Turns = 0, 2
		}
		got, used, ok := impl.SpeakFor(f, c.seconds)
		checkFloorAfter(t, fmt.Sprint("SpeakFor ", c.seconds), f, got, ok, &want)
		if used != c.used {
			t.Errorf("SpeakFor %d: %d; want %d", c.seconds, used, c.used)
		}
	}
	for _, left := range []int{0, 1, 2} {
		f.Shares = []impl.Share{share(7, 0, 60-left)}
		for seconds := 1; seconds <= 3; seconds++ {
			got, used, ok := impl.SpeakFor(f, seconds)
			want := impl.Floor{Turns: 2, Seconds: 60, Waiting: []int{4}, Shares: []impl.Share{share(7, 1, 60)}}
			if seconds < left {
				want.Speaking, want.Shares = 7, []impl.Share{share(7, 0, 59)}
			}
			checkFloorAfter(t, fmt.Sprint("SpeakFor ", seconds, " of ", left), f, got, ok, &want)
			if used != min(seconds, left) {
				t.Error("used", used, "of", left)
			}
		}
	}
}

func TestSpeakForAllSecondsAtOnce(t *testing.T) {
	for _, limit := range []int{1, 2, 3599, 3600} {
		f := impl.Floor{Turns: 1, Seconds: limit, Speaking: 1}
		want := impl.Floor{Turns: 1, Seconds: limit, Shares: []impl.Share{share(1, 1, limit)}}
		for _, seconds := range []int{limit, 3600} {
			got, used, ok := impl.SpeakFor(f, seconds)
			checkFloorAfter(t, "SpeakFor all seconds", f, got, ok, &want)
			if used != limit {
				t.Error("used", used, "of", limit)
			}
		}
	}
	f := impl.Floor{Turns: 1, Seconds: 3600, Speaking: 1}
	want := impl.Floor{Turns: 1, Seconds: 3600, Speaking: 1, Shares: []impl.Share{share(1, 0, 3599)}}
	got, used, ok := impl.SpeakFor(f, 3599)
	checkFloorAfter(t, "SpeakFor all seconds but one", f, got, ok, &want)
	if used != 3599 {
		t.Error("used", used)
	}
}

func TestSpeakForFails(t *testing.T) {
	for _, seconds := range []int{0, -1, -60, 3601, 3602, 1 << 32, 1<<32 + 1, -1<<32 + 1, math.MinInt, math.MaxInt} {
		for _, f := range []impl.Floor{debate(), {Turns: 1, Seconds: 3600, Speaking: 1}, {Turns: 1, Seconds: 1, Speaking: 1}} {
			got, used, ok := impl.SpeakFor(f, seconds)
			checkFloorAfter(t, fmt.Sprint("SpeakFor ", seconds), f, got, ok, nil)
			if used != 0 {
				t.Error("used", used)
			}
		}
	}
	for _, f := range []impl.Floor{{Turns: 1, Seconds: 3600}, {Turns: 1, Seconds: 3600, Waiting: []int{1}}, debateWith(func(f *impl.Floor) { f.Speaking = 0 })} {
		for _, seconds := range []int{0, 1, 60, 3600, 3601} {
			got, used, ok := impl.SpeakFor(f, seconds)
			checkFloorAfter(t, "SpeakFor, but nobody is speaking", f, got, ok, nil)
			if used != 0 {
				t.Error("used", used)
			}
		}
	}
}

func TestSharesAreInserted(t *testing.T) {
	for _, c := range []struct {
		speaking int
		want     []impl.Share
	}{
		{1, []impl.Share{share(1, 0, 5), share(2, 1, 30), share(40, 0, 3), share(60, 2, 50)}},
		{2, []impl.Share{share(2, 1, 35), share(40, 0, 3), share(60, 2, 50)}},
		{3, []impl.Share{share(2, 1, 30), share(3, 0, 5), share(40, 0, 3), share(60, 2, 50)}},
		{40, []impl.Share{share(2, 1, 30), share(40, 0, 8), share(60, 2, 50)}},
		{59, []impl.Share{share(2, 1, 30), share(40, 0, 3), share(59, 0, 5), share(60, 2, 50)}},
		{60, []impl.Share{share(2, 1, 30), share(40, 0, 3), share(60, 2, 55)}},
		{61, []impl.Share{share(2, 1, 30), share(40, 0, 3), share(60, 2, 50), share(61, 0, 5)}},
		{99, []impl.Share{share(2, 1, 30), share(40, 0, 3), share(60, 2, 50), share(99, 0, 5)}},
	} {
		shares := []impl.Share{share(2, 1, 30), share(40, 0, 3), share(60, 2, 50)}
		f := impl.Floor{Turns: 3, Seconds: 60, Speaking: c.speaking, Shares: shares}
		want := impl.Floor{Turns: 3, Seconds: 60, Speaking: c.speaking, Shares: c.want}
		got, used, ok := impl.SpeakFor(f, 5)
		checkFloorAfter(t, "SpeakFor 5", f, got, ok, &want)
		if used != 5 {
			t.Error("used", used)
		}
		got, ok = impl.YieldFloor(got)
		checkFloorAfter(t, "YieldFloor", want, got, ok, yielded(want))
	}
}

func TestYieldFloor(t *testing.T) {
	for name, c := range map[string]struct {
		f    impl.Floor
		want impl.Floor
	}{
		"none spoken": {impl.Floor{Turns: 1, Seconds: 1, Speaking: 3}, impl.Floor{Turns: 1, Seconds: 1, Shares: []impl.Share{share(3, 1, 0)}}},
		"none spoken, the last turn": {
			impl.Floor{Turns: 3, Seconds: 9, Speaking: 3, Shares: []impl.Share{share(3, 2, 4)}},
			impl.Floor{Turns: 3, Seconds: 9, Shares: []impl.Share{share(3, 3, 4)}}},
		"some spoken": {
			impl.Floor{Turns: 2, Seconds: 9, Speaking: 3, Waiting: []int{1, 7}, Shares: []impl.Share{share(3, 0, 8)}},
			impl.Floor{Turns: 2, Seconds: 9, Waiting: []int{1, 7}, Shares: []impl.Share{share(3, 1, 8)}}},
		"all spoken": {
			impl.Floor{Turns: 2, Seconds: 9, Speaking: 3, Shares: []impl.Share{share(3, 0, 9)}},
			impl.Floor{Turns: 2, Seconds: 9, Shares: []impl.Share{share(3, 1, 9)}}},
		"in the middle of a debate": {debate(), debateWith(func(f *impl.Floor) { f.Speaking, f.Shares[3].Turns = 0, 2 })},
	} {
		got, ok := impl.YieldFloor(c.f)
		checkFloorAfter(t, name, c.f, got, ok, &c.want)
	}
	for name, f := range map[string]impl.Floor{
		"nobody is speaking": {Turns: 1, Seconds: 1}, "some wait": debateWith(func(f *impl.Floor) { f.Speaking = 0 }),
	} {
		got, ok := impl.YieldFloor(f)
		checkFloorAfter(t, name, f, got, ok, nil)
	}
}

func TestLeaveWaiting(t *testing.T) {
	for member, left := range map[int][]int{40: {2, 99, 7}, 2: {40, 99, 7}, 99: {40, 2, 7}, 7: {40, 2, 99}} {
		want := debateWith(func(f *impl.Floor) { f.Waiting = left })
		got, ok := impl.LeaveWaiting(debate(), member)
		checkFloorAfter(t, fmt.Sprint("left by ", member), debate(), got, ok, &want)
	}
	alone := impl.Floor{Turns: 1, Seconds: 1, Waiting: []int{1}}
	got, ok := impl.LeaveWaiting(alone, 1)
	checkFloorAfter(t, "left by the only one", alone, got, ok, &impl.Floor{Turns: 1, Seconds: 1})
	for name, member := range map[string]int{"is speaking": 9, "has spoken": 60, "has not spoken": 1, "has no turn left": 5, "0": 0, "100": 100} {
		got, ok := impl.LeaveWaiting(debate(), member)
		checkFloorAfter(t, name, debate(), got, ok, nil)
	}
	for _, number := range append([]int{1, 99}, noAssemblyMembers...) {
		f := impl.Floor{Turns: 1, Seconds: 1}
		got, ok := impl.LeaveWaiting(f, number)
		checkFloorAfter(t, fmt.Sprint("left by ", number), f, got, ok, nil)
	}
}

func TestSecondsLeft(t *testing.T) {
	for member, want := range map[int]int{1: 60, 2: 30, 5: 40, 7: 1, 9: 50, 40: 60, 60: 0, 99: 60} {
		if got, ok := impl.SecondsLeft(debate(), member); !ok || got != want {
			t.Errorf("SecondsLeft of %d: %d, %v; want %d", member, got, ok, want)
		}
	}
	for _, number := range noAssemblyMembers {
		if got, ok := impl.SecondsLeft(debate(), number); ok || got != 0 {
			t.Errorf("SecondsLeft of %d: %d, %v", number, got, ok)
		}
	}
}

func TestSpeakingOrder(t *testing.T) {
	shares := []impl.Share{share(2, 1, 5), share(4, 1, 6), share(5, 3, 1), share(6, 2, 7), share(8, 2, 8)}
	for _, c := range []struct {
		waiting []int
		want    []int
	}{
		{nil, nil}, {[]int{6}, []int{6}}, {[]int{2, 4}, []int{2, 4}}, {[]int{4, 2}, []int{4, 2}},
		{[]int{6, 2}, []int{2, 6}}, {[]int{6, 9}, []int{9, 6}}, {[]int{2, 9}, []int{9, 2}}, {[]int{9, 2}, []int{9, 2}},
		{[]int{8, 6, 4, 2, 9, 1}, []int{9, 1, 4, 2, 8, 6}}, {[]int{6, 9, 2, 8, 1, 4}, []int{9, 1, 2, 4, 6, 8}},
		{[]int{99, 2, 98, 4, 97, 6, 96, 8, 95, 1}, []int{99, 98, 97, 96, 95, 1, 2, 4, 6, 8}},
		{membersFrom(90, 10), membersFrom(90, 10)},
	} {
		for _, speaking := range []int{0, 3} {
			f := impl.Floor{Turns: 3, Seconds: 9, Speaking: speaking, Waiting: c.waiting, Shares: shares}
			if got, ok := impl.SpeakingOrder(f); !ok || !slices.Equal(got, c.want) {
				t.Errorf("SpeakingOrder of %v: %v, %v; want %v", c.waiting, got, ok, c.want)
			}
		}
	}
	if got, ok := impl.SpeakingOrder(debate()); !ok || !slices.Equal(got, []int{99, 2, 40, 7}) {
		t.Error("in the middle of a debate", got, ok)
	}
}

// roomyDebate returns the Floor of debate in lists with room, and with something in that room.
func roomyDebate() impl.Floor {
	f := debate()
	f.Waiting = append(f.Waiting, 9, 9, -1)[:4]
	f.Shares = append(f.Shares, share(1, -1, -1), share(-1, 9, 9))[:6]
	return f
}

func TestNothingBeyondTheLengthOnFloors(t *testing.T) {
	for waiting := range 5 {
		for shares := range 7 {
			f := roomyDebate()
			f.Waiting, f.Shares = f.Waiting[:waiting], f.Shares[:shares]
			checkAnyFloor(t, f)
			f.Speaking = 0
			checkAnyFloor(t, f)
		}
	}
	checkNoFloor(t, "one beyond the length", debateWith(func(f *impl.Floor) { f.Waiting = roomyDebate().Waiting[:5] }))
	checkNoFloor(t, "one beyond the length", debateWith(func(f *impl.Floor) { f.Shares = roomyDebate().Shares[:7] }))
}

// floorsAfter returns the Floors of all calls on f that succeed.
func floorsAfter(f impl.Floor) []impl.Floor {
	floors := []impl.Floor{}
	keep := func(result impl.Floor, ok bool) {
		if ok {
			floors = append(floors, result)
		}
	}
	for member := range 101 {
		keep(impl.AskFloor(f, member))
		keep(impl.LeaveWaiting(f, member))
	}
	for _, seconds := range []int{1, 49, 50, 51, 3600} {
		spoken, _, ok := impl.SpeakFor(f, seconds)
		keep(spoken, ok)
	}
	next, _, ok := impl.NextSpeaker(f)
	keep(next, ok)
	keep(impl.YieldFloor(f))
	return floors
}

// overwrite writes over the lists of a Floor, even over what lies beyond their length.
func overwrite(f impl.Floor) {
	for i := range f.Waiting[:cap(f.Waiting)] {
		f.Waiting[:cap(f.Waiting)][i] = -7
	}
	for i := range f.Shares[:cap(f.Shares)] {
		f.Shares[:cap(f.Shares)][i] = share(-7, -7, -7)
	}
}

func TestFloorFunctionsLeaveTheirArguments(t *testing.T) {
	for _, speaking := range []int{0, 1, 8, 9, 99, 5} {
		f := roomyDebate()
		f.Speaking = speaking
		waiting, shares := slices.Clone(f.Waiting[:cap(f.Waiting)]), slices.Clone(f.Shares[:cap(f.Shares)])
		floors := floorsAfter(f)
		order, _ := impl.SpeakingOrder(f)
		impl.IsValidFloor(f)
		impl.SecondsLeft(f, 1)
		for _, result := range append(floors, impl.Floor{Waiting: order}) {
			overwrite(result)
		}
		if !slices.Equal(f.Waiting[:cap(f.Waiting)], waiting) || !slices.Equal(f.Shares[:cap(f.Shares)], shares) {
			t.Error("changed", f.Waiting[:cap(f.Waiting)], f.Shares[:cap(f.Shares)])
		}
	}
}

func TestFloorResultsAreTheirOwn(t *testing.T) {
	for _, speaking := range []int{0, 9} {
		f := debateWith(func(f *impl.Floor) { f.Speaking = speaking })
		kept := []impl.Floor{}
		floors := floorsAfter(f)
		for _, result := range floors {
			kept = append(kept, copied(result))
		}
		for i, result := range floors {
			if !sameFloor(result, kept[i]) {
				t.Error("shared with another result", result, kept[i])
			}
			overwrite(result)
		}
		for i, result := range floorsAfter(f) {
			if !sameFloor(result, kept[i]) {
				t.Error("not repeated", result, kept[i])
			}
		}
	}
	order, _ := impl.SpeakingOrder(debate())
	overwrite(impl.Floor{Waiting: order})
	checkFloor(t, debate())
}
