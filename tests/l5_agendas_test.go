package tests

import (
	"fmt"
	"math"
	"regexp"
	"slices"
	"strconv"
	"strings"
	"testing"

	"loop.example/g00909/impl"
)

// fiveItems returns an agenda for 09:00: the meeting waits for the second item, the third one is
// late, and the Time of the fourth one is exactly met.
func fiveItems() []impl.AgendaItem {
	return []impl.AgendaItem{
		{Id: 7, Title: "call", Minutes: 10, Time: impl.NoTime},
		{Id: 3, Title: "budget", Minutes: 25, Time: 570},
		{Id: 12, Title: "bylaws", Minutes: 30, Time: 580},
		{Id: 99, Title: "elections", Minutes: 5, Time: 625},
		{Id: 1, Title: "min", Minutes: 240, Time: impl.NoTime},
	}
}

const fiveItemsText = "7. call (10 min)\n3. budget (25 min, not before 09:30)\n12. bylaws (30 min, not before 09:40)\n" +
	"99. elections (5 min, not before 10:25)\n1. min (240 min)\n"

// noMinutesOfDay are numbers at which no meeting begins.
var noMinutesOfDay = []int{-1, -2, 1440, 1441, 2000, -540, 1 << 32, 1<<32 + 540, math.MinInt, math.MinInt + 540, math.MaxInt}

// itemsOf returns n items without a Time with the Ids from the first one on.
func itemsOf(first int, n int) []impl.AgendaItem {
	list := []impl.AgendaItem{}
	for i := range n {
		list = append(list, impl.AgendaItem{Id: first + i, Title: "item", Minutes: 1 + i, Time: impl.NoTime})
	}
	return list
}

// timedItems returns an agenda with an item of so many Minutes for every Time.
func timedItems(minutes int, times ...int) []impl.AgendaItem {
	list := itemsOf(1, len(times))
	for i, time := range times {
		list[i].Minutes, list[i].Time = minutes, time
	}
	return list
}

// invalidItems returns AgendaItems of which exactly one field is invalid, by what is wrong with them.
func invalidItems() map[string]impl.AgendaItem {
	items := map[string]impl.AgendaItem{}
	for _, id := range []int{0, 100, -1, math.MaxInt, math.MinInt, 1 << 32, 1<<32 + 1} {
		items["Id "+strconv.Itoa(id)] = impl.AgendaItem{Id: id, Title: "x", Minutes: 5, Time: impl.NoTime}
	}
	for _, title := range noWords {
		items[fmt.Sprintf("Title %.20q", title)] = impl.AgendaItem{Id: 5, Title: title, Minutes: 5, Time: 540}
	}
	for _, minutes := range []int{0, 241, -1, -240, math.MaxInt, math.MinInt, 1 << 32, 1<<32 + 1} {
		items["Minutes "+strconv.Itoa(minutes)] = impl.AgendaItem{Id: 5, Title: "x", Minutes: minutes, Time: 540}
	}
	for _, time := range noMinutesOfDay[1:] {
		items["Time "+strconv.Itoa(time)] = impl.AgendaItem{Id: 5, Title: "x", Minutes: 5, Time: time}
	}
	return items
}

// invalidAgendas returns lists that are no agendas, by what is wrong with them.
func invalidAgendas() map[string][]impl.AgendaItem {
	lists := map[string][]impl.AgendaItem{
		"above MaxItems":        itemsOf(1, 11),
		"far above MaxItems":    make([]impl.AgendaItem, 100000),
		"a zero AgendaItem":     {{}},
		"one item twice":        {fiveItems()[1], fiveItems()[1]},
		"one Id":                {{Id: 3, Title: "a", Minutes: 5, Time: 540}, {Id: 3, Title: "b", Minutes: 6, Time: impl.NoTime}},
		"one Id, far apart":     append(fiveItems(), impl.AgendaItem{Id: 7, Title: "close", Minutes: 1, Time: impl.NoTime}),
		"one Id, of MaxItems":   append(itemsOf(1, 9), impl.AgendaItem{Id: 9, Title: "close", Minutes: 1, Time: impl.NoTime}),
		"a last item of no Id":  append(fiveItems(), impl.AgendaItem{Title: "close", Minutes: 1, Time: impl.NoTime}),
		"a first item of no Id": append([]impl.AgendaItem{{Title: "open", Minutes: 1, Time: impl.NoTime}}, fiveItems()...),
	}
	for name, item := range invalidItems() {
		lists["alone, "+name] = []impl.AgendaItem{item}
		lists["amid others, "+name] = slices.Insert(fiveItems(), 2, item)
	}
	return lists
}

// eachAgenda calls visit with all agendas of up to three items of one or two Minutes that have no
// Time or one of the five from the first one on.
func eachAgenda(first int, visit func([]impl.AgendaItem)) {
	list := []impl.AgendaItem{}
	var fill func()
	fill = func() {
		visit(slices.Clone(list))
		if len(list) == 3 {
			return
		}
		for time := first - 1; time < first+5; time++ {
			for minutes := 1; minutes <= 2; minutes++ {
				item := impl.AgendaItem{Id: 9 - len(list), Title: "item", Minutes: minutes, Time: time}
				if time < first {
					item.Time = impl.NoTime
				}
				list = append(list, item)
				fill()
				list = list[:len(list)-1]
			}
		}
	}
	fill()
}

// eachMixtureOfItems calls visit with n agendas of all sizes and a start for each.
func eachMixtureOfItems(n int, visit func([]impl.AgendaItem, int)) {
	seed := uint32(5)
	draw := func(below int) int {
		seed = seed*1664525 + 1013904223
		return int(seed>>16) % below
	}
	for i := range n {
		list := itemsOf(1+draw(90), i%(impl.MaxItems+1))
		for j := range list {
			at := draw(j + 1)
			list[j].Id, list[at].Id = list[at].Id, list[j].Id
			list[j].Title = []string{"a", "budget", "min", "before", "abcdefghij"}[draw(5)]
			list[j].Minutes = 1 + draw([]int{3, 60, 240}[i%3])
			if draw(3) > 0 {
				list[j].Time = draw([]int{60, 1440}[i%2])
			}
		}
		visit(list, draw([]int{60, 1440}[i%2]))
	}
}

// meeting is what happens at a meeting. The minutes at which items end are kept by their index.
type meeting struct {
	begins, ends []int
	idle, end    int
}

// meet holds a meeting minute by minute.
func meet(list []impl.AgendaItem, start int) meeting {
	m := meeting{}
	left := 0
	for now := start; ; now++ {
		if left == 0 && len(m.begins) > len(m.ends) {
			m.ends = append(m.ends, now)
		}
		if left == 0 && len(m.ends) == len(list) {
			m.end = now
			return m
		}
		next := len(m.begins)
		switch {
		case left > 0:
			left--
		case list[next].Time == impl.NoTime || list[next].Time <= now:
			m.begins = append(m.begins, now)
			left = list[next].Minutes - 1
		default:
			m.idle++
		}
	}
}

// lateOf returns the Ids of the items that are late at a meeting.
func (m meeting) lateOf(list []impl.AgendaItem) []int {
	late := []int{}
	for i, item := range list {
		if item.Time >= 0 && item.Time < m.begins[i] {
			late = append(late, item.Id)
		}
	}
	return late
}

// doneOf returns the Ids of the items that are done at the minute end of a meeting.
func (m meeting) doneOf(list []impl.AgendaItem, end int) []int {
	done := []int{}
	for i, item := range list {
		if m.ends[i] <= end {
			done = append(done, item.Id)
		}
	}
	return done
}

// checkMeeting checks all that is said of the meeting of an agenda that begins at start.
func checkMeeting(t *testing.T, list []impl.AgendaItem, start int) {
	t.Helper()
	m := meet(list, start)
	if got, ok := impl.ItemTimes(list, start); !ok || !slices.Equal(got, m.begins) {
		t.Errorf("ItemTimes(%v, %d) = %v, %v; want %v", list, start, got, ok, m.begins)
	}
	end, endOk := impl.EndOfMeeting(list, start)
	if !endOk || end != m.end {
		t.Errorf("EndOfMeeting(%v, %d) = %d, %v; want %d", list, start, end, endOk, m.end)
	}
	idle, idleOk := impl.IdleMinutes(list, start)
	if !idleOk || idle != m.idle {
		t.Errorf("IdleMinutes(%v, %d) = %d, %v; want %d", list, start, idle, idleOk, m.idle)
	}
	all := idle
	for _, item := range list {
		all += item.Minutes
	}
	if all != end-start {
		t.Errorf("the meeting of %v lasts from %d to %d, with %d minutes", list, start, end, all)
	}
	if got, ok := impl.LateItems(list, start); !ok || !slices.Equal(got, m.lateOf(list)) {
		t.Errorf("LateItems(%v, %d) = %v, %v; want %v", list, start, got, ok, m.lateOf(list))
	}
	for _, turn := range slices.Concat([]int{start, m.end, 9999}, m.begins, m.ends) {
		for until := max(start, turn-1); until <= turn+1; until++ {
			if got, ok := impl.ItemsUntil(list, start, until); !ok || !slices.Equal(got, m.doneOf(list, until)) {
				t.Errorf("ItemsUntil(%v, %d, %d) = %v, %v; want %v", list, start, until, got, ok, m.doneOf(list, until))
			}
		}
	}
}

// checkNoMeeting checks what is not said of a list that is no agenda, or of a start that is none.
func checkNoMeeting(t *testing.T, name string, list []impl.AgendaItem, start int) {
	t.Helper()
	if got, ok := impl.ItemTimes(list, start); ok || len(got) != 0 {
		t.Error("ItemTimes:", name, start, got)
	}
	if got, ok := impl.EndOfMeeting(list, start); ok || got != 0 {
		t.Error("EndOfMeeting:", name, start, got)
	}
	if got, ok := impl.LateItems(list, start); ok || len(got) != 0 {
		t.Error("LateItems:", name, start, got)
	}
	if got, ok := impl.IdleMinutes(list, start); ok || got != 0 {
		t.Error("IdleMinutes:", name, start, got)
	}
	for _, end := range []int{start, 0, 540, 1440, 10000} {
		if got, ok := impl.ItemsUntil(list, start, end); ok || len(got) != 0 {
			t.Error("ItemsUntil:", name, start, end, got)
		}
	}
}

// movedTo returns an agenda in which an item has changed places with its neighbours until it has
// the index to.
func movedTo(list []impl.AgendaItem, from int, to int) []impl.AgendaItem {
	moved := slices.Clone(list)
	for ; from < to; from++ {
		moved[from], moved[from+1] = moved[from+1], moved[from]
	}
	for ; from > to; from-- {
		moved[from], moved[from-1] = moved[from-1], moved[from]
	}
	return moved
}

// inOrderOfTime returns an agenda in the order of OrderItems.
func inOrderOfTime(list []impl.AgendaItem) []impl.AgendaItem {
	ordered := []impl.AgendaItem{}
	for time := impl.NoTime; time <= 1439; time++ {
		for _, item := range list {
			if item.Time == time {
				ordered = append(ordered, item)
			}
		}
	}
	return ordered
}

// textOfItems writes the text of an agenda.
func textOfItems(list []impl.AgendaItem) string {
	text := ""
	for _, item := range list {
		time := ""
		if item.Time >= 0 {
			time = fmt.Sprintf(", not before %02d:%02d", item.Time/60, item.Time%60)
		}
		text += fmt.Sprintf("%d. %s (%d min%s)\n", item.Id, item.Title, item.Minutes, time)
	}
	return text
}

// checkAgenda checks all that is said of an agenda, whenever the meeting begins.
func checkAgenda(t *testing.T, list []impl.AgendaItem) {
	t.Helper()
	if !impl.IsValidAgenda(list) {
		t.Errorf("no agenda: %v", list)
	}
	for from, item := range list {
		for to := range list {
			if got, ok := impl.MoveItem(list, item.Id, to); !ok || !slices.Equal(got, movedTo(list, from, to)) {
				t.Errorf("MoveItem(%v, %d, %d) = %v, %v", list, item.Id, to, got, ok)
			}
		}
	}
	if got, ok := impl.OrderItems(list); !ok || !slices.Equal(got, inOrderOfTime(list)) {
		t.Errorf("OrderItems(%v) = %v, %v", list, got, ok)
	}
	text, ok := impl.AgendaText(list)
	if !ok || text != textOfItems(list) {
		t.Errorf("AgendaText(%v) = %q, %v", list, text, ok)
	}
	if got, ok := impl.ParseAgenda(text); !ok || !slices.Equal(got, list) {
		t.Errorf("ParseAgenda(%q) = %v, %v", text, got, ok)
	}
}

var agendaForm = textForm[impl.AgendaItem]{
	parse: impl.ParseAgenda, isValid: impl.IsValidAgenda, textOf: textOfItems,
	lines: regexp.MustCompile(
		`\A([1-9][0-9]?\. [a-z]{1,10} \(([1-9][0-9]?|1[0-9][0-9]|2[0-3][0-9]|240) min(, not before ([01][0-9]|2[0-3]):[0-5][0-9])?\)\n)*\z`),
}

func TestConstantsOfAgendas(t *testing.T) {
	if impl.MaxItems != 10 || impl.NoTime != -1 {
		t.Error("constants", impl.MaxItems, impl.NoTime)
	}
}

func TestIsValidAgenda(t *testing.T) {
	for n := 0; n <= impl.MaxItems; n++ {
		if !impl.IsValidAgenda(itemsOf(1, n)) || !impl.IsValidAgenda(itemsOf(100-n, n)) {
			t.Error("not valid, of size", n)
		}
	}
	if !impl.IsValidAgenda(nil) || !impl.IsValidAgenda(fiveItems()) {
		t.Error("not valid: none or five")
	}
	for id := 1; id <= 99; id++ {
		for _, title := range []string{"a", "z", "abcdefghij", "zzzzzzzzzz"} {
			for _, minutes := range []int{1, 2, 239, 240} {
				for _, time := range []int{impl.NoTime, 0, 1, 1438, 1439} {
					item := impl.AgendaItem{Id: id, Title: title, Minutes: minutes, Time: time}
					if !impl.IsValidAgenda([]impl.AgendaItem{item}) {
						t.Error("not valid", item)
					}
				}
			}
		}
	}
	// Only the Ids have to be different, in any order.
	same := timedItems(5, 540, 540, 540)
	for _, ids := range [][3]int{{1, 2, 3}, {3, 2, 1}, {50, 99, 1}} {
		for i := range same {
			same[i].Id = ids[i]
		}
		if !impl.IsValidAgenda(same) {
			t.Error("not valid", same)
		}
	}
	for name, list := range invalidAgendas() {
		if impl.IsValidAgenda(list) {
			t.Error("valid:", name)
		}
	}
}

func TestTwoItemsWithOneId(t *testing.T) {
	for first := range impl.MaxItems {
		for second := range impl.MaxItems {
			list := itemsOf(20, impl.MaxItems)
			list[second].Id = list[first].Id
			if got := impl.IsValidAgenda(list); got != (first == second) {
				t.Errorf("the Id of the item %d at %d: %v", first, second, got)
			}
		}
	}
}

func TestEveryByteInATitle(t *testing.T) {
	for c := range 256 {
		sign := string([]byte{byte(c)})
		for _, title := range []string{sign, "a" + sign, sign + "z"} {
			list := itemsOf(1, 1)
			list[0].Title = title
			if got := impl.IsValidAgenda(list); got != (c >= 'a' && c <= 'z') {
				t.Errorf("the Title %q: %v", title, got)
			}
		}
	}
}

func TestTheMinutesOfAllItemsAndTheIdleOnesAreTheMeeting(t *testing.T) {
	for _, first := range []int{0, 1435} {
		eachAgenda(first, func(list []impl.AgendaItem) {
			for start := first; start < first+5; start++ {
				checkMeeting(t, list, start)
			}
		})
	}
	eachMixtureOfItems(3000, func(list []impl.AgendaItem, start int) { checkMeeting(t, list, start) })
	for _, start := range []int{0, 1, 540, 1438, 1439} {
		for n := range impl.MaxItems + 1 {
			checkMeeting(t, itemsOf(1, n), start)
		}
		checkMeeting(t, fiveItems(), start)
		checkMeeting(t, timedItems(240, 0, 0, 0, 0, 0, 0, 0, 0, 0, 0), start)
		checkMeeting(t, timedItems(240, 1439, 1439, 1439, 1439, 1439, -1, -1, -1, -1, -1), start)
		checkMeeting(t, timedItems(1, 1439, 1438, 1437, 0, -1, -1, 0, 1437, 1438, 1439), start)
	}
}

func TestFiveItems(t *testing.T) {
	list := fiveItems()
	if got, ok := impl.ItemTimes(list, 540); !ok || !slices.Equal(got, []int{540, 570, 595, 625, 630}) {
		t.Error("times", got, ok)
	}
	if got, ok := impl.EndOfMeeting(list, 540); !ok || got != 870 {
		t.Error("end", got, ok)
	}
	if got, ok := impl.LateItems(list, 540); !ok || !slices.Equal(got, []int{12}) {
		t.Error("late", got, ok)
	}
	if got, ok := impl.IdleMinutes(list, 540); !ok || got != 20 {
		t.Error("idle", got, ok)
	}
	if got, ok := impl.ItemsUntil(list, 540, 625); !ok || !slices.Equal(got, []int{7, 3, 12}) {
		t.Error("until", got, ok)
	}
	if got, ok := impl.MoveItem(list, 12, 0); !ok || textOfItems(got[:2]) != "12. bylaws (30 min, not before 09:40)\n7. call (10 min)\n" {
		t.Error("moved", got, ok)
	}
	if got, ok := impl.OrderItems(list); !ok || !slices.Equal(got, []impl.AgendaItem{list[0], list[4], list[1], list[2], list[3]}) {
		t.Error("ordered", got, ok)
	}
	if got, ok := impl.AgendaText(list); !ok || got != fiveItemsText {
		t.Errorf("text %q, %v", got, ok)
	}
	if got, ok := impl.ParseAgenda(fiveItemsText); !ok || !slices.Equal(got, list) {
		t.Error("parsed", got, ok)
	}
}

func TestMeetings(t *testing.T) {
	for _, c := range []struct {
		minutes int
		times   []int
		start   int
		begins  []int
		end     int
		idle    int
		late    []int
	}{
		{5, nil, 0, nil, 0, 0, nil},
		{5, nil, 1439, nil, 1439, 0, nil},
		{5, []int{-1}, 0, []int{0}, 5, 0, nil},
		{1, []int{-1, -1}, 1439, []int{1439, 1440}, 1441, 0, nil},
		// The first item has to wait as well.
		{5, []int{541}, 540, []int{541}, 546, 1, nil},
		{5, []int{540}, 540, []int{540}, 545, 0, nil},
		{5, []int{539}, 540, []int{540}, 545, 0, []int{1}},
		{5, []int{0}, 0, []int{0}, 5, 0, nil},
		{5, []int{0}, 1, []int{1}, 6, 0, []int{1}},
		{5, []int{0}, 1439, []int{1439}, 1444, 0, []int{1}},
		{240, []int{1439}, 0, []int{1439}, 1679, 1439, nil},
		{5, []int{-1, 546, 551, 555}, 540, []int{540, 546, 551, 556}, 561, 1, []int{4}},
		// A Time that is past by one day is past: nobody waits until the next one.
		{10, []int{1430, 1435, 1439, 5, -1}, 1425, []int{1430, 1440, 1450, 1460, 1470}, 1480, 5, []int{2, 3, 4}},
		{240, []int{-1, -1, -1, -1, -1, -1, -1, -1, -1, 1439}, 1439, []int{1439, 1679, 1919, 2159, 2399, 2639, 2879, 3119, 3359, 3599}, 3839, 0, []int{10}},
	} {
		list := timedItems(c.minutes, c.times...)
		if got, ok := impl.ItemTimes(list, c.start); !ok || !slices.Equal(got, c.begins) {
			t.Errorf("times of %v from %d: %v, %v", c.times, c.start, got, ok)
		}
		if got, ok := impl.EndOfMeeting(list, c.start); !ok || got != c.end {
			t.Errorf("end of %v from %d: %v, %v", c.times, c.start, got, ok)
		}
		if got, ok := impl.IdleMinutes(list, c.start); !ok || got != c.idle {
			t.Errorf("idle in %v from %d: %v, %v", c.times, c.start, got, ok)
		}
		if got, ok := impl.LateItems(list, c.start); !ok || !slices.Equal(got, c.late) {
			t.Errorf("late in %v from %d: %v, %v", c.times, c.start, got, ok)
		}
		checkMeeting(t, list, c.start)
	}
}

func TestNoMeeting(t *testing.T) {
	for _, start := range noMinutesOfDay {
		checkNoMeeting(t, "none", nil, start)
		checkNoMeeting(t, "five", fiveItems(), start)
		checkNoMeeting(t, "MaxItems", itemsOf(1, 10), start)
	}
	for name, list := range invalidAgendas() {
		for _, start := range []int{0, 540, 1439, -1, 1440} {
			checkNoMeeting(t, name, list, start)
		}
	}
}

func TestItemsUntil(t *testing.T) {
	for _, c := range []struct {
		end  int
		want []int
	}{
		{540, nil}, {549, nil}, {550, []int{7}}, {551, []int{7}}, {570, []int{7}}, {594, []int{7}}, {595, []int{7, 3}},
		{624, []int{7, 3}}, {625, []int{7, 3, 12}}, {629, []int{7, 3, 12}}, {630, []int{7, 3, 12, 99}}, {869, []int{7, 3, 12, 99}},
		{870, []int{7, 3, 12, 99, 1}}, {871, []int{7, 3, 12, 99, 1}}, {1440, []int{7, 3, 12, 99, 1}}, {9999, []int{7, 3, 12, 99, 1}}, {10000, []int{7, 3, 12, 99, 1}},
	} {
		if got, ok := impl.ItemsUntil(fiveItems(), 540, c.end); !ok || !slices.Equal(got, c.want) {
			t.Errorf("until %d: %v, %v; want %v", c.end, got, ok, c.want)
		}
	}
	for _, start := range []int{0, 540, 1439} {
		for _, list := range [][]impl.AgendaItem{nil, fiveItems(), itemsOf(1, 10)} {
			for _, end := range []int{start, 10000} {
				if _, ok := impl.ItemsUntil(list, start, end); !ok {
					t.Error("failed", list, start, end)
				}
			}
			for _, end := range []int{start - 1, -1, 10001, 10002, 1<<32 + 870, math.MinInt, math.MaxInt} {
				if got, ok := impl.ItemsUntil(list, start, end); ok || len(got) != 0 {
					t.Error("not failed", list, start, end, got)
				}
			}
		}
	}
}

func TestAgendasAreRecoveredOrderedAndMoved(t *testing.T) {
	for _, first := range []int{0, 596, 1435} {
		eachAgenda(first, func(list []impl.AgendaItem) { checkAgenda(t, list) })
	}
	eachMixtureOfItems(500, func(list []impl.AgendaItem, _ int) { checkAgenda(t, list) })
	for n := range impl.MaxItems + 1 {
		checkAgenda(t, itemsOf(1, n))
		checkAgenda(t, itemsOf(100-n, n))
	}
	checkAgenda(t, timedItems(240, 540, 540, 540, 540, 540, 540, 540, 540, 540, 540))
	checkAgenda(t, timedItems(240, 1439, 1439, -1, 0, -1, 0, 1439, -1, 0, 700))
}

func TestEveryFieldInAnAgendaText(t *testing.T) {
	item := impl.AgendaItem{Id: 99, Title: "abcdefghij", Minutes: 240}
	for time := impl.NoTime; time <= 1439; time++ {
		item.Time = time
		checkAgenda(t, []impl.AgendaItem{item})
	}
	for minutes := 1; minutes <= 240; minutes++ {
		for _, time := range []int{impl.NoTime, 0, 1439} {
			checkAgenda(t, []impl.AgendaItem{{Id: 1, Title: "a", Minutes: minutes, Time: time}})
		}
	}
	for id := 1; id <= 99; id++ {
		for _, title := range []string{"a", "z", "min", "not", "before", "abcdefghij"} {
			checkAgenda(t, []impl.AgendaItem{{Id: id, Title: title, Minutes: 7, Time: impl.NoTime}, {Id: id%99 + 1, Title: title, Minutes: 7, Time: 540}})
		}
	}
}

func TestMoveItem(t *testing.T) {
	for _, c := range []struct {
		id, to int
		want   []int
	}{
		{7, 0, []int{7, 3, 12, 99, 1}}, {7, 1, []int{3, 7, 12, 99, 1}}, {7, 4, []int{3, 12, 99, 1, 7}},
		{12, 0, []int{12, 7, 3, 99, 1}}, {12, 1, []int{7, 12, 3, 99, 1}}, {12, 2, []int{7, 3, 12, 99, 1}}, {12, 3, []int{7, 3, 99, 12, 1}}, {12, 4, []int{7, 3, 99, 1, 12}},
		{1, 0, []int{1, 7, 3, 12, 99}}, {1, 3, []int{7, 3, 12, 1, 99}}, {1, 4, []int{7, 3, 12, 99, 1}},
	} {
		got, ok := impl.MoveItem(fiveItems(), c.id, c.to)
		ids := []int{}
		for _, item := range got {
			ids = append(ids, item.Id)
			if !slices.Contains(fiveItems(), item) {
				t.Error("another item", item)
			}
		}
		if !ok || !slices.Equal(ids, c.want) {
			t.Errorf("the item %d to %d: %v, %v; want %v", c.id, c.to, ids, ok, c.want)
		}
	}
}

func TestMoveItemInvalid(t *testing.T) {
	for _, list := range [][]impl.AgendaItem{nil, fiveItems()[:1], fiveItems(), itemsOf(1, 10)} {
		for _, to := range []int{-1, len(list), len(list) + 1, 10, 1 << 32, -1 << 32, math.MinInt, math.MaxInt} {
			for _, id := range []int{1, 7, 0} {
				if got, ok := impl.MoveItem(list, id, to); ok || len(got) != 0 {
					t.Errorf("the item %d of %v to %d: %v", id, list, to, got)
				}
			}
		}
		for _, id := range []int{0, 11, 98, 100, -7, 1<<32 + 7, math.MinInt, math.MaxInt} {
			for to := -1; to <= len(list); to++ {
				if got, ok := impl.MoveItem(list, id, to); ok || len(got) != 0 {
					t.Errorf("the item %d of %v to %d: %v", id, list, to, got)
				}
			}
		}
	}
}

func TestOrderItems(t *testing.T) {
	for _, c := range []struct {
		times []int
		want  []int
	}{
		{nil, nil}, {[]int{-1}, []int{1}}, {[]int{540}, []int{1}}, {[]int{540, -1}, []int{2, 1}}, {[]int{-1, 540}, []int{1, 2}}, {[]int{0, -1}, []int{2, 1}},
		{[]int{541, 540}, []int{2, 1}}, {[]int{540, 541}, []int{1, 2}}, {[]int{540, 540}, []int{1, 2}}, {[]int{-1, -1, -1}, []int{1, 2, 3}},
		{[]int{1439, -1, 0, -1, 1439, 0}, []int{2, 4, 3, 6, 1, 5}},
		{[]int{9, 8, 7, 6, 5, 4, 3, 2, 1, 0}, []int{10, 9, 8, 7, 6, 5, 4, 3, 2, 1}},
		{[]int{600, 540, 600, 540, -1, 600, 540, -1, 600, 540}, []int{5, 8, 2, 4, 7, 10, 1, 3, 6, 9}},
	} {
		list := timedItems(5, c.times...)
		want := []impl.AgendaItem{}
		for _, id := range c.want {
			want = append(want, list[id-1])
		}
		if got, ok := impl.OrderItems(list); !ok || !slices.Equal(got, want) {
			t.Errorf("of %v: %v, %v; want %v", c.times, got, ok, want)
		}
	}
}

func TestAgendaText(t *testing.T) {
	for _, c := range []struct {
		time int
		want string
	}{
		{impl.NoTime, "3. budget (25 min)\n"}, {570, "3. budget (25 min, not before 09:30)\n"}, {0, "3. budget (25 min, not before 00:00)\n"},
		{1, "3. budget (25 min, not before 00:01)\n"}, {59, "3. budget (25 min, not before 00:59)\n"}, {60, "3. budget (25 min, not before 01:00)\n"},
		{599, "3. budget (25 min, not before 09:59)\n"}, {600, "3. budget (25 min, not before 10:00)\n"}, {1439, "3. budget (25 min, not before 23:59)\n"},
	} {
		if got, ok := impl.AgendaText([]impl.AgendaItem{{Id: 3, Title: "budget", Minutes: 25, Time: c.time}}); !ok || got != c.want {
			t.Errorf("at %d: %q, %v", c.time, got, ok)
		}
	}
	if got, ok := impl.AgendaText(nil); !ok || got != "" {
		t.Errorf("of none: %q, %v", got, ok)
	}
	if got, ok := impl.ParseAgenda(""); !ok || len(got) != 0 {
		t.Error("of the empty text", got, ok)
	}
}

func TestInvalidAgendas(t *testing.T) {
	for name, list := range invalidAgendas() {
		for _, item := range list[:min(len(list), 11)] {
			for to := range min(len(list), 11) {
				if got, ok := impl.MoveItem(list, item.Id, to); ok || len(got) != 0 {
					t.Error("MoveItem:", name, item.Id, to, got)
				}
			}
		}
		if got, ok := impl.OrderItems(list); ok || len(got) != 0 {
			t.Error("OrderItems:", name, got)
		}
		if got, ok := impl.AgendaText(list); ok || got != "" {
			t.Errorf("AgendaText: %s: %.80q", name, got)
		}
		if text := textOfItems(list[:min(len(list), 20)]); len(text) <= impl.MaxString {
			// The text of an invalid Time is that of another one or of none, and may be an agenda's.
			agendaForm.check(t, text)
		}
	}
}

func TestParseAgendaInvalid(t *testing.T) {
	for _, s := range []string{
		"\n", "\n\n", " ", " \n", "x", "x\n", ". \n", ".  ( min)\n", ". ( min)\n", "3\n", "3.\n", "3. \n", "3. budget\n", "3. budget \n", "3. budget (\n", "3. budget (25\n",
		"budget (25 min)\n", " budget (25 min)\n", ". budget (25 min)\n", "3. (25 min)\n", "3.  (25 min)\n", "3. budget (min)\n", "3. budget ( min)\n",
		"3. budget (25)\n", "3. budget (25 )\n",
		"3. budget 25 min)\n", "3. budget (25 min\n", "3. budget 25 min\n", "3 budget (25 min)\n", "3.budget (25 min)\n", "3. budget(25 min)\n", "3. budget (25min)\n",
		"3: budget (25 min)\n",
		"3. budget (25 min)", "3. budget (25 min)\n\n", "\n3. budget (25 min)\n", "3. budget (25 min)\r\n", "3. budget (25 min)\n ", "3. budget (25 min)\x00\n",
		"3. budget (25 min);",
		"3.  budget (25 min)\n", "3. budget  (25 min)\n", "3. budget (25  min)\n", "3. budget ( 25 min)\n", "3. budget (25 min )\n", " 3. budget (25 min)\n",
		"3. budget (25 min) \n", "3 . budget (25 min)\n",
		"03. budget (25 min)\n", "+3. budget (25 min)\n", "-3. budget (25 min)\n", "-0. budget (25 min)\n", "0. budget (25 min)\n", "100. budget (25 min)\n",
		"x. budget (25 min)\n", "3.0. budget (25 min)\n", "3.. budget (25 min)\n",
		"4294967299. budget (25 min)\n", "18446744073709551619. budget (25 min)\n",
		"3. Budget (25 min)\n", "3. budg3t (25 min)\n", "3. abcdefghijk (25 min)\n", "3. the budget (25 min)\n", "3. b. c (25 min)\n", "3. b (c (25 min)\n",
		"3. caf\u00e9 (25 min)\n", "3. 4. budget (25 min)\n",
		"3. budget (025 min)\n", "3. budget (0 min)\n", "3. budget (241 min)\n", "3. budget (-25 min)\n", "3. budget (+25 min)\n", "3. budget (x min)\n",
		"3. budget (1000000 min)\n", "3. budget (25 minutes)\n", "3. budget (25 Min)\n", "3. budget (25 h)\n",
		"3. budget (25 min min)\n", "3. budget (25 min))\n", "3. budget ((25 min)\n", "3. budget [25 min]\n", "3. budget (25 min) (25 min)\n", "3. budget (25 min,)\n",
		"3. budget (25 min, )\n",
		"3. budget (25 min)\n3. budget (25 min)\n", "3. budget (25 min)\n3. call (10 min)\n", "3. a (1 min)\n4. b (2 min)\n3. c (3 min)\n",
		"3. budget (25 min)\n4. call (10 min)", "3. budget (25 min)\n\n4. call (10 min)\n", "3. budget (25 min)4. call (10 min)\n", "3. budget (25 min)\n4. call (241 min)\n",
		textOfItems(itemsOf(1, 11)), textOfItems(itemsOf(1, 99)), strings.Repeat("\n", 4000), strings.Repeat("\n", 4001), strings.Repeat(" ", 5000),
		strings.Repeat(fiveItemsText, 2), strings.Repeat(fiveItemsText, 10000), "3. " + strings.Repeat("a", 5000) + " (25 min)\n", "3. budget (" + strings.Repeat("9", 5000) + " min)\n",
	} {
		agendaForm.checkNone(t, s)
	}
}

func TestParseAgendaWithInvalidTimes(t *testing.T) {
	for _, s := range []string{
		"9:30", "09:3", "9:3", "09:030", "009:30", "0930", "09.30", "09:30:00", ":30", "09:", ":", "", "09", "30", "09::30", "09 :30", "09: 30", " 09:30", "09:30 ",
		"24:00", "24:30", "23:60", "09:60", "09:90", "09:99", "25:00", "99:59", "00:60", "00:1440", "00:570", "10:-30", "09:+30", "+9:30", "-9:30", "00:-1", "-0:01",
		"00:-0", "00:0-1", "0-:01",
		"9a:30", "xx:30", "09:xx", "0x9:30", "0x:30", "1_:00", "1_0:00", "09:3_", "4294967305:30", "18446744073709551625:30", "153722867280912930:46", "09:30)", "(09:30",
		"noon", "never", "-1", "09:30, not before 09:30", "09:30 min", "09:30, 09:40",
	} {
		agendaForm.checkNone(t, "3. budget (25 min, not before "+s+")\n")
	}
	for _, s := range []string{
		"3. budget (25 min, not before)\n", "3. budget (25 min, before 09:30)\n", "3. budget (25 min, not 09:30)\n", "3. budget (25 min, 09:30)\n",
		"3. budget (25 min 09:30)\n",
		"3. budget (25 min not before 09:30)\n", "3. budget (25 min,not before 09:30)\n", "3. budget (25 min,  not before 09:30)\n", "3. budget (25 min, not  before 09:30)\n",
		"3. budget (25 min , not before 09:30)\n", "3. budget (25 min, before not 09:30)\n", "3. budget (25 min, not after 09:30)\n", "3. budget (25 min, Not before 09:30)\n",
		"3. budget (25 min, not before09:30)\n", "3. budget (25 min, not before 09:30\n", "3. budget (25 min, not before 09:30)",
		"3. budget (25 min), not before 09:30\n", "3. budget (25 min), not before 09:30)\n",
		"3. budget (not before 09:30)\n", "3. budget (not before 09:30, 25 min)\n", "3. budget, not before 09:30 (25 min)\n", "3. budget (, not before 09:30)\n",
	} {
		agendaForm.checkNone(t, s)
	}
}

func TestParseAgendaWithEveryNumber(t *testing.T) {
	for high := range 100 {
		for low := range 100 {
			agendaForm.check(t, fmt.Sprintf("3. budget (25 min, not before %02d:%02d)\n", high, low))
		}
		for _, format := range []string{"%d:00", "00:%d", "%03d:00", "00:%03d", "%d:%[1]d"} {
			agendaForm.check(t, fmt.Sprintf("3. budget (25 min, not before "+format+")\n", high))
		}
	}
	for n := -300; n <= 300; n++ {
		for _, format := range []string{"%d. budget (25 min)\n", "%02d. budget (25 min)\n", "3. budget (%d min)\n", "3. budget (%03d min)\n", "%d. budget (%[1]d min)\n"} {
			agendaForm.check(t, fmt.Sprintf(format, n))
		}
	}
}

func TestParseAgendaOnChangedText(t *testing.T) {
	for _, text := range []string{
		fiveItemsText, "1. a (1 min)\n", "99. abcdefghij (240 min, not before 23:59)\n", "5. min (10 min, not before 00:00)\n", textOfItems(itemsOf(1, 10)),
	} {
		eachChange(text, func(s string) { agendaForm.check(t, s) })
	}
	agendaForm.checkCuts(t, fiveItemsText)
}

func TestParseAgendaOnWords(t *testing.T) {
	words := []string{"3.", "budget", "(25", "min,", "min)", "not", "before", "09:30)", ""}
	for _, start := range words {
		eachSequence(words, 3, start, func(s string) { agendaForm.check(t, s+"\n") })
	}
	eachSequence(words, 4, "3. budget (25", func(s string) { agendaForm.check(t, s+"\n") })
	eachOrder(strings.Split("3. budget (25 min, not before 09:30)", " "), 0, func(order []string) {
		agendaForm.check(t, strings.Join(order, " ")+"\n")
	})
}

func TestAgendaFunctionsLeaveTheirArguments(t *testing.T) {
	beyond := impl.AgendaItem{Id: -1, Title: "beyond the length"}
	memory := append([]impl.AgendaItem{beyond}, append(fiveItems(), beyond, beyond)...)
	kept := slices.Clone(memory)
	list := memory[1:6]
	results := [][]impl.AgendaItem{}
	keep := func(result []impl.AgendaItem, _ bool) { results = append(results, result) }
	for to := -1; to <= len(list); to++ {
		for _, item := range memory {
			keep(impl.MoveItem(list, item.Id, to))
		}
		keep(impl.MoveItem(memory[2:3], 3, to))
	}
	for size := range len(list) + 1 {
		keep(impl.OrderItems(list[:size]))
	}
	keep(impl.OrderItems(memory))
	for _, result := range results {
		// Even what lies beyond the length of a result must not be the argument's memory.
		result = result[:cap(result)]
		for i := range result {
			result[i] = beyond
		}
	}
	for _, start := range []int{540, -1} {
		impl.ItemTimes(list, start)
		impl.EndOfMeeting(list, start)
		impl.LateItems(list, start)
		impl.IdleMinutes(list, start)
		impl.ItemsUntil(list, start, 625)
	}
	impl.IsValidAgenda(list)
	impl.AgendaText(list)
	if !slices.Equal(memory, kept) {
		t.Error("changed", memory)
	}
	checkAgenda(t, list)
	checkMeeting(t, list, 540)
}

func TestAgendaResultsAreRepeated(t *testing.T) {
	begins, _ := impl.ItemTimes(fiveItems(), 540)
	late, _ := impl.LateItems(fiveItems(), 540)
	done, _ := impl.ItemsUntil(fiveItems(), 540, 870)
	moved, _ := impl.MoveItem(fiveItems(), 12, 4)
	ordered, _ := impl.OrderItems(fiveItems())
	parsed, _ := impl.ParseAgenda(fiveItemsText)
	begins[0], late[0], done[0] = 50, 50, 50
	moved[0], ordered[0], parsed[0] = impl.AgendaItem{}, impl.AgendaItem{}, impl.AgendaItem{}
	checkMeeting(t, fiveItems(), 540)
	checkAgenda(t, fiveItems())
}
