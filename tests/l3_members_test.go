package tests

import (
	"fmt"
	"math"
	"regexp"
	"slices"
	"strconv"
	"strings"
	"testing"

	"loop.example/g00909/impl"
)

// fiveMembers returns a list with gaps between the Numbers, in which each office has a holder.
func fiveMembers() []impl.Member {
	return []impl.Member{
		{Number: 2, Name: "emil", Office: impl.OfficeTreasurer},
		{Number: 3, Name: "dora"},
		{Number: 7, Name: "ada", Office: impl.OfficeChair},
		{Number: 12, Name: "bo"},
		{Number: 99, Name: "chair", Office: impl.OfficeSecretary},
	}
}

const fiveMembersText = "2 emil (treasurer)\n3 dora\n7 ada (chair)\n12 bo\n99 chair (secretary)\n"

// noOffices are numbers that are no office.
var noOffices = []int{-1, 4, 5, 1<<32 + 1, math.MinInt, math.MaxInt}

// noWords are strings that are no Name.
var noWords = []string{
	"", "abcdefghijk", "A", "aB", "Za", "a1", "1", "a-b", "a b", " a", "a ", "a\n", "\na", "`", "{", "a`", "z{", "(chair)", "a (chair)",
	"\u00e9", "a\xe1", "\x00", strings.Repeat("a", 100000),
}

// membersOf returns n members without an office with the Numbers from the first one on.
func membersOf(first int, n int) []impl.Member {
	list := []impl.Member{}
	for i := range n {
		list = append(list, impl.Member{Number: first + i, Name: string([]byte{byte('a' + i%26)})})
	}
	return list
}

// invalidMemberLists returns lists that are not valid, by what is wrong with them.
func invalidMemberLists() map[string][]impl.Member {
	lists := map[string][]impl.Member{
		"above MaxMembers":     membersOf(1, 13),
		"far above MaxMembers": make([]impl.Member, 100000),
		"a zero Member":        {{}},
		"descending Numbers":   {{Number: 3, Name: "a"}, {Number: 2, Name: "b"}},
		"a last lower Number":  {{Number: 1, Name: "a"}, {Number: 3, Name: "b"}, {Number: 2, Name: "c"}},
		"one Number":           {{Number: 3, Name: "a"}, {Number: 3, Name: "b"}},
		"one Name":             {{Number: 1, Name: "a"}, {Number: 3, Name: "a"}},
		"one Name, far apart":  {{Number: 1, Name: "a"}, {Number: 2, Name: "b"}, {Number: 3, Name: "a", Office: impl.OfficeChair}},
		"one member twice":     {{Number: 3, Name: "a"}, {Number: 3, Name: "a"}},
	}
	for office := impl.OfficeChair; office <= impl.OfficeTreasurer; office++ {
		other := office%impl.OfficeTreasurer + 1
		lists[fmt.Sprint("an office held twice: ", office)] = []impl.Member{
			{Number: 1, Name: "a", Office: office}, {Number: 2, Name: "b", Office: office},
		}
		lists[fmt.Sprint("an office held twice, far apart: ", office)] = []impl.Member{
			{Number: 1, Name: "a", Office: office}, {Number: 2, Name: "b", Office: other}, {Number: 3, Name: "c"}, {Number: 4, Name: "d", Office: office},
		}
	}
	for name, m := range invalidMembers() {
		lists["alone, "+name] = []impl.Member{m}
		// The others stand around the invalid one where its Number allows it.
		if m.Number == 5 {
			lists["amid others, "+name] = []impl.Member{{Number: 1, Name: "ada"}, m, {Number: 9, Name: "bo"}}
		}
	}
	return lists
}

// invalidMembers returns Members of whom exactly one field is invalid, by what is wrong with them.
func invalidMembers() map[string]impl.Member {
	members := map[string]impl.Member{}
	for _, number := range []int{0, 100, -1, math.MaxInt, math.MinInt, 1 << 32, 1<<32 + 1} {
		members["Number "+strconv.Itoa(number)] = impl.Member{Number: number, Name: "x"}
	}
	for _, name := range noWords {
		members[fmt.Sprintf("Name %.20q", name)] = impl.Member{Number: 5, Name: name}
	}
	for _, office := range noOffices {
		members["Office "+strconv.Itoa(office)] = impl.Member{Number: 5, Name: "x", Office: office}
	}
	return members
}

// eachMemberList calls visit with four members and every way in which they may hold the offices.
func eachMemberList(visit func([]impl.Member)) {
	for code := range 256 {
		list := []impl.Member{{Number: 1, Name: "dan"}, {Number: 2, Name: "ada"}, {Number: 50, Name: "ad"}, {Number: 98, Name: "cleo"}}
		held := [4]int{}
		for i := range list {
			list[i].Office = code >> (2 * i) & 3
			held[list[i].Office]++
		}
		if held[1] <= 1 && held[2] <= 1 && held[3] <= 1 {
			visit(list)
		}
	}
}

// textOfMembers writes the text of a valid list.
func textOfMembers(list []impl.Member) string {
	text := ""
	for _, m := range list {
		text += fmt.Sprintf("%d %s%s\n", m.Number, m.Name, []string{"", " (chair)", " (secretary)", " (treasurer)"}[m.Office])
	}
	return text
}

var memberForm = textForm[impl.Member]{
	parse: impl.ParseMembers, isValid: impl.IsValidMembers, textOf: textOfMembers,
	lines: regexp.MustCompile(`\A([1-9][0-9]? [a-z]{1,10}( \((chair|secretary|treasurer)\))?\n)*\z`),
}

func TestConstantsOfMembers(t *testing.T) {
	if impl.OfficeNone != 0 || impl.OfficeChair != 1 || impl.OfficeSecretary != 2 || impl.OfficeTreasurer != 3 || impl.MaxMembers != 12 {
		t.Error("constants", impl.OfficeNone, impl.OfficeChair, impl.OfficeSecretary, impl.OfficeTreasurer, impl.MaxMembers)
	}
}

func TestIsValidMembers(t *testing.T) {
	for n := 0; n <= impl.MaxMembers; n++ {
		if !impl.IsValidMembers(membersOf(1, n)) || !impl.IsValidMembers(membersOf(100-n, n)) {
			t.Error("not valid, of size", n)
		}
	}
	if !impl.IsValidMembers(nil) || !impl.IsValidMembers(fiveMembers()) {
		t.Error("not valid: none or five")
	}
	for number := 1; number <= 99; number++ {
		for _, name := range []string{"a", "z", "abcdefghij", "zzzzzzzzzz", "chair"} {
			for office := impl.OfficeNone; office <= impl.OfficeTreasurer; office++ {
				m := impl.Member{Number: number, Name: name, Office: office}
				if !impl.IsValidMembers([]impl.Member{m}) {
					t.Error("not valid", m)
				}
			}
		}
	}
	eachMemberList(func(list []impl.Member) {
		if !impl.IsValidMembers(list) {
			t.Error("not valid", list)
		}
	})
	for name, list := range invalidMemberLists() {
		if impl.IsValidMembers(list) {
			t.Error("valid:", name)
		}
	}
}

func TestEveryByteInANameOfAMember(t *testing.T) {
	for c := range 256 {
		letter := c >= 'a' && c <= 'z'
		sign := string([]byte{byte(c)})
		for _, name := range []string{sign, "a" + sign, sign + "z"} {
			if got := impl.IsValidMembers([]impl.Member{{Number: 1, Name: name}}); got != letter {
				t.Errorf("the Name %q: %v", name, got)
			}
			if _, _, ok := impl.AdmitMember(nil, name); ok != letter {
				t.Errorf("admitted with the Name %q: %v", name, ok)
			}
		}
	}
}

func TestAdmitMember(t *testing.T) {
	for _, c := range []struct {
		numbers []int
		want    int
		at      int
	}{
		{nil, 1, 0}, {[]int{1}, 2, 1}, {[]int{2}, 1, 0}, {[]int{99}, 1, 0}, {[]int{1, 2}, 3, 2}, {[]int{1, 3}, 2, 1}, {[]int{2, 3}, 1, 0},
		{[]int{1, 2, 4, 6}, 3, 2}, {[]int{1, 3, 5, 7}, 2, 1}, {[]int{1, 98, 99}, 2, 1}, {[]int{1, 2, 3, 99}, 4, 3},
		{[]int{1, 2, 3, 4, 5, 6, 7, 8, 9, 10, 11}, 12, 11}, {[]int{1, 2, 3, 4, 5, 7, 8, 9, 10, 11, 12}, 6, 5},
		{[]int{2, 3, 4, 5, 6, 7, 8, 9, 10, 11, 12}, 1, 0}, {[]int{1, 2, 3, 4, 5, 6, 7, 8, 9, 10, 99}, 11, 10},
	} {
		list := membersOf(1, len(c.numbers))
		for i, number := range c.numbers {
			list[i].Number = number
			list[i].Office = max(0, 3-i)
		}
		for _, name := range []string{"z", "abcdefghij", "chair"} {
			want := slices.Insert(slices.Clone(list), c.at, impl.Member{Number: c.want, Name: name})
			got, number, ok := impl.AdmitMember(list, name)
			if !ok || number != c.want || !slices.Equal(got, want) {
				t.Errorf("%q to %v: %v, %d, %v", name, list, got, number, ok)
			}
		}
	}
}

func TestAdmitMembersUntilThereAreMaxMembers(t *testing.T) {
	list := []impl.Member{{Number: 1, Name: "first", Office: impl.OfficeChair}, {Number: 5, Name: "fifth"}}
	for _, number := range []int{2, 3, 4, 6, 7, 8, 9, 10, 11, 12} {
		longer, got, ok := impl.AdmitMember(list, string([]byte{byte('z' - number)}))
		if !ok || got != number || len(longer) != len(list)+1 || !impl.IsValidMembers(longer) {
			t.Fatal("admitted", longer, got, ok)
		}
		list = longer
	}
	if got, number, ok := impl.AdmitMember(list, "late"); ok || number != 0 || len(got) != 0 {
		t.Error("admitted above MaxMembers", got, number)
	}
}

func TestAdmitMemberInvalid(t *testing.T) {
	for _, m := range fiveMembers() {
		if got, number, ok := impl.AdmitMember(fiveMembers(), m.Name); ok || number != 0 || len(got) != 0 {
			t.Error("admitted again:", m.Name, got, number)
		}
	}
	for _, name := range noWords {
		for _, list := range [][]impl.Member{nil, fiveMembers(), membersOf(1, 12)} {
			if got, number, ok := impl.AdmitMember(list, name); ok || number != 0 || len(got) != 0 {
				t.Errorf("admitted with the Name %.20q: %v, %d", name, got, number)
			}
		}
	}
	for name, list := range invalidMemberLists() {
		if got, number, ok := impl.AdmitMember(list, "good"); ok || number != 0 || len(got) != 0 {
			t.Error("admitted to a list:", name, number)
		}
	}
}

func TestExpelMember(t *testing.T) {
	for i, m := range fiveMembers() {
		got, ok := impl.ExpelMember(fiveMembers(), m.Number)
		if m.Office == impl.OfficeChair {
			if ok || len(got) != 0 {
				t.Error("expelled the chair", got)
			}
		} else if want := slices.Delete(fiveMembers(), i, i+1); !ok || !slices.Equal(got, want) {
			t.Errorf("expelled %d: %v, %v", m.Number, got, ok)
		}
	}
	if got, ok := impl.ExpelMember([]impl.Member{{Number: 4, Name: "a"}}, 4); !ok || len(got) != 0 {
		t.Error("the last one", got, ok)
	}
	for _, number := range []int{0, 1, 4, 98, 100, -2, math.MinInt, math.MaxInt, 1<<32 + 2} {
		if got, ok := impl.ExpelMember(fiveMembers(), number); ok || len(got) != 0 {
			t.Error("expelled", number, got)
		}
	}
	if got, ok := impl.ExpelMember(nil, 0); ok || len(got) != 0 {
		t.Error("expelled from no members", got)
	}
	for name, list := range invalidMemberLists() {
		for _, m := range list[:min(len(list), 13)] {
			if got, ok := impl.ExpelMember(list, m.Number); ok || len(got) != 0 {
				t.Error("expelled from a list:", name, got)
			}
		}
	}
}

func TestWhoIsGivenAnOfficeHoldsIt(t *testing.T) {
	eachMemberList(func(list []impl.Member) {
		for i, m := range list {
			for office := impl.OfficeNone; office <= impl.OfficeTreasurer; office++ {
				want := slices.Clone(list)
				for j := range want {
					if want[j].Office == office {
						want[j].Office = impl.OfficeNone
					}
				}
				want[i].Office = office
				got, ok := impl.GiveOffice(list, m.Number, office)
				if !ok || !slices.Equal(got, want) || !impl.IsValidMembers(got) {
					t.Errorf("the office %d to %d of %v: %v, %v", office, m.Number, list, got, ok)
				}
				holder, held := impl.HolderOf(got, office)
				if office == impl.OfficeNone && (held || holder != 0) || office != impl.OfficeNone && (!held || holder != m.Number) {
					t.Errorf("the holder of %d in %v: %d, %v", office, got, holder, held)
				}
			}
		}
	})
}

func TestGiveOffice(t *testing.T) {
	for _, c := range []struct {
		number, office int
		want           [5]int
	}{
		{7, impl.OfficeChair, [5]int{3, 0, 1, 0, 2}},
		{3, impl.OfficeChair, [5]int{3, 1, 0, 0, 2}},
		{99, impl.OfficeChair, [5]int{3, 0, 0, 0, 1}},
		{7, impl.OfficeTreasurer, [5]int{0, 0, 3, 0, 2}},
		{12, impl.OfficeSecretary, [5]int{3, 0, 1, 2, 0}},
		{7, impl.OfficeNone, [5]int{3, 0, 0, 0, 2}},
		{99, impl.OfficeNone, [5]int{3, 0, 1, 0, 0}},
		{12, impl.OfficeNone, [5]int{3, 0, 1, 0, 2}},
	} {
		want := fiveMembers()
		for i := range want {
			want[i].Office = c.want[i]
		}
		if got, ok := impl.GiveOffice(fiveMembers(), c.number, c.office); !ok || !slices.Equal(got, want) {
			t.Errorf("the office %d to %d: %v, %v", c.office, c.number, got, ok)
		}
	}
}

func TestGiveOfficeInvalid(t *testing.T) {
	for _, office := range noOffices {
		for _, m := range fiveMembers() {
			if got, ok := impl.GiveOffice(fiveMembers(), m.Number, office); ok || len(got) != 0 {
				t.Error("gave the office", office, got)
			}
		}
	}
	for _, number := range []int{0, 1, 4, 98, 100, -2, math.MinInt, math.MaxInt, 1<<32 + 2} {
		for office := impl.OfficeNone; office <= impl.OfficeTreasurer; office++ {
			if got, ok := impl.GiveOffice(fiveMembers(), number, office); ok || len(got) != 0 {
				t.Error("gave an office to", number, got)
			}
		}
	}
	if got, ok := impl.GiveOffice(nil, 0, impl.OfficeNone); ok || len(got) != 0 {
		t.Error("gave an office among no members", got)
	}
	for name, list := range invalidMemberLists() {
		for _, m := range list[:min(len(list), 13)] {
			for office := impl.OfficeNone; office <= impl.OfficeTreasurer; office++ {
				if got, ok := impl.GiveOffice(list, m.Number, office); ok || len(got) != 0 {
					t.Error("gave an office in a list:", name, got)
				}
			}
		}
	}
}

func TestHolderOf(t *testing.T) {
	for office, want := range map[int]int{impl.OfficeChair: 7, impl.OfficeSecretary: 99, impl.OfficeTreasurer: 2} {
		if got, ok := impl.HolderOf(fiveMembers(), office); !ok || got != want {
			t.Errorf("the holder of %d: %d, %v; want %d", office, got, ok, want)
		}
		vacant, _ := impl.GiveOffice(fiveMembers(), want, impl.OfficeNone)
		if got, ok := impl.HolderOf(vacant, office); ok || got != 0 {
			t.Errorf("the holder of %d, which is vacant: %d", office, got)
		}
		if got, ok := impl.HolderOf(nil, office); ok || got != 0 {
			t.Errorf("the holder of %d among no members: %d", office, got)
		}
	}
	for _, office := range append([]int{impl.OfficeNone}, noOffices...) {
		for _, list := range [][]impl.Member{nil, fiveMembers(), membersOf(1, 12)} {
			if got, ok := impl.HolderOf(list, office); ok || got != 0 {
				t.Errorf("the holder of %d in %v: %d", office, list, got)
			}
		}
	}
	for name, list := range invalidMemberLists() {
		for _, office := range append([]int{0, 1, 2, 3}, noOffices...) {
			if got, ok := impl.HolderOf(list, office); ok || got != 0 {
				t.Errorf("the holder of %d in a list: %s: %d", office, name, got)
			}
		}
	}
}

func TestPresidingMember(t *testing.T) {
	for _, c := range []struct {
		present []int
		want    int
	}{
		{[]int{2, 3, 7, 12, 99}, 7}, {[]int{7}, 7}, {[]int{3, 7}, 7}, {[]int{2, 7}, 7}, {[]int{7, 99}, 7},
		{[]int{2, 3, 12, 99}, 99}, {[]int{2, 99}, 99}, {[]int{3, 99}, 99}, {[]int{99}, 99},
		{[]int{2, 3, 12}, 2}, {[]int{2}, 2},
		{[]int{3, 12}, 3}, {[]int{12}, 12}, {[]int{3}, 3},
	} {
		if got, ok := impl.PresidingMember(fiveMembers(), c.present); !ok || got != c.want {
			t.Errorf("of %v: %d, %v; want %d", c.present, got, ok, c.want)
		}
	}
	// The treasurer is not the one with the smallest Number here.
	late := []impl.Member{{Number: 1, Name: "a"}, {Number: 2, Name: "b", Office: impl.OfficeTreasurer}}
	if got, ok := impl.PresidingMember(late, []int{1, 2}); !ok || got != 2 {
		t.Error("the treasurer", got, ok)
	}
	for n := 1; n <= impl.MaxMembers; n++ {
		list, present := membersOf(88, n), []int{}
		for _, m := range list {
			present = append(present, m.Number)
		}
		if got, ok := impl.PresidingMember(list, present); !ok || got != 88 {
			t.Error("without officers", got, ok)
		}
	}
}

func TestPresidingMemberOfEveryAttendance(t *testing.T) {
	eachMemberList(func(list []impl.Member) {
		for attendance := 1; attendance < 16; attendance++ {
			present, best, want := []int{}, 5, 0
			for i, m := range list {
				if attendance>>i&1 == 0 {
					continue
				}
				present = append(present, m.Number)
				// Those without an office come after the officers, in order of their Numbers.
				turn := []int{4, 1, 2, 3}[m.Office]
				if turn < best {
					best, want = turn, m.Number
				}
			}
			if got, ok := impl.PresidingMember(list, present); !ok || got != want {
				t.Errorf("of %v in %v: %d, %v; want %d", present, list, got, ok, want)
			}
		}
	})
}

func TestPresidingMemberInvalid(t *testing.T) {
	for _, present := range [][]int{
		nil, {}, {7, 3}, {3, 2}, {2, 3, 2}, {2, 2}, {7, 7}, {2, 3, 3}, {99, 12, 7, 3, 2}, {2, 7, 3, 12, 99},
		{0}, {1}, {4}, {98}, {100}, {-2}, {math.MinInt}, {math.MaxInt}, {1<<32 + 7},
		{1, 7}, {0, 7}, {-7, 7}, {7, 8}, {7, 100}, {2, 4, 7}, {2, 3, 7, 12, 99, 100}, {math.MinInt, 7, math.MaxInt}, make([]int, 100000),
	} {
		if got, ok := impl.PresidingMember(fiveMembers(), present); ok || got != 0 {
			t.Errorf("of %.40v: %d", present, got)
		}
		if got, ok := impl.PresidingMember(nil, present); ok || got != 0 {
			t.Errorf("of %.40v among no members: %d", present, got)
		}
	}
	for name, list := range invalidMemberLists() {
		present := []int{}
		for _, m := range list[:min(len(list), 13)] {
			present = append(present, m.Number)
			if got, ok := impl.PresidingMember(list, []int{m.Number}); ok || got != 0 {
				t.Error("of one in a list:", name, got)
			}
		}
		if got, ok := impl.PresidingMember(list, present); ok || got != 0 {
			t.Error("of all in a list:", name, got)
		}
		if got, ok := impl.PresidingMember(list, nil); ok || got != 0 {
			t.Error("of none in a list:", name, got)
		}
	}
}

func TestNumbersByName(t *testing.T) {
	for _, c := range []struct {
		names []string
		want  []int
	}{
		{nil, nil}, {[]string{"a"}, []int{1}}, {[]string{"a", "b"}, []int{1, 2}}, {[]string{"b", "a"}, []int{2, 1}},
		{[]string{"ab", "a", "abc", "aa"}, []int{2, 4, 1, 3}},
		{[]string{"zz", "z", "zzzzzzzzzz", "zzz", "y"}, []int{5, 2, 1, 4, 3}},
		{[]string{"l", "k", "j", "i", "h", "g", "f", "e", "d", "c", "b", "a"}, []int{12, 11, 10, 9, 8, 7, 6, 5, 4, 3, 2, 1}},
		{[]string{"a", "b", "c", "d", "e", "f", "g", "h", "i", "j", "k", "l"}, []int{1, 2, 3, 4, 5, 6, 7, 8, 9, 10, 11, 12}},
	} {
		list := membersOf(1, len(c.names))
		for i, name := range c.names {
			list[i].Name = name
		}
		if got, ok := impl.NumbersByName(list); !ok || !slices.Equal(got, c.want) {
			t.Errorf("of %q: %v, %v; want %v", c.names, got, ok, c.want)
		}
	}
	if got, ok := impl.NumbersByName(fiveMembers()); !ok || !slices.Equal(got, []int{7, 12, 99, 3, 2}) {
		t.Error("of five", got, ok)
	}
	names := []string{"a", "aa", "ab", "b"}
	eachOrder(names, 0, func(order []string) {
		list := membersOf(1, len(order))
		for i := range list {
			list[i].Name = order[i]
		}
		got, ok := impl.NumbersByName(list)
		for i, number := range got {
			if order[number-1] != []string{"a", "aa", "ab", "b"}[i] {
				t.Errorf("of %q: %v", order, got)
			}
		}
		if !ok || len(got) != len(order) {
			t.Errorf("of %q: %v, %v", order, got, ok)
		}
	})
	for name, list := range invalidMemberLists() {
		if got, ok := impl.NumbersByName(list); ok || len(got) != 0 {
			t.Error("of a list:", name, got)
		}
	}
}

func TestMembersText(t *testing.T) {
	if got, ok := impl.MembersText(fiveMembers()); !ok || got != fiveMembersText {
		t.Errorf("%q, %v", got, ok)
	}
	if got, ok := impl.MembersText(nil); !ok || got != "" {
		t.Errorf("of none: %q, %v", got, ok)
	}
	for name, list := range invalidMemberLists() {
		if got, ok := impl.MembersText(list); ok || got != "" {
			t.Errorf("of a list: %s: %.80q", name, got)
		}
	}
}

func TestMembersAreRecoveredFromTheirLines(t *testing.T) {
	check := func(list []impl.Member) {
		text, ok := impl.MembersText(list)
		if !ok || text != textOfMembers(list) {
			t.Errorf("MembersText(%v) = %q, %v", list, text, ok)
		}
		if got, ok := impl.ParseMembers(text); !ok || !slices.Equal(got, list) {
			t.Errorf("ParseMembers(%q) = %v, %v", text, got, ok)
		}
	}
	check(nil)
	check(fiveMembers())
	eachMemberList(check)
	for n := range impl.MaxMembers + 1 {
		check(membersOf(1, n))
		check(membersOf(100-n, n))
	}
	for number := 1; number <= 99; number++ {
		for _, name := range []string{"a", "z", "abcdefghij", "none", "chair", "secretary", "treasurer"} {
			for office := impl.OfficeNone; office <= impl.OfficeTreasurer; office++ {
				check([]impl.Member{{Number: number, Name: name, Office: office}})
			}
		}
	}
	longest := membersOf(88, 12)
	for i := range longest {
		longest[i].Name = "abcdefghi" + longest[i].Name
		longest[i].Office = max(0, i-8)
	}
	check(longest)
}

func TestParseMembersInvalid(t *testing.T) {
	for _, s := range []string{
		"\n", "\n\n", " ", " \n", "  \n", "x", "x\n", "1\n", "1 \n", "ada\n", " ada\n", "(chair)\n", "1 (chair)\n", "1  (chair)\n", "ada (chair)\n", " ada (chair)\n",
		"1 ada", "1 ada (chair)", "1 ada\n3 bo", "1 ada\n\n", "\n1 ada\n", "1 ada\n\n3 bo\n", "1 ada\n ", "1 ada\r\n", "1 ada;", "1 ada\x00\n",
		"1  ada\n", " 1 ada\n", "1 ada \n", "1 ada  (chair)\n", "1 ada (chair) \n", "1 ada (chair)  \n", "1\tada\n", "1 ada\t(chair)\n", "1 ada(chair)\n", "1ada\n",
		"01 ada\n", "001 ada\n", "00 ada\n", "+1 ada\n", "-1 ada\n", "-0 ada\n", "0 ada\n", "100 ada\n", "099 ada\n", "1x ada\n", "x ada\n", "1. ada\n", "0x1 ada\n",
		"4294967297 ada\n", "18446744073709551617 ada\n", "9223372036854775808 ada\n",
		"1 Ada\n", "1 ad1\n", "1 abcdefghijk\n", "1 caf\u00e9\n", "1 ada bo\n", "1 ada 3\n", "1 ada-bo\n",
		"1 ada (king)\n", "1 ada (none)\n", "1 ada ()\n", "1 ada (Chair)\n", "1 ada chair\n", "1 ada (chair\n", "1 ada chair)\n", "1 ada ((chair))\n", "1 ada [chair]\n",
		"1 ada (chairman)\n", "1 ada (chai)\n", "1 ada ( chair)\n", "1 ada (the chair)\n", "1 ada (1)\n", "1 ada 1\n", "1 ada (member)\n",
		"1 ada (chair) (chair)\n", "1 ada (chair) (secretary)\n", "1 ada (chair, secretary)\n", "1 ada (secretary) x\n", "1 (chair) ada\n", "(chair) 1 ada\n",
		"3 bo\n1 ada\n", "1 ada\n1 ada\n", "1 ada\n1 bo\n", "1 ada\n3 ada\n", "1 ada (chair)\n3 bo (chair)\n", "1 ada (secretary)\n2 bo\n3 cleo (secretary)\n",
		"1 ada (treasurer)\n2 bo (chair)\n3 cleo (treasurer)\n", "1 ada\n3 bo (king)\n", "1 ada\n03 bo\n", "1 ada\n100 bo\n", "1 ada\n3 bo\n2 cleo\n",
		textOfMembers(membersOf(1, 13)), textOfMembers(membersOf(1, 26)), strings.Repeat("\n", 4000), strings.Repeat("\n", 4001), strings.Repeat(" ", 5000),
		strings.Repeat("1 ada\n", 100), strings.Repeat(fiveMembersText, 2), strings.Repeat(fiveMembersText, 10000), "1 " + strings.Repeat("a", 5000) + "\n",
	} {
		memberForm.checkNone(t, s)
	}
}

func TestParseMembersOnChangedText(t *testing.T) {
	for _, text := range []string{
		fiveMembersText, "1 a\n", "99 abcdefghij (treasurer)\n", "8 chair (secretary)\n", "1 ada (chair)\n2 bo\n", textOfMembers(membersOf(1, 12)),
	} {
		eachChange(text, func(s string) { memberForm.check(t, s) })
	}
	memberForm.checkCuts(t, fiveMembersText)
}

func TestParseMembersOnSequencesOfWords(t *testing.T) {
	words := []string{"1", "99", "ada", "chair", "(chair)", "(secretary)", "(treasurer)", ""}
	for _, word := range words {
		eachSequence(words, 4, word, func(s string) { memberForm.check(t, s+"\n") })
	}
}

func TestMemberFunctionsLeaveTheirArguments(t *testing.T) {
	beyond := impl.Member{Number: -1, Name: "beyond the length"}
	memory := append([]impl.Member{beyond}, append(fiveMembers(), beyond, beyond)...)
	kept := slices.Clone(memory)
	list := memory[1:6]
	attendance := []int{0, 3, 7, 99, -1}
	admitted, _, admittedOk := impl.AdmitMember(list, "first")
	gap, _, gapOk := impl.AdmitMember(memory[2:2], "first")
	expelled, expelledOk := impl.ExpelMember(list, 3)
	last, lastOk := impl.ExpelMember(list, 99)
	given, givenOk := impl.GiveOffice(list, 3, impl.OfficeChair)
	same, sameOk := impl.GiveOffice(list, 7, impl.OfficeChair)
	if !admittedOk || !gapOk || !expelledOk || !lastOk || !givenOk || !sameOk {
		t.Error("failed", admittedOk, gapOk, expelledOk, lastOk, givenOk, sameOk)
	}
	for _, result := range [][]impl.Member{admitted, gap, expelled, last, given, same} {
		// Even what lies beyond the length of a result must not be the argument's memory.
		result = result[:cap(result)]
		for i := range result {
			result[i] = beyond
		}
	}
	impl.IsValidMembers(list)
	impl.HolderOf(list, impl.OfficeChair)
	if got, ok := impl.PresidingMember(list, attendance[1:4]); !ok || got != 7 {
		t.Error("presiding", got, ok)
	}
	impl.PresidingMember(list, []int{7, 3})
	impl.NumbersByName(list)
	impl.MembersText(list)
	impl.AdmitMember(list, "ada")
	impl.ExpelMember(list, 7)
	impl.GiveOffice(list, 7, 4)
	if !slices.Equal(memory, kept) || !slices.Equal(attendance, []int{0, 3, 7, 99, -1}) {
		t.Error("changed", memory, attendance)
	}
}

func TestMemberResultsAreRepeated(t *testing.T) {
	numbers, _ := impl.NumbersByName(fiveMembers())
	members, _ := impl.ParseMembers(fiveMembersText)
	numbers[0], members[0] = 50, impl.Member{}
	if again, ok := impl.NumbersByName(fiveMembers()); !ok || !slices.Equal(again, []int{7, 12, 99, 3, 2}) {
		t.Error("NumbersByName depends on the calls before", again)
	}
	if again, ok := impl.ParseMembers(fiveMembersText); !ok || !slices.Equal(again, fiveMembers()) {
		t.Error("ParseMembers depends on the calls before", again)
	}
}
