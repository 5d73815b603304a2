package tests

import (
	"math"
	"math/big"
	"slices"
	"strconv"
	"strings"
	"testing"

	"loop.example/g00909/impl"
)

func TestLimitsOfStrings(t *testing.T) {
	if impl.MaxString != 4000 || impl.MaxDecimal != 999999 {
		t.Error("limits", impl.MaxString, impl.MaxDecimal)
	}
}

func TestFormatInt(t *testing.T) {
	for _, c := range []struct {
		n    int
		want string
		ok   bool
	}{
		{0, "0", true}, {7, "7", true}, {-1, "-1", true}, {10, "10", true}, {-12, "-12", true},
		{999999, "999999", true}, {-999999, "-999999", true},
		{1000000, "", false}, {-1000000, "", false},
		{math.MaxInt, "", false}, {math.MinInt, "", false},
		{math.MaxInt32, "", false}, {1 << 32, "", false}, {-1 << 32, "", false},
	} {
		if s, ok := impl.FormatInt(c.n); s != c.want || ok != c.ok {
			t.Errorf("FormatInt(%d) = %q, %v; want %q, %v", c.n, s, ok, c.want, c.ok)
		}
	}
}

func TestNumbersRoundTrip(t *testing.T) {
	for n := -impl.MaxDecimal; n <= impl.MaxDecimal; n++ {
		s, ok := impl.FormatInt(n)
		if !ok || s != strconv.Itoa(n) {
			t.Fatalf("FormatInt(%d) = %q, %v", n, s, ok)
		}
		if m, ok := impl.ParseInt(s); !ok || m != n {
			t.Fatalf("ParseInt(%q) = %d, %v", s, m, ok)
		}
	}
}

func TestParseIntInvalid(t *testing.T) {
	for _, s := range []string{
		"", "-", "+", "+1", "+0", "-0", "00", "01", "-01", "000001", "--1", "-+1", "1-", "1x", "x", "0x1", "0b1",
		"1_000", "1e3", "1.0", " 1", "1 ", "1\n", "\x001", "1\x00", "\u0661", "\xb1", "1\xff", "\u22121",
		"1000000", "-1000000", "0999999", "9223372036854775807", "-9223372036854775808",
		"9223372036854775808", "18446744073709551617", "4294967297", strings.Repeat("0", 5000), strings.Repeat("9", 5000),
	} {
		if n, ok := impl.ParseInt(s); ok || n != 0 {
			t.Errorf("ParseInt(%.30q) = %d, %v", s, n, ok)
		}
	}
}

// wordsOver calls visit with every string of at most size bytes of an alphabet.
func wordsOver(alphabet string, size int, visit func(string)) {
	words := []string{""}
	for range size {
		longer := []string{}
		for _, w := range words {
			visit(w)
			for i := range len(alphabet) {
				longer = append(longer, w+alphabet[i:i+1])
			}
		}
		words = longer
	}
	for _, w := range words {
		visit(w)
	}
}

func TestParseIntOnShortStrings(t *testing.T) {
	numbers := map[string]int{}
	for n := -999; n <= 9999; n++ {
		numbers[strconv.Itoa(n)] = n
	}
	wordsOver("0129-+ x", 4, func(s string) {
		want, is := numbers[s]
		if n, ok := impl.ParseInt(s); n != want || ok != is {
			t.Errorf("ParseInt(%q) = %d, %v; want %d, %v", s, n, ok, want, is)
		}
	})
}

func TestSplitString(t *testing.T) {
	for _, c := range []struct {
		s, sep string
		want   []string
	}{
		{"a,,b", ",", []string{"a", "", "b"}},
		{"", ",", []string{""}},
		{",", ",", []string{"", ""}},
		{",,", ",", []string{"", "", ""}},
		{"a,", ",", []string{"a", ""}},
		{",a", ",", []string{"", "a"}},
		{"abc", ",", []string{"abc"}},
		{"one two", " ", []string{"one", "two"}},
		{"a\x00b", "\x00", []string{"a", "b"}},
		{"a\nb\n", "\n", []string{"a", "b", ""}},
		{"\xff\xfe\xff", "\xfe", []string{"\xff", "\xff"}},
		{"\u00e9", "\xc3", []string{"", "\xa9"}},
		{"a.b", ".", []string{"a", "b"}},
	} {
		if got, ok := impl.SplitString(c.s, c.sep); !ok || !slices.Equal(got, c.want) {
			t.Errorf("SplitString(%q, %q) = %q, %v; want %q", c.s, c.sep, got, ok, c.want)
		}
	}
}

func TestSplitStringInvalid(t *testing.T) {
	for _, c := range [][2]string{
		{"a,b", ""}, {"a,,b", ",,"}, {"", ""}, {"", ",,"}, {"a\u00e9b", "\u00e9"}, {"a", "a long one"},
		{strings.Repeat("a", 4001), ","}, {strings.Repeat(",", 4001), ","},
	} {
		if got, ok := impl.SplitString(c[0], c[1]); ok || len(got) != 0 {
			t.Errorf("SplitString(%.20q, %q) = %d elements, %v", c[0], c[1], len(got), ok)
		}
	}
}

func TestSplitStringAtMaxString(t *testing.T) {
	whole := strings.Repeat("a", 4000)
	if got, ok := impl.SplitString(whole, ","); !ok || !slices.Equal(got, []string{whole}) {
		t.Error("one element of 4000 bytes", len(got), ok)
	}
	got, ok := impl.SplitString(strings.Repeat(",", 4000), ",")
	if !ok || !slices.Equal(got, make([]string, 4001)) {
		t.Error("4000 separators", len(got), ok)
	}
}

func TestSplitStringGivesNewMemory(t *testing.T) {
	first, _ := impl.SplitString("a,b,c", ",")
	first[0] = "changed"
	second, _ := impl.SplitString("a,b,c", ",")
	second = append(second[:1], "changed too")
	if second[0] != "a" || !slices.Equal(first, []string{"changed", "b", "c"}) {
		t.Error("shared", first, second)
	}
}

func TestSplitRoundTrip(t *testing.T) {
	wordsOver("a,\xff", 7, func(s string) {
		for _, sep := range []string{",", "a", "\xff", "z"} {
			parts, ok := impl.SplitString(s, sep)
			if !ok || len(parts) != strings.Count(s, sep)+1 {
				t.Errorf("SplitString(%q, %q) = %q, %v", s, sep, parts, ok)
			}
			if joined, ok := impl.JoinStrings(parts, sep); !ok || joined != s {
				t.Errorf("JoinStrings(%q, %q) = %q, %v; want %q", parts, sep, joined, ok, s)
			}
		}
	})
}

func TestSplitRoundTripAtEverySeparator(t *testing.T) {
	every := make([]byte, 256)
	for i := range every {
		every[i] = byte(i)
	}
	for i := range every {
		sep := string(every[i : i+1])
		want := []string{string(every[:i]), string(every[i+1:])}
		parts, ok := impl.SplitString(string(every), sep)
		if !ok || !slices.Equal(parts, want) {
			t.Errorf("split at byte %d: %q, %v", i, parts, ok)
		}
		if joined, ok := impl.JoinStrings(parts, sep); !ok || joined != string(every) {
			t.Errorf("joined by byte %d: %q, %v", i, joined, ok)
		}
	}
}

func TestJoinStrings(t *testing.T) {
	for _, c := range []struct {
		parts []string
		sep   string
		want  string
	}{
		{[]string{"a", "", "b"}, ";", "a;;b"},
		{[]string{""}, ";", ""},
		{[]string{"", ""}, ";", ";"},
		{[]string{"a"}, ";", "a"},
		{[]string{"a,b", "c"}, ";", "a,b;c"},
		{[]string{"\xc3", "\xa9"}, "\xff", "\xc3\xff\xa9"},
		{[]string{"\u00e9"}, "\xff", "\u00e9"},
		{[]string{"x", "y"}, "\x00", "x\x00y"},
	} {
		if got, ok := impl.JoinStrings(c.parts, c.sep); !ok || got != c.want {
			t.Errorf("JoinStrings(%q, %q) = %q, %v; want %q", c.parts, c.sep, got, ok, c.want)
		}
	}
}

func TestJoinStringsInvalid(t *testing.T) {
	for _, c := range []struct {
		parts []string
		sep   string
	}{
		{nil, ";"}, {[]string{}, ";"}, {nil, ""},
		{[]string{"a", "b"}, ""}, {[]string{"a", "b"}, ";;"}, {[]string{"a"}, ""}, {[]string{"a"}, ";;"},
		{[]string{"a", "b"}, "\u00e9"},
		{[]string{";"}, ";"}, {[]string{"a;b"}, ";"}, {[]string{";a", "b"}, ";"}, {[]string{"a", "b", "c;"}, ";"},
		{[]string{"a", ";", "b"}, ";"}, {[]string{"\u00e9"}, "\xc3"}, {[]string{"a", "\u00e9"}, "\xa9"},
		{[]string{"a\x00"}, "\x00"},
		{[]string{strings.Repeat("a", 3999) + ";"}, ";"},
	} {
		if got, ok := impl.JoinStrings(c.parts, c.sep); ok || got != "" {
			t.Errorf("JoinStrings(%.40q, %q) = %q, %v", c.parts, c.sep, got, ok)
		}
	}
}

func TestJoinStringsAtMaxString(t *testing.T) {
	for _, c := range []struct {
		name  string
		parts []string
		want  string
	}{
		{"one element of 4000 bytes", []string{strings.Repeat("a", 4000)}, strings.Repeat("a", 4000)},
		{"one element of 4001 bytes", []string{strings.Repeat("a", 4001)}, ""},
		{"two elements, 4000 bytes", []string{strings.Repeat("a", 2000), strings.Repeat("b", 1999)},
			strings.Repeat("a", 2000) + ";" + strings.Repeat("b", 1999)},
		{"two elements, 4001 bytes", []string{strings.Repeat("a", 2000), strings.Repeat("b", 2000)}, ""},
		{"an element of 4000 bytes and an empty one", []string{strings.Repeat("a", 4000), ""}, ""},
		{"an empty element and one of 3999 bytes", []string{"", strings.Repeat("a", 3999)}, ";" + strings.Repeat("a", 3999)},
		{"4001 empty elements", make([]string, 4001), strings.Repeat(";", 4000)},
		{"4002 empty elements", make([]string, 4002), ""},
		{"100000 empty elements", make([]string, 100000), ""},
	} {
		if got, ok := impl.JoinStrings(c.parts, ";"); ok != (c.want != "") || got != c.want {
			t.Errorf("%s: %d bytes, %v", c.name, len(got), ok)
		}
	}
}

func TestJoinStringsLeavesItsArgument(t *testing.T) {
	memory := []string{"a", "", "b", "beyond;the length"}
	if got, ok := impl.JoinStrings(memory[:3], ";"); !ok || got != "a;;b" {
		t.Error("joined", got, ok)
	}
	if _, ok := impl.JoinStrings(memory, ";"); ok {
		t.Error("joined an element with a separator")
	}
	if !slices.Equal(memory, []string{"a", "", "b", "beyond;the length"}) {
		t.Error("changed", memory)
	}
}

func TestLessString(t *testing.T) {
	ascending := []string{
		"", "\x00", "\x00\x00", "\x01", " ", "-1", "0", "10", "9", "A", "B", "Z", "a", "a\x00", "aa", "ab", "abc", "b", "ba",
		"z", "\x7f", "\x80", "\xc3\xa9", "\xfe", "\xff", "\xff\x00", "\xff\xff",
	}
	for i, a := range ascending {
		for j, b := range ascending {
			if got := impl.LessString(a, b); got != (i < j) {
				t.Errorf("LessString(%q, %q) = %v", a, b, got)
			}
		}
	}
	long := strings.Repeat("a", 5000)
	if !impl.LessString(long, long+"a") || impl.LessString(long+"a", long) || impl.LessString(long, long) {
		t.Error("strings of more than MaxString bytes")
	}
}

// checksumOf computes the sum of all bytes by powers of 41, without taking remainders on the way.
func checksumOf(s string) int {
	h := big.NewInt(7)
	for i := range len(s) {
		h.Mul(h, big.NewInt(41))
		h.Add(h, big.NewInt(int64(s[i])+1))
	}
	return int(h.Mod(h, big.NewInt(999979)).Int64())
}

func TestChecksum(t *testing.T) {
	every := make([]byte, 256)
	for i := range every {
		every[i] = byte(i)
	}
	for s, want := range map[string]int{"": 7, "a": 385, "\x00": 288, "\xff": 543, "ab": 15884, "ba": 15924, "#": 323} {
		if n, ok := impl.Checksum(s); !ok || n != want {
			t.Errorf("Checksum(%q) = %d, %v; want %d", s, n, ok, want)
		}
	}
	for _, s := range []string{
		"abc", "abcd", "the quick brown fox", "\u00e9\u20ac", string(every), strings.Repeat("\xff", 50),
		"a#385", strings.Repeat("\xff", 3999), strings.Repeat("\x00", 4000), strings.Repeat(string(every), 15),
	} {
		if n, ok := impl.Checksum(s); !ok || n != checksumOf(s) {
			t.Errorf("Checksum(%.30q) = %d, %v; want %d", s, n, ok, checksumOf(s))
		}
	}
	for _, size := range []int{4001, 100000} {
		if n, ok := impl.Checksum(strings.Repeat("a", size)); ok || n != 0 {
			t.Errorf("Checksum of %d bytes = %d, %v", size, n, ok)
		}
	}
}

func TestAppendChecksum(t *testing.T) {
	for s, want := range map[string]string{"": "#7", "a": "a#385", "\x00": "\x00#288", "\xff": "\xff#543", "ab": "ab#15884"} {
		if got, ok := impl.AppendChecksum(s); !ok || got != want {
			t.Errorf("AppendChecksum(%q) = %q, %v; want %q", s, got, ok, want)
		}
	}
	for _, s := range []string{
		"#", "a#", "#a", "a#b", "a#385", "##", strings.Repeat("a", 3000) + "#", strings.Repeat("a", 4000),
		strings.Repeat("a", 3999), strings.Repeat("a", 4001), strings.Repeat("a", 100000),
	} {
		if got, ok := impl.AppendChecksum(s); ok || got != "" {
			t.Errorf("AppendChecksum(%.20q) = %q, %v", s, got, ok)
		}
	}
}

// sealedOfSize returns a string without `#` which, with its checksum, has the given size.
func sealedOfSize(t *testing.T, size int) (string, string) {
	t.Helper()
	for length := size - 2; length >= size-7; length-- {
		for c := 'a'; c <= 'z'; c++ {
			s := strings.Repeat("x", length-1) + string(c)
			if sealed := s + "#" + strconv.Itoa(checksumOf(s)); len(sealed) == size {
				return s, sealed
			}
		}
	}
	t.Fatal("no string for the size", size)
	return "", ""
}

func TestChecksumsAtMaxString(t *testing.T) {
	s, sealed := sealedOfSize(t, 4000)
	if got, ok := impl.AppendChecksum(s); !ok || got != sealed {
		t.Error("result of 4000 bytes", len(got), ok)
	}
	if got, ok := impl.VerifyChecksum(sealed); !ok || got != s {
		t.Error("string of 4000 bytes", len(got), ok)
	}
	s, sealed = sealedOfSize(t, 4001)
	if got, ok := impl.AppendChecksum(s); ok || got != "" {
		t.Error("result of 4001 bytes", len(got), ok)
	}
	if got, ok := impl.VerifyChecksum(sealed); ok || got != "" {
		t.Error("string of 4001 bytes", len(got), ok)
	}
}

func TestVerifyChecksum(t *testing.T) {
	for s, want := range map[string]string{"#7": "", "a#385": "a", "\x00#288": "\x00", "\xff#543": "\xff", "ab#15884": "ab"} {
		if got, ok := impl.VerifyChecksum(s); !ok || got != want {
			t.Errorf("VerifyChecksum(%q) = %q, %v; want %q", s, got, ok, want)
		}
	}
	twice := "a#385#" + strconv.Itoa(checksumOf("a#385"))
	for _, s := range []string{
		"", "#", "a", "7", "a#", "#0", "#07", "#7 ", " #7", "a#384", "a#386", "a#0385", "a#+385", "a#-385", "a# 385", "a#385 ",
		"a#385\n", "a#385x", "a#385#", "a##385", "#a#385", "b#385", "aa#385", "a#1000364", "a#385#1", "a385", twice, "##323",
		strings.Repeat("a", 4000), strings.Repeat("#", 4000), strings.Repeat("a", 100000) + "#7",
	} {
		if got, ok := impl.VerifyChecksum(s); ok || got != "" {
			t.Errorf("VerifyChecksum(%.30q) = %q, %v", s, got, ok)
		}
	}
}

func TestChecksumRoundTrip(t *testing.T) {
	wordsOver("a7#\xff", 6, func(s string) {
		sealed, ok := impl.AppendChecksum(s)
		if ok == strings.Contains(s, "#") {
			t.Errorf("AppendChecksum(%q) = %q, %v", s, sealed, ok)
		}
		if !ok {
			return
		}
		if got, ok := impl.VerifyChecksum(sealed); !ok || got != s {
			t.Errorf("VerifyChecksum(%q) = %q, %v; want %q", sealed, got, ok, s)
		}
	})
}

func TestChangedByteIsDetected(t *testing.T) {
	_, longest := sealedOfSize(t, 300)
	texts := []string{"", "a", "7", "move to adjourn", "\x00\xff\x80 \n", "999979", longest[:strings.IndexByte(longest, '#')]}
	for _, s := range texts {
		sealed, ok := impl.AppendChecksum(s)
		if !ok {
			t.Fatalf("AppendChecksum(%q) fails", s)
		}
		for i := range len(sealed) {
			for c := range 256 {
				changed := []byte(sealed)
				changed[i] = byte(c)
				got, ok := impl.VerifyChecksum(string(changed))
				if same := sealed[i] == byte(c); ok != same || !same && got != "" {
					t.Fatalf("VerifyChecksum(%q) = %q, %v, changed from %q", changed, got, ok, sealed)
				}
			}
		}
	}
}

func TestChangedByteOfALongStringIsDetected(t *testing.T) {
	_, sealed := sealedOfSize(t, 4000)
	for i := range len(sealed) {
		for _, bit := range []byte{1, 2, 128} {
			changed := []byte(sealed)
			changed[i] ^= bit
			if got, ok := impl.VerifyChecksum(string(changed)); ok || got != "" {
				t.Fatalf("bit %d of byte %d: not detected", bit, i)
			}
		}
	}
}

func TestStringResultsAreRepeated(t *testing.T) {
	sealed, _ := impl.AppendChecksum("order")
	impl.Checksum("something else")
	impl.VerifyChecksum("x#1")
	if again, ok := impl.AppendChecksum("order"); !ok || again != sealed {
		t.Error("depends on the calls before", sealed, again)
	}
}
