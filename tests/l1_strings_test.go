package tests

import (
	"fmt"
	"math"
	"slices"
	"strings"
	"testing"

	"loop.example/g00884/impl"
)

// oddStrings are strings with which a function of bytes may go wrong: empty, not UTF-8, with
// separators, signs, digits, and lengths around MaxString.
func oddStrings() []string {
	return []string{
		"", "#", "##", "a#", "#7", ",", ",,", "a,b", "-", "--", "+1", "0", "-0", "007", "12a",
		"\x00", "\xff", "\xff\xfe,", "é", "\xc3", "a\nb", "9223372036854775808",
		strings.Repeat("1", 100), strings.Repeat(",", impl.MaxString), strings.Repeat("a", impl.MaxString-1),
		strings.Repeat("a", impl.MaxString), strings.Repeat("a", impl.MaxString+1),
		strings.Repeat("#", impl.MaxString+1), strings.Repeat("a,", 3*impl.MaxString),
	}
}

// wordsOver returns all strings of at most n bytes over an alphabet.
func wordsOver(alphabet string, n int) []string {
	words := []string{""}
	last := words
	for range n {
		var next []string
		for _, w := range last {
			for i := range len(alphabet) {
				next = append(next, w+alphabet[i:i+1])
			}
		}
		words = append(words, next...)
		last = next
	}
	return words
}

func TestFormatIntExamples(t *testing.T) {
	for n, want := range map[int]string{
		0: "0", 1: "1", -1: "-1", 9: "9", 10: "10", -10: "-10", -12: "-12", 100: "100", 4000: "4000",
		999998: "999998", 999999: "999999", -999999: "-999999",
	} {
		if s, ok := impl.FormatInt(n); !ok || s != want {
			t.Errorf("FormatInt(%d) = %q, %v", n, s, ok)
		}
	}
}

func TestFormatIntBeyondLimits(t *testing.T) {
	for _, n := range []int{1000000, -1000000, 1000001, 1 << 32, -1 << 32, math.MaxInt, math.MinInt} {
		if s, ok := impl.FormatInt(n); ok || s != "" {
			t.Errorf("FormatInt(%d) = %q, %v", n, s, ok)
		}
	}
}

func TestDecimalsRoundTrip(t *testing.T) {
	for n := -impl.MaxDecimal; n <= impl.MaxDecimal; n++ {
		s, ok := impl.FormatInt(n)
		m, fine := impl.ParseInt(s)
		if !ok || !fine || m != n {
			t.Fatalf("%d is written %q (%v) and read as %d (%v)", n, s, ok, m, fine)
		}
	}
}

func TestParseIntRejects(t *testing.T) {
	for _, s := range []string{
		"", "-", "--1", "-0", "-00", "00", "01", "-01", "000001", "+1", "+0", "+", "1-", "1+", "1-2", "-1-",
		"1000000", "-1000000", "9999999", "0999999", "00999999", "10000000",
		" 1", "1 ", "1\n", "\n1", "1x", "x1", "0x1", "1_0", "1e3", "1.0", "1,0", "1\x00", "\x001",
		"/", ":", "1/", "1:", "١", "１", "\xff", "−1",
		"18446744073709551616", "18446744073709551617", "4294967297", "-9223372036854775808",
		strings.Repeat("0", 5000), strings.Repeat("9", 5000),
	} {
		if n, ok := impl.ParseInt(s); ok || n != 0 {
			t.Errorf("ParseInt(%q) = %d, %v", s, n, ok)
		}
	}
}

// TestParseIntIsInverse compares ParseInt with a table of everything that FormatInt writes.
func TestParseIntIsInverse(t *testing.T) {
	written := map[string]int{}
	for n := -9999; n <= 9999; n++ {
		s, _ := impl.FormatInt(n)
		written[s] = n
	}
	for _, s := range wordsOver("-+0129 x", 4) {
		want, is := written[s]
		if n, ok := impl.ParseInt(s); ok != is || n != want {
			t.Errorf("ParseInt(%q) = %d, %v", s, n, ok)
		}
	}
}

func TestSplitStringExamples(t *testing.T) {
	for _, c := range []struct {
		s, sep string
		want   []string
	}{
		{"a,,b", ",", []string{"a", "", "b"}},
		{"", ",", []string{""}},
		{"abc", ",", []string{"abc"}},
		{",", ",", []string{"", ""}},
		{",a,", ",", []string{"", "a", ""}},
		{"a;b,c", ";", []string{"a", "b,c"}},
		{"aaa", "a", []string{"", "", "", ""}},
		{"a\x00b", "\x00", []string{"a", "b"}},
		{"a\nb\n", "\n", []string{"a", "b", ""}},
		{"é", "\xc3", []string{"", "\xa9"}},
		{"a\xffb", "\xff", []string{"a", "b"}},
	} {
		if parts, ok := impl.SplitString(c.s, c.sep); !ok || !slices.Equal(parts, c.want) {
			t.Errorf("SplitString(%q, %q) = %q, %v", c.s, c.sep, parts, ok)
		}
	}
}

func TestSplitStringAtLimit(t *testing.T) {
	parts, ok := impl.SplitString(strings.Repeat(",", impl.MaxString), ",")
	if !ok || len(parts) != impl.MaxString+1 || strings.Join(parts, "") != "" {
		t.Error("only separators", len(parts), ok)
	}
	whole := strings.Repeat("a", impl.MaxString)
	if parts, ok := impl.SplitString(whole, ","); !ok || len(parts) != 1 || parts[0] != whole {
		t.Error("no separator", len(parts), ok)
	}
}

func TestSplitStringRejects(t *testing.T) {
	for _, c := range [][2]string{
		{"a,b", ""}, {"a,b", ",,"}, {"", ""}, {"", "ab"}, {"aéb", "é"}, {"abab", "ab"},
		{strings.Repeat("a", impl.MaxString+1), ","},
		{strings.Repeat(",", impl.MaxString+1), ","},
		{strings.Repeat("a", impl.MaxString+1), ""},
	} {
		if parts, ok := impl.SplitString(c[0], c[1]); ok || len(parts) != 0 {
			t.Errorf("SplitString(%.20q, %q) = %d parts, %v", c[0], c[1], len(parts), ok)
		}
	}
}

func TestJoinStringsExamples(t *testing.T) {
	for _, c := range []struct {
		parts []string
		sep   string
		want  string
	}{
		{[]string{"a", "", "b"}, ";", "a;;b"},
		{[]string{""}, ",", ""},
		{[]string{"abc"}, ",", "abc"},
		{[]string{"", ""}, ",", ","},
		{[]string{"a;b", "c"}, ",", "a;b,c"},
		{[]string{"\xff", "\x00"}, "\n", "\xff\n\x00"},
		{[]string{"", "\xa9"}, "\xc3", "é"},
	} {
		if s, ok := impl.JoinStrings(c.parts, c.sep); !ok || s != c.want {
			t.Errorf("JoinStrings(%q, %q) = %q, %v", c.parts, c.sep, s, ok)
		}
	}
}

func TestJoinStringsRejects(t *testing.T) {
	for _, c := range []struct {
		parts []string
		sep   string
	}{
		{nil, ","}, {[]string{}, ","}, {[]string{"a", "b", "c"}[:0], ","},
		{[]string{"a", "b"}, ""}, {[]string{"a", "b"}, ",,"}, {[]string{"a", "b"}, "é"}, {[]string{"a"}, ""},
		{[]string{"a;b"}, ";"}, {[]string{";"}, ";"}, {[]string{"a", "b", ";c"}, ";"}, {[]string{"a;", "b"}, ";"},
		{[]string{"é"}, "\xa9"}, {[]string{"a", "b", "b\x00"}, "\x00"},
	} {
		if s, ok := impl.JoinStrings(c.parts, c.sep); ok || s != "" {
			t.Errorf("JoinStrings(%q, %q) = %q, %v", c.parts, c.sep, s, ok)
		}
	}
}

func TestJoinStringsLimit(t *testing.T) {
	long := strings.Repeat("a", impl.MaxString)
	half := strings.Repeat("a", impl.MaxString/2)
	for _, parts := range [][]string{
		{long}, {half, half[1:]}, {long[1:], ""}, {"", long[1:]}, make([]string, impl.MaxString+1),
	} {
		s, ok := impl.JoinStrings(parts, ",")
		if !ok || len(s) != impl.MaxString || s != strings.Join(parts, ",") {
			t.Error("a result of MaxString bytes", len(parts), len(s), ok)
		}
	}
	for _, parts := range [][]string{
		{long + "a"}, {half, half}, {long, ""}, {"", long}, {half, "", half[1:]}, make([]string, impl.MaxString+2),
	} {
		if s, ok := impl.JoinStrings(parts, ","); ok || s != "" {
			t.Error("a result beyond MaxString bytes", len(parts), len(s), ok)
		}
	}
}

func TestSplitAndJoinRoundTrip(t *testing.T) {
	for _, s := range append(wordsOver("a,\xff", 6), oddStrings()...) {
		if len(s) > impl.MaxString {
			continue
		}
		for _, sep := range []string{",", "a", "#", "\x00", "\xff"} {
			parts, ok := impl.SplitString(s, sep)
			if !ok || len(parts) != strings.Count(s, sep)+1 {
				t.Fatalf("SplitString(%.20q, %q): %d parts, %v", s, sep, len(parts), ok)
			}
			if back, ok := impl.JoinStrings(parts, sep); !ok || back != s {
				t.Fatalf("joined %.20q at %q: %.20q, %v", s, sep, back, ok)
			}
		}
	}
}

// TestJoinAndSplitRoundTrip joins lists in which elements are empty, equal or contain the
// separator; only the last are refused, so that no list is split into another one.
func TestJoinAndSplitRoundTrip(t *testing.T) {
	elements := []string{"", "a", "ab", "b;", ";", "#"}
	for _, x := range elements {
		for _, y := range elements {
			for _, z := range elements {
				parts := []string{x, y, z}
				s, ok := impl.JoinStrings(parts, ";")
				if ok == strings.Contains(x+y+z, ";") {
					t.Fatalf("JoinStrings(%q) = %q, %v", parts, s, ok)
				}
				if back, fine := impl.SplitString(s, ";"); ok && (!fine || !slices.Equal(back, parts)) {
					t.Fatalf("%q is split into %q", s, back)
				}
			}
		}
	}
}

func TestLessStringExamples(t *testing.T) {
	ascending := []string{
		"", "\x00", "\x00\x00", "\x00a", "\x01", " ", "#", "-", "0", "09", "1", "10", "9", "A", "Z", "a", "a\x00",
		"aa", "ab", "b", "ba", "~", "\x7f", "\x80", "é", "\xc3\xaa", "\xfe\xff", "\xff", "\xff\x00",
	}
	for i, a := range ascending {
		for j, b := range ascending {
			if impl.LessString(a, b) != (i < j) {
				t.Errorf("LessString(%q, %q) = %v", a, b, i >= j)
			}
		}
	}
	long := strings.Repeat("a", 2*impl.MaxString)
	if !impl.LessString(long, long+"a") || impl.LessString(long, long) || !impl.LessString(long+"a", long+"b") {
		t.Error("long strings")
	}
}

func TestChecksumExamples(t *testing.T) {
	for s, want := range map[string]int{
		"": 7, "a": 385, "ab": 15884, "abc": 651344, "abcd": 705751, "\x00": 288, "\xff": 543, "#": 323, "é": 19973,
	} {
		if h, ok := impl.Checksum(s); !ok || h != want {
			t.Errorf("Checksum(%q) = %d, %v", s, h, ok)
		}
	}
}

func TestChecksumLimit(t *testing.T) {
	for _, c := range []string{"a", "\xff", "#", "\x00"} {
		s := strings.Repeat(c, impl.MaxString)
		h := 7
		for i := range len(s) {
			h = (41*h + int(s[i]) + 1) % 999979
		}
		if got, ok := impl.Checksum(s); !ok || got != h {
			t.Errorf("Checksum of %d times %q = %d, %v", len(s), c, got, ok)
		}
		if got, ok := impl.Checksum(s + c); ok || got != 0 {
			t.Errorf("Checksum of too many %q = %d, %v", c, got, ok)
		}
	}
}

func TestAppendChecksumExamples(t *testing.T) {
	for s, want := range map[string]string{
		"": "#7", "a": "a#385", "ab": "ab#15884", "abcd": "abcd#705751", "a\n": "a\n#15796", "\xff": "\xff#543",
	} {
		sealed, ok := impl.AppendChecksum(s)
		if !ok || sealed != want {
			t.Errorf("AppendChecksum(%q) = %q, %v", s, sealed, ok)
		}
		if back, ok := impl.VerifyChecksum(sealed); !ok || back != s {
			t.Errorf("VerifyChecksum(%q) = %q, %v", sealed, back, ok)
		}
	}
}

func TestAppendChecksumRejects(t *testing.T) {
	long := strings.Repeat("a", impl.MaxString)
	for _, s := range []string{"#", "a#", "#a", "a#385", "a#b#c", long, long[1:], long[2:], long + "a", long + long} {
		if sealed, ok := impl.AppendChecksum(s); ok || sealed != "" {
			t.Errorf("AppendChecksum(%.20q) = %.20q, %v", s, sealed, ok)
		}
	}
}

// sealedWith returns a string of n bytes whose checksum has the given number of digits, and
// this string with `#` and the checksum behind it, however long that is.
func sealedWith(t *testing.T, n int, digits int) (string, string) {
	for i := range 1 << 16 {
		s := string([]byte{byte(i)}) + strings.Repeat(string([]byte{byte(i >> 8)}), n-1)
		h, ok := impl.Checksum(s)
		if sum := fmt.Sprint(h); ok && len(sum) == digits && !strings.Contains(s, "#") {
			return s, s + "#" + sum
		}
	}
	t.Fatalf("no string of %d bytes has a checksum of %d digits", n, digits)
	return "", ""
}

func TestSealedStringLimit(t *testing.T) {
	for _, digits := range []int{3, 4, 5, 6} {
		s, want := sealedWith(t, impl.MaxString-1-digits, digits)
		if sealed, ok := impl.AppendChecksum(s); !ok || sealed != want {
			t.Error("a result of MaxString bytes", digits, len(sealed), ok)
		}
		if back, ok := impl.VerifyChecksum(want); !ok || back != s {
			t.Error("MaxString bytes", digits, len(back), ok)
		}
		s, long := sealedWith(t, impl.MaxString-digits, digits)
		if sealed, ok := impl.AppendChecksum(s); ok || sealed != "" {
			t.Error("a result beyond MaxString bytes", digits, len(sealed), ok)
		}
		if back, ok := impl.VerifyChecksum(long); ok || back != "" {
			t.Error("beyond MaxString bytes", digits, len(back), ok)
		}
	}
}

func TestVerifyChecksumRejects(t *testing.T) {
	long := strings.Repeat("a", impl.MaxString)
	for _, s := range []string{
		"", "a", "385", "#", "##", "##7", "#7#", "#07", "#-7", "#+7", "#7 ", "# 7", "7#", "#8", "#0",
		"a#", "a#384", "a#386", "a#0385", "a#+385", "a#-385", "a# 385", "a#385 ", "a#385\n", "a#385x", "a#385#1",
		"a##385", "a#38", "a#3850", "a#0x181", "b#385", "aa#385", "A#385", "#385", "a#385a#385", "a@385",
		"a#1000364", "ab#15884\x00", "a#385#16086",
		long, long + "#1", "#" + long, strings.Repeat("#", impl.MaxString), long + long,
	} {
		if back, ok := impl.VerifyChecksum(s); ok || back != "" {
			t.Errorf("VerifyChecksum(%.20q) = %.20q, %v", s, back, ok)
		}
	}
}

// TestVerifyChecksumIsInverse compares VerifyChecksum with a table of everything that
// AppendChecksum writes.
func TestVerifyChecksumIsInverse(t *testing.T) {
	sealed := map[string]string{}
	words := wordsOver("a#7\xff", 4)
	for _, s := range words {
		x, ok := impl.AppendChecksum(s)
		if ok == strings.Contains(s, "#") {
			t.Errorf("AppendChecksum(%q) = %q, %v", s, x, ok)
		}
		if ok {
			sealed[x] = s
		}
	}
	for x, s := range sealed {
		words = append(words, x, x+"#", x+"0", "#"+x, s+"#0"+x[len(s)+1:], s+"#+"+x[len(s)+1:])
	}
	for _, x := range words {
		want, is := sealed[x]
		if s, ok := impl.VerifyChecksum(x); ok != is || s != want {
			t.Errorf("VerifyChecksum(%q) = %q, %v", x, s, ok)
		}
	}
}

// TestChangedByteIsDetected changes every byte of sealed strings to every other byte.
func TestChangedByteIsDetected(t *testing.T) {
	for _, s := range []string{
		"", "a", "\x00", "\xff", "7", "a bend wavy gold", "blue, two lions rampant silver", "\x00\x00\x00",
		"0 grant blue@ok", strings.Repeat("\xfe", 30), strings.Repeat("ab\n", 60),
	} {
		sealed, ok := impl.AppendChecksum(s)
		if !ok {
			t.Fatalf("AppendChecksum(%q) fails", s)
		}
		changed := []byte(sealed)
		for i, old := range changed {
			for c := range 256 {
				changed[i] = byte(c)
				back, ok := impl.VerifyChecksum(string(changed))
				if ok != (byte(c) == old) || ok && back != s || !ok && back != "" {
					t.Fatalf("VerifyChecksum(%q) = %q, %v", changed, back, ok)
				}
			}
			changed[i] = old
		}
	}
}

// TestChangedByteOfLongString changes bytes at all distances from the end of the longest
// strings, where the powers of the factor have gone round the modulus.
func TestChangedByteOfLongString(t *testing.T) {
	_, sealed := sealedWith(t, impl.MaxString-7, 6)
	changed := []byte(sealed)
	for i, old := range changed {
		for _, by := range []byte{1, 37, 128, 255} {
			changed[i] = old + by
			if back, ok := impl.VerifyChecksum(string(changed)); ok || back != "" {
				t.Fatalf("the byte %d changed by %d: %v", i, by, ok)
			}
		}
		changed[i] = old
	}
}

func TestStringsTotal(t *testing.T) {
	words := oddStrings()
	for _, n := range []int{math.MinInt, -1, 0, math.MaxInt} {
		impl.FormatInt(n)
	}
	for _, a := range words {
		impl.ParseInt(a)
		impl.Checksum(a)
		impl.AppendChecksum(a)
		impl.VerifyChecksum(a)
		for _, b := range words {
			if parts, ok := impl.SplitString(a, b); !ok && len(parts) != 0 {
				t.Errorf("SplitString(%.20q, %.20q): parts beside false", a, b)
			}
			if s, ok := impl.JoinStrings([]string{a, b, a}, b); !ok && s != "" {
				t.Errorf("JoinStrings with %.20q, %.20q: a string beside false", a, b)
			}
			if impl.LessString(a, b) && impl.LessString(b, a) {
				t.Errorf("%.20q and %.20q are less than each other", a, b)
			}
		}
	}
}

func TestJoinStringsLeavesArguments(t *testing.T) {
	whole := []string{"before", "a", "", "b", ";beyond"}
	kept := slices.Clone(whole)
	parts := whole[1:4]
	if s, ok := impl.JoinStrings(parts, ";"); !ok || s != "a;;b" {
		t.Error("a part of a slice", s, ok)
	}
	if s, ok := impl.JoinStrings(whole, ";"); ok || s != "" {
		t.Error("the whole slice", s, ok)
	}
	if !slices.Equal(whole, kept) {
		t.Errorf("the argument became %q", whole)
	}
	if s, ok := impl.JoinStrings(nil, ";"); ok || s != "" {
		t.Error("nil", s, ok)
	}
}

func TestSplitStringGivesNewMemory(t *testing.T) {
	s := "a,b,c"
	first, _ := impl.SplitString(s, ",")
	second, _ := impl.SplitString(s, ",")
	first[1] = "x"
	first = append(first[:2], "y")
	if !slices.Equal(second, []string{"a", "b", "c"}) || s != "a,b,c" {
		t.Errorf("%q changed with %q", second, first)
	}
}
