package tests

import (
	"bytes"
	"math"
	"math/big"
	"slices"
	"strconv"
	"strings"
	"testing"

	"loop.example/g01128/impl"
)

// textsOf returns all strings of at most most bytes of an alphabet, the shorter ones first.
func textsOf(alphabet string, most int) []string {
	all := []string{""}
	for first := 0; most > 0; most-- {
		end := len(all)
		for _, text := range all[first:end] {
			for i := range len(alphabet) {
				all = append(all, text+alphabet[i:i+1])
			}
		}
		first = end
	}
	return all
}

func allBytes() string {
	b := make([]byte, 256)
	for i := range b {
		b[i] = byte(i)
	}
	return string(b)
}

// shortened keeps messages about texts near MaxString readable.
func shortened(s string) string {
	if len(s) > 60 {
		return s[:60] + ".."
	}
	return s
}

func TestLimitsOfStrings(t *testing.T) {
	if impl.MaxString != 4000 || impl.MaxDecimal != 999999 {
		t.Error("limits", impl.MaxString, impl.MaxDecimal)
	}
}

func TestFormatInt(t *testing.T) {
	for n, want := range map[int]string{
		0: "0", 7: "7", -7: "-7", 10: "10", -12: "-12", 100: "100", 90909: "90909",
		999999: "999999", -999999: "-999999", 999998: "999998", -999998: "-999998",
	} {
		if s, ok := impl.FormatInt(n); !ok || s != want {
			t.Errorf("FormatInt(%d) = %q, %t", n, s, ok)
		}
	}
	for _, n := range []int{1000000, -1000000, 1 << 32, -1 << 32, math.MaxInt, math.MinInt} {
		if s, ok := impl.FormatInt(n); ok || s != "" {
			t.Errorf("FormatInt(%d) = %q, %t", n, s, ok)
		}
	}
}

func TestFormatIntAndParseIntRoundTrip(t *testing.T) {
	for n := -impl.MaxDecimal; n <= impl.MaxDecimal; n++ {
		s, ok := impl.FormatInt(n)
		if !ok {
			t.Fatalf("FormatInt(%d) fails", n)
		}
		if m, ok := impl.ParseInt(s); !ok || m != n {
			t.Fatalf("ParseInt(%q) = %d, %t", s, m, ok)
		}
	}
}

func TestParseIntRejects(t *testing.T) {
	for _, s := range []string{
		"", "-", "+", "-0", "+0", "00", "01", "-01", "007", "+1", "--1", "-+1", "1-", "1-2",
		" 1", "1 ", "1\n", "\x001", "1\x00", "1x", "x1", "0x1", "0b1", "0o7", "1_0", "1e3", "1.0", "1,0",
		"1000000", "-1000000", "0999999", "9999990", "99999999",
		"\u0661", "\uff11", "\u22121", "1\xff",
		// These are 2^32, 2^32 + 1, 2^63, 2^64 and 2^64 + 1, which might wrap around.
		"4294967296", "4294967297", "9223372036854775808", "18446744073709551616", "18446744073709551617",
		"-18446744073709551617", strings.Repeat("0", 5000), strings.Repeat("9", 5000),
	} {
		if n, ok := impl.ParseInt(s); ok || n != 0 {
			t.Errorf("ParseInt(%q) = %d, %t", shortened(s), n, ok)
		}
	}
}

func TestParseIntAcceptsJustWhatFormatIntWrites(t *testing.T) {
	written := map[string]int{}
	for n := -99999; n <= 99999; n++ {
		s, _ := impl.FormatInt(n)
		written[s] = n
	}
	for _, s := range textsOf("-+0129 x", 5) {
		want, fine := written[s]
		if n, ok := impl.ParseInt(s); ok != fine || n != want {
			t.Errorf("ParseInt(%q) = %d, %t", s, n, ok)
		}
	}
}

func TestSplitString(t *testing.T) {
	for _, c := range []struct {
		s, sep string
		want   []string
	}{
		{"a,,b", ",", []string{"a", "", "b"}},
		{"", ",", []string{""}},
		{",", ",", []string{"", ""}},
		{",,", ",", []string{"", "", ""}},
		{"abc", ",", []string{"abc"}},
		{",a", ",", []string{"", "a"}},
		{"a,", ",", []string{"a", ""}},
		{"a b c", " ", []string{"a", "b", "c"}},
		{"a\nb\n", "\n", []string{"a", "b", ""}},
		{"a\x00b", "\x00", []string{"a", "b"}},
		{"a.b", ".", []string{"a", "b"}},
		{"aAa", "a", []string{"", "A", ""}},
		{"\xff\xfe\xff", "\xfe", []string{"\xff", "\xff"}},
		{"x\u00e9y", "\xa9", []string{"x\xc3", "y"}},
		{"x\u00e9y", "\xc3", []string{"x", "\xa9y"}},
	} {
		if parts, ok := impl.SplitString(c.s, c.sep); !ok || !slices.Equal(parts, c.want) {
			t.Errorf("SplitString(%q, %q) = %q, %t", c.s, c.sep, parts, ok)
		}
	}
}

func TestSplitStringLimits(t *testing.T) {
	longest := strings.Repeat("a", impl.MaxString)
	if parts, ok := impl.SplitString(longest, ","); !ok || !slices.Equal(parts, []string{longest}) {
		t.Error("the longest text", len(parts), ok)
	}
	parts, ok := impl.SplitString(strings.Repeat(",", impl.MaxString), ",")
	if !ok || !slices.Equal(parts, make([]string, impl.MaxString+1)) {
		t.Error("separators only", len(parts), ok)
	}
	for _, c := range []struct{ s, sep string }{
		{longest + "a", ","}, {longest + ",", ","}, {strings.Repeat(",", impl.MaxString+1), ","},
		{"a,b", ""}, {"", ""}, {"a,,b", ",,"}, {"", ",,"}, {"a,;b", ",;"},
		{"a\u00e9b", "\u00e9"}, {longest + "a", ""}, {"a", "a\x00"},
	} {
		if parts, ok := impl.SplitString(c.s, c.sep); ok || len(parts) != 0 {
			t.Errorf("SplitString(%q, %q) = %q, %t", shortened(c.s), c.sep, parts, ok)
		}
	}
}

func TestSplitStringResultsShareNothing(t *testing.T) {
	first, _ := impl.SplitString("a,b", ",")
	second, _ := impl.SplitString("a,b", ",")
	first[0] = "x"
	if second[0] != "a" {
		t.Error("shared", second)
	}
}

func TestJoinStrings(t *testing.T) {
	for _, c := range []struct {
		parts []string
		sep   string
		want  string
	}{
		{[]string{"a", "", "b"}, ";", "a;;b"},
		{[]string{""}, ";", ""},
		{[]string{"", ""}, ";", ";"},
		{[]string{"a"}, ";", "a"},
		{[]string{"", "a", ""}, ";", ";a;"},
		{[]string{"a,b", "c"}, ";", "a,b;c"},
		{[]string{"a", "b"}, "\x00", "a\x00b"},
		{[]string{"x\xc3", "y"}, "\xa9", "x\u00e9y"},
		{[]string{"\xff", "\xff"}, "\xfe", "\xff\xfe\xff"},
	} {
		given := slices.Clone(c.parts)
		if s, ok := impl.JoinStrings(c.parts, c.sep); !ok || s != c.want {
			t.Errorf("JoinStrings(%q, %q) = %q, %t", c.parts, c.sep, s, ok)
		}
		if !slices.Equal(c.parts, given) {
			t.Errorf("JoinStrings changes %q to %q", given, c.parts)
		}
	}
}

func TestJoinStringsFails(t *testing.T) {
	for _, c := range []struct {
		parts []string
		sep   string
	}{
		{nil, ";"}, {[]string{}, ";"}, {nil, ""},
		{[]string{"a", "b"}, ""}, {[]string{"a"}, ""}, {[]string{"a", "b"}, ";;"},
		{[]string{"a"}, ";;"}, {[]string{"a", "b"}, "\u00e9"},
		{[]string{";"}, ";"}, {[]string{"a;b"}, ";"}, {[]string{";a", "b"}, ";"},
		{[]string{"a", "b;"}, ";"}, {[]string{"a", ";", "b"}, ";"},
		{[]string{"x\u00e9"}, "\xa9"}, {[]string{"\xff"}, "\xff"},
	} {
		if s, ok := impl.JoinStrings(c.parts, c.sep); ok || s != "" {
			t.Errorf("JoinStrings(%q, %q) = %q, %t", c.parts, c.sep, s, ok)
		}
	}
}

func TestJoinStringsLimits(t *testing.T) {
	half := strings.Repeat("a", impl.MaxString/2)
	for _, parts := range [][]string{
		{half + half}, {half, half[1:]}, {half[1:], half}, {"", half, half[2:]},
		make([]string, impl.MaxString+1),
	} {
		s, ok := impl.JoinStrings(parts, ";")
		if !ok || s != strings.Join(parts, ";") || len(s) != impl.MaxString {
			t.Error("longest result", len(parts), len(s), ok)
		}
		longer := append(slices.Clone(parts), "")
		if s, ok := impl.JoinStrings(longer, ";"); ok || s != "" {
			t.Error("a separator beyond", len(parts), len(s), ok)
		}
		longer = slices.Clone(parts)
		longer[0] += "a"
		if s, ok := impl.JoinStrings(longer, ";"); ok || s != "" {
			t.Error("a byte beyond", len(parts), len(s), ok)
		}
	}
	if s, ok := impl.JoinStrings(make([]string, 3*impl.MaxString), ";"); ok || s != "" {
		t.Error("far beyond", len(s), ok)
	}
}

func TestSplitStringAndJoinStringsRoundTrip(t *testing.T) {
	separators := []string{",", ";", "\xc3"}
	for _, s := range textsOf("a,;\xc3", 6) {
		for _, sep := range separators {
			parts, ok := impl.SplitString(s, sep)
			if !ok || len(parts) != strings.Count(s, sep)+1 {
				t.Fatalf("SplitString(%q, %q) = %q, %t", s, sep, parts, ok)
			}
			if joined, ok := impl.JoinStrings(parts, sep); !ok || joined != s {
				t.Fatalf("JoinStrings(%q, %q) = %q, %t", parts, sep, joined, ok)
			}
		}
	}
}

func TestJoinStringsAndSplitStringRoundTrip(t *testing.T) {
	elements := textsOf("a,", 2)
	for _, a := range elements {
		for _, b := range elements {
			parts := []string{a, b, a}
			s, ok := impl.JoinStrings(parts, ";")
			if !ok {
				t.Fatalf("JoinStrings(%q) fails", parts)
			}
			if split, ok := impl.SplitString(s, ";"); !ok || !slices.Equal(split, parts) {
				t.Fatalf("SplitString(%q) = %q, %t", s, split, ok)
			}
		}
	}
}

func TestLessString(t *testing.T) {
	for _, c := range []struct {
		a, b string
		want bool
	}{
		{"a", "ab", true}, {"ab", "a", false}, {"", "a", true}, {"a", "", false}, {"", "", false},
		{"a", "a", false}, {"b", "ab", false}, {"ab", "b", true}, {"Z", "a", true},
		{"10", "9", true}, {"9", "10", false}, {"-1", "0", true},
		{"\x7f", "\x80", true}, {"\x80", "\x7f", false}, {"\xff", "\x00", false},
		{"", "\x00", true}, {"a", "a\x00", true}, {"\u00e9", "z", false},
	} {
		if got := impl.LessString(c.a, c.b); got != c.want {
			t.Errorf("LessString(%q, %q) = %t", c.a, c.b, got)
		}
	}
	long := strings.Repeat("a", 2*impl.MaxString)
	if !impl.LessString(long, long+"a") || impl.LessString(long+"a", long) || impl.LessString(long, long) {
		t.Error("longer than MaxString")
	}
}

func TestLessStringComparesBytes(t *testing.T) {
	texts := textsOf("\x00a\x7f\x80\xff", 3)
	for _, a := range texts {
		for _, b := range texts {
			if got := impl.LessString(a, b); got != (bytes.Compare([]byte(a), []byte(b)) < 0) {
				t.Errorf("LessString(%q, %q) = %t", a, b, got)
			}
		}
	}
}

// bigChecksum goes from the end of s on, by the powers of 41, so that it does not repeat the
// steps of the program.
func bigChecksum(s string) int {
	sum, power, modulus := big.NewInt(0), big.NewInt(1), big.NewInt(999979)
	term := new(big.Int)
	for i := len(s) - 1; i >= 0; i-- {
		sum.Add(sum, term.Mul(power, big.NewInt(int64(s[i])+1)))
		power.Mod(power.Mul(power, big.NewInt(41)), modulus)
	}
	sum.Add(sum, power.Mul(power, big.NewInt(7)))
	return int(sum.Mod(sum, modulus).Int64())
}

func digitsOf(s string) string {
	return strconv.Itoa(bigChecksum(s))
}

func TestChecksum(t *testing.T) {
	for s, want := range map[string]int{
		"": 7, "a": 385, "\x00": 288, "\xff": 543, "ab": 15884, "ba": 15924, "#": 323,
	} {
		if h, ok := impl.Checksum(s); !ok || h != want {
			t.Errorf("Checksum(%q) = %d, %t", s, h, ok)
		}
	}
	longest := strings.Repeat("\xff", impl.MaxString)
	for _, s := range append(textsOf("\x00a#\xff", 5), allBytes(), longest, longest[1:]) {
		if h, ok := impl.Checksum(s); !ok || h != bigChecksum(s) {
			t.Errorf("Checksum(%q) = %d, %t", shortened(s), h, ok)
		}
	}
	for _, s := range []string{longest + "a", longest + longest} {
		if h, ok := impl.Checksum(s); ok || h != 0 {
			t.Error("too long", len(s), h, ok)
		}
	}
}

func TestAppendChecksum(t *testing.T) {
	for s, want := range map[string]string{
		"": "#7", "a": "a#385", "ab": "ab#15884", "ba": "ba#15924", "\x00": "\x00#288", "\xff": "\xff#543",
	} {
		if sealed, ok := impl.AppendChecksum(s); !ok || sealed != want {
			t.Errorf("AppendChecksum(%q) = %q, %t", s, sealed, ok)
		}
	}
	for _, s := range []string{
		"#", "##", "#a", "a#", "a#b", "a#385", strings.Repeat("a", 100) + "#",
		strings.Repeat("a", impl.MaxString), strings.Repeat("a", impl.MaxString+1),
	} {
		if sealed, ok := impl.AppendChecksum(s); ok || sealed != "" {
			t.Errorf("AppendChecksum(%q) = %q, %t", shortened(s), shortened(sealed), ok)
		}
	}
}

// TestChecksummedLimit looks at texts for which results with one more byte are too long, for
// checksums of several lengths.
func TestChecksummedLimit(t *testing.T) {
	atLimit, beyond := map[int]bool{}, map[int]bool{}
	for size := impl.MaxString - 8; size <= impl.MaxString+1; size++ {
		for c := range 500 {
			s := string([]byte{'0' + byte(c/10), '0' + byte(c%10)}) + strings.Repeat("a", size-2)
			digits := digitsOf(s)
			want := s + "#" + digits
			fine := len(want) <= impl.MaxString
			sealed, ok := impl.AppendChecksum(s)
			if ok != fine || ok && sealed != want || !ok && sealed != "" {
				t.Fatal("sealed", size, c, len(sealed), ok)
			}
			opened, ok := impl.VerifyChecksum(want)
			if ok != fine || ok && opened != s || !ok && opened != "" {
				t.Fatal("opened", size, c, len(opened), ok)
			}
			atLimit[len(digits)] = atLimit[len(digits)] || len(want) == impl.MaxString
			beyond[len(digits)] = beyond[len(digits)] || len(want) == impl.MaxString+1
		}
	}
	for _, n := range []int{4, 5, 6} {
		if !atLimit[n] || !beyond[n] {
			t.Error("no text tells about checksums with this number of digits:", n)
		}
	}
}

func TestVerifyChecksum(t *testing.T) {
	for s, want := range map[string]string{
		"#7": "", "a#385": "a", "ab#15884": "ab", "\x00#288": "\x00", "\xff#543": "\xff",
	} {
		if text, ok := impl.VerifyChecksum(s); !ok || text != want {
			t.Errorf("VerifyChecksum(%q) = %q, %t", s, text, ok)
		}
	}
	for _, s := range []string{
		"", "a", "#", "##", "7", "#8", "#07", "#7 ", " #7", "#+7", "#7#", "##7", "##323", "#7\n", "#-7",
		"a#", "a#384", "a#386", "a#0385", "a#+385", "a#-385", "a# 385", "a#385 ", "a#385\n", "a#385a", "a#38", "a#3850",
		"b#385", "A#385", "a385", "a385#", "#385a", "a#385#1", "a#385#385", "a##385", "aa#385",
		// The number is equal to the checksum only modulo 999979.
		"a#1000364", "#999986", "#-999972",
	} {
		if text, ok := impl.VerifyChecksum(s); ok || text != "" {
			t.Errorf("VerifyChecksum(%q) = %q, %t", s, text, ok)
		}
	}
	for _, s := range []string{strings.Repeat("a", impl.MaxString+1), strings.Repeat("#", impl.MaxString)} {
		if text, ok := impl.VerifyChecksum(s); ok || text != "" {
			t.Error("VerifyChecksum of a long text", len(s), ok)
		}
	}
}

// TestVerifyChecksumOfTextsWithMarks: a correct checksum does not make up for a mark in the text.
func TestVerifyChecksumOfTextsWithMarks(t *testing.T) {
	for _, s := range []string{"#", "a#", "#a", "a#385", "a#b#c"} {
		sealed := s + "#" + digitsOf(s)
		if text, ok := impl.VerifyChecksum(sealed); ok || text != "" {
			t.Errorf("VerifyChecksum(%q) = %q, %t", sealed, text, ok)
		}
	}
}

func TestVerifyChecksumOpensWhatAppendChecksumWrites(t *testing.T) {
	marked := allBytes()
	for _, s := range append(textsOf("\x000a#\xff", 5), strings.ReplaceAll(marked, "#", ""), marked) {
		sealed, ok := impl.AppendChecksum(s)
		if ok == strings.Contains(s, "#") {
			t.Fatalf("AppendChecksum(%q) = %q, %t", s, sealed, ok)
		}
		if text, fine := impl.VerifyChecksum(sealed); fine != ok || ok && text != s || !ok && text != "" {
			t.Fatalf("VerifyChecksum(%q) = %q, %t", sealed, text, fine)
		}
	}
}

// checkChanges changes the byte at a place into each other one.
func checkChanges(t *testing.T, sealed string, place int) {
	changed := []byte(sealed)
	for c := range 256 {
		if byte(c) == sealed[place] {
			continue
		}
		changed[place] = byte(c)
		if text, ok := impl.VerifyChecksum(string(changed)); ok || text != "" {
			t.Fatalf("VerifyChecksum opens %q with the byte %d at %d", shortened(sealed), c, place)
		}
	}
}

func TestAnySingleChangedByteIsDetected(t *testing.T) {
	for _, s := range []string{
		"", "a", "0", "9", "385", "\x00", "\xff", "\"$\"", "a line with words", "0 put 3@1 3", "\u00e9\u22121",
		strings.ReplaceAll(allBytes(), "#", ""),
	} {
		sealed, ok := impl.AppendChecksum(s)
		if !ok {
			t.Fatalf("AppendChecksum(%q) fails", s)
		}
		for place := range len(sealed) {
			checkChanges(t, sealed, place)
		}
	}
}

func TestAnySingleChangedByteOfALongTextIsDetected(t *testing.T) {
	sealed, ok := impl.AppendChecksum(strings.Repeat("x7 ", 1331)) // 3993 bytes
	if !ok || len(sealed) < impl.MaxString-3 {
		t.Fatal("sealed", len(sealed), ok)
	}
	for place := 0; place < len(sealed); place += 97 {
		checkChanges(t, sealed, place)
	}
	for place := len(sealed) - 8; place < len(sealed); place++ {
		checkChanges(t, sealed, place)
	}
}
