package tests

import (
	"fmt"
	"math"
	"slices"
	"strings"
	"testing"

	"loop.example/g01042/impl"
)

func TestCodes(t *testing.T) {
	expect(t, "codes", values(impl.OK, impl.ErrInvalid, impl.ErrRange, impl.ErrNotFound, impl.ErrExists, impl.ErrFull,
		impl.ErrState, impl.ErrSyntax, impl.ErrFormat, impl.ErrClash, impl.ErrCracked), 0, 1, 2, 3, 4, 5, 6, 7, 8, 9, 10)
	expect(t, "MaxName", values(impl.MaxName), 12)
}

func TestCodeName(t *testing.T) {
	names := []string{"ok", "invalid", "range", "not-found", "exists", "full", "state", "syntax", "format", "clash", "cracked"}
	codes := []int64{impl.OK, impl.ErrInvalid, impl.ErrRange, impl.ErrNotFound, impl.ErrExists, impl.ErrFull,
		impl.ErrState, impl.ErrSyntax, impl.ErrFormat, impl.ErrClash, impl.ErrCracked}
	for k, name := range names {
		expect(t, fmt.Sprintf("CodeName(%d)", codes[k]), values(impl.CodeName(codes[k])), name)
	}
	for _, code := range []int64{-1, -2, -11, 11, 12, 255, 256, 1 << 32, 1<<32 + 1, 1 << 63 >> 1, math.MinInt64, math.MinInt64 + 1, math.MaxInt64} {
		expect(t, fmt.Sprintf("CodeName(%d)", code), values(impl.CodeName(code)), "")
	}
}

func TestIsName(t *testing.T) {
	names := []string{
		"wall-3", // the example of the chapter
		"a", "z", "az", "a0", "a9", "a-", "a--", "z-9", "abcdefghijkl", "mnopqrstuvwx", "yz-012345678", "a-----------", "a99999999999",
	}
	for _, s := range names {
		expect(t, fmt.Sprintf("IsName(%q)", s), values(impl.IsName(s)), true)
	}
	others := []string{
		"", "-", "0", "9", "-a", "0a", "9a", "--", "3-wall", "A", "Z", "aB", "Wall", "wall 3", " wall", "wall ", " ", "a_b", "a.b", "a+b", "a\tb", "a\n",
		"abcdefghijklm", "a------------", "a999999999999", "abcdefghijkl ", strings.Repeat("a", 1000), "-bcdefghijkl",
		"é", "aé", "ａ", "aａ", "aaaaaaaaaａ", "a٣", "a\x00", "\x00", "a\x80", "\xff", "a\xe4\xb8", "ſ", "a–b",
	}
	for _, s := range others {
		expect(t, fmt.Sprintf("IsName(%q)", s), values(impl.IsName(s)), false)
	}
}

func TestIsNameForEachByteAndLength(t *testing.T) {
	for b := range 256 {
		letter := 'a' <= b && b <= 'z'
		other := '0' <= b && b <= '9' || b == '-'
		c := string([]byte{byte(b)})
		expect(t, fmt.Sprintf("IsName(%q)", c), values(impl.IsName(c)), letter)
		expect(t, fmt.Sprintf("IsName(%q)", c+"x"), values(impl.IsName(c+"x")), letter)
		expect(t, fmt.Sprintf("IsName(%q)", "x"+c), values(impl.IsName("x"+c)), letter || other)
		expect(t, fmt.Sprintf("IsName(%q)", "x"+c+"y"), values(impl.IsName("x"+c+"y")), letter || other)
		expect(t, fmt.Sprintf("IsName(%q)", "abcdefghijk"+c), values(impl.IsName("abcdefghijk"+c)), letter || other)
	}
	for n := range 40 {
		s := strings.Repeat("k", n)
		expect(t, fmt.Sprintf("IsName(%q)", s), values(impl.IsName(s)), 1 <= n && n <= impl.MaxName)
	}
}

func TestDecimal(t *testing.T) {
	known := map[int64]string{
		0: "0", 1: "1", -1: "-1", 9: "9", 10: "10", -10: "-10", 99: "99", 100: "100", 1000000: "1000000",
		999999999999999999: "999999999999999999", 1000000000000000000: "1000000000000000000",
		math.MaxInt64: "9223372036854775807", math.MinInt64: "-9223372036854775808", math.MinInt64 + 1: "-9223372036854775807",
	}
	for n, s := range known {
		expect(t, fmt.Sprintf("Decimal(%d)", n), values(impl.Decimal(n)), s)
	}
	for n := int64(-1100); n <= 1100; n++ {
		expect(t, fmt.Sprintf("Decimal(%d)", n), values(impl.Decimal(n)), fmt.Sprint(n))
	}
}

func TestReadDecimalReadsBack(t *testing.T) {
	for n := int64(-1100); n <= 1100; n++ {
		expect(t, fmt.Sprintf("ReadDecimal(%d)", n), values(impl.ReadDecimal(impl.Decimal(n))), n, true)
	}
	power := int64(1)
	for digits := 1; digits <= 18; digits++ {
		for _, n := range []int64{power, -power, 10*power - 1, 1 - 10*power, power + 7, -power - 7} {
			expect(t, fmt.Sprintf("ReadDecimal(%d)", n), values(impl.ReadDecimal(fmt.Sprint(n))), n, true)
		}
		power *= 10
	}
}

func TestReadDecimalOfOthers(t *testing.T) {
	others := []string{
		// 19 digits and more, also of numbers that fit into an int64 or wrap around to a small one
		"1000000000000000000", "-1000000000000000000", "9223372036854775807", "-9223372036854775808", "9223372036854775808",
		"18446744073709551616", "18446744073709551621", "-18446744073709551611", strings.Repeat("9", 100),
		// leading zeros and signs
		"00", "01", "007", "-0", "-00", "-01", "000000000000000001", "-000000000000000001", "0000000000000000001", strings.Repeat("0", 50),
		"+0", "+1", "-", "+", "--1", "-+1", "+-1", "1-", "- 1",
		// other texts
		"", " ", " 1", "1 ", "1 2", "\t1", "1\n", "1\x00", "1.0", "1.", ".1", "1e3", "1_0", "0x1", "0b1", "0o7", "1a", "a", "-a", "wall-3",
		"٣", "1٣", "\xff", "1\x80", "−1",
	}
	for _, s := range others {
		expect(t, fmt.Sprintf("ReadDecimal(%q)", s), values(impl.ReadDecimal(s)), 0, false)
	}
	for b := range 256 {
		digit := '0' <= b && b <= '9'
		want := int64(0)
		if digit {
			want = 50 + int64(b-'0')
		}
		s := "5" + string([]byte{byte(b)})
		expect(t, fmt.Sprintf("ReadDecimal(%q)", s), values(impl.ReadDecimal(s)), want, digit)
	}
}

func TestSplitWords(t *testing.T) {
	cases := []struct {
		text  string
		words []string
	}{
		{"", nil}, {" ", nil}, {"     ", nil},
		{"a", []string{"a"}}, {" a", []string{"a"}}, {"a ", []string{"a"}}, {"   a   ", []string{"a"}},
		{"a b", []string{"a", "b"}}, {"a  b", []string{"a", "b"}}, {"  a   bc    d  ", []string{"a", "bc", "d"}},
		{"wall 12 2", []string{"wall", "12", "2"}}, {"b a b a", []string{"b", "a", "b", "a"}},
		// no other white space parts words
		{"a\tb", []string{"a\tb"}}, {"a\nb c\r", []string{"a\nb", "c\r"}}, {"\t \n", []string{"\t", "\n"}},
		{"a\u00a0b", []string{"a\u00a0b"}}, {"a\u2003b \u0085", []string{"a\u2003b", "\u0085"}}, {"a\v\fb", []string{"a\v\fb"}},
		// bytes are kept as they are
		{"é ö", []string{"é", "ö"}}, {"\xff \x00 \xe4\xb8", []string{"\xff", "\x00", "\xe4\xb8"}}, {"\xe4 \xb8", []string{"\xe4", "\xb8"}},
	}
	for _, c := range cases {
		if got := impl.SplitWords(c.text); !slices.Equal(got, c.words) {
			t.Errorf("SplitWords(%q): got %q, want %q", c.text, got, c.words)
		}
	}
	for b := range 256 {
		c := string([]byte{byte(b)})
		want := []string{"x" + c + "y"}
		if c == " " {
			want = []string{"x", "y"}
		}
		if got := impl.SplitWords("x" + c + "y"); !slices.Equal(got, want) {
			t.Errorf("SplitWords(%q): got %q, want %q", "x"+c+"y", got, want)
		}
	}
}

// TestSplitWordsOfAllShortTexts compares with words that are found letter by letter.
func TestSplitWordsOfAllShortTexts(t *testing.T) {
	for size := range 8 {
		for n := range 1 << size {
			text, words, open := "", []string(nil), false
			for k := range size {
				if n>>k&1 == 0 {
					text, open = text+" ", false
					continue
				}
				letter := string(rune('a' + k))
				if text += letter; open {
					words[len(words)-1] += letter
				} else {
					words, open = append(words, letter), true
				}
			}
			if got := impl.SplitWords(text); !slices.Equal(got, words) {
				t.Errorf("SplitWords(%q): got %q, want %q", text, got, words)
			}
		}
	}
}

// TestPromise1Basics: every function of chapter 1 returns for all arguments, and equal results for equal arguments.
func TestPromise1Basics(t *testing.T) {
	texts := []string{"", " ", "a", "wall-3", "-", "12", "-12", "999999999999999999", "a b  c", "\xff\xfe", "é", strings.Repeat("ab ", 1000), strings.Repeat("9", 1000)}
	for range 2 {
		for _, n := range extremes {
			expect(t, "CodeName", values(impl.CodeName(n)), impl.CodeName(n))
			expect(t, "Decimal", values(impl.Decimal(n)), fmt.Sprint(n))
		}
		for _, s := range texts {
			n, ok := impl.ReadDecimal(s)
			expect(t, "ReadDecimal", values(impl.ReadDecimal(s)), n, ok)
			expect(t, "IsName", values(impl.IsName(s)), impl.IsName(s))
		}
	}
}

// TestSplitWordsReturnsNewMemory changes a result and its unused capacity: no other result may change.
func TestSplitWordsReturnsNewMemory(t *testing.T) {
	const text = " lay three  courses "
	want := []string{"lay", "three", "courses"}
	first, second := impl.SplitWords(text), impl.SplitWords(text)
	for k := range first {
		first[k] = "changed"
	}
	_ = append(first[:1], "more", "and", "more")
	for _, got := range [][]string{second, impl.SplitWords(text)} {
		if !slices.Equal(got, want) {
			t.Errorf("SplitWords(%q): got %q, want %q", text, got, want)
		}
	}
}
