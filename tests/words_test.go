package tests

import (
	"fmt"
	"math"
	"math/big"
	"slices"
	"strings"
	"testing"

	"loop.example/g00183/impl"
)

func wantVar(t *testing.T, text string, at, wantN, wantPlace int, want bool) {
	t.Helper()
	n, place, ok := impl.ReadVar(text, at)
	if n != wantN || place != wantPlace || ok != want {
		t.Errorf("ReadVar(%.60q, %d): %d, %d, %t; want %d, %d, %t", text, at, n, place, ok, wantN, wantPlace, want)
	}
}

func wantShort(t *testing.T, text string, at int, wantS string, wantPlace int, want bool) {
	t.Helper()
	s, place, ok := impl.ReadShort(text, at)
	if s != wantS || place != wantPlace || ok != want {
		t.Errorf("ReadShort(%.60q, %d): %.60q, %d, %t; want %.60q, %d, %t", text, at, s, place, ok, wantS, wantPlace, want)
	}
}

func wantNumber(t *testing.T, text string, wantN int, want bool) {
	t.Helper()
	n, ok := impl.ReadDecimal(text)
	if n != wantN || ok != want {
		t.Errorf("ReadDecimal(%.60q): %d, %t; want %d, %t", text, n, ok, wantN, want)
	}
}

func wantParts(t *testing.T, line string, wantList []string, want bool) {
	t.Helper()
	parts, ok := impl.PartsOf(line)
	if !slices.Equal(parts, wantList) || ok != want {
		t.Errorf("PartsOf(%.60q): %q, %t; want %q, %t", line, parts, ok, wantList, want)
	}
}

// numbersToTry are the edges between the lengths of VarText and of Decimal, and a walk through what lies between.
func numbersToTry() []int {
	list := []int{0, 1, impl.MaxNumber - 1, impl.MaxNumber}
	for power := 2; power < impl.MaxNumber; power *= 2 {
		list = append(list, power-1, power, power+1)
	}
	for power := 10; power < impl.MaxNumber; power *= 10 {
		list = append(list, power-1, power, power+1)
	}
	for n := 0; n <= 40000; n++ {
		list = append(list, n)
	}
	for n := 40000; n < impl.MaxNumber; n += 99991 {
		list = append(list, n)
	}
	return list
}

// textsToTry have every byte, every edge of a length, and bytes that look like lengths.
func textsToTry() []string {
	list := []string{"", "a", "\x00", "\x80\x00", "\xff\xff", " a b ", "grüße", strings.Repeat("\x80", 9)}
	for b := range 256 {
		list = append(list, string([]byte{byte(b)}))
	}
	for _, size := range []int{15, 16, 126, 127, 128, 129, 16383, 16384, 16385, impl.MaxText - 1, impl.MaxText} {
		list = append(list, longText(size))
	}
	return list
}

func longText(size int) string {
	out := make([]byte, size)
	for i := range out {
		out[i] = byte(i*7 + i/256)
	}
	return string(out)
}

// The other tests lean on the limits by name, so a limit that moved would slip through them.
func TestWordLimits(t *testing.T) {
	if impl.MaxText != 20000 || impl.MaxNumber != 1000000000 || impl.MaxWords != 600 || impl.MaxParts != 10 {
		t.Error("a limit of chapter 1 is not the document's")
	}
}

func TestVarTextWrites(t *testing.T) {
	for _, c := range []struct {
		n    int
		want string
	}{
		{0, "\x00"}, {1, "\x01"}, {127, "\x7f"}, {128, "\x80\x01"}, {129, "\x81\x01"}, {255, "\xff\x01"}, {300, "\xac\x02"},
		{16383, "\xff\x7f"}, {16384, "\x80\x80\x01"}, {2097151, "\xff\xff\x7f"}, {2097152, "\x80\x80\x80\x01"},
		{268435455, "\xff\xff\xff\x7f"}, {268435456, "\x80\x80\x80\x80\x01"},
		{impl.MaxNumber - 1, "\xff\x93\xeb\xdc\x03"}, {impl.MaxNumber, "\x80\x94\xeb\xdc\x03"},
	} {
		s, ok := impl.VarText(c.n)
		wantText(t, fmt.Sprintf("VarText(%d)", c.n), s, ok, c.want, true)
	}
	for _, n := range []int{-1, -127, -128, -129, math.MinInt, math.MinInt + 1, impl.MaxNumber + 1, impl.MaxNumber + 128, 1 << 32, 1<<32 + 5, math.MaxInt} {
		s, ok := impl.VarText(n)
		wantText(t, fmt.Sprintf("VarText(%d)", n), s, ok, "", false)
	}
}

func TestVarTextIsReadBack(t *testing.T) {
	for _, n := range numbersToTry() {
		s, ok := impl.VarText(n)
		if !ok {
			t.Fatalf("VarText(%d): false", n)
		}
		wantVar(t, s, 0, n, len(s), true)
		wantVar(t, "\x80\x81"+s+"\x00\xff", 2, n, 2+len(s), true)
		for cut := range len(s) {
			wantVar(t, s[:cut], 0, 0, 0, false)
		}
		wantVar(t, s[:len(s)-1]+string([]byte{s[len(s)-1] | 128, 0}), 0, 0, 0, false)
	}
}

// Every text of two bytes begins with the VarText of a number up to 16383, or is refused.
func TestReadVarTakesNothingElse(t *testing.T) {
	known := map[string]int{}
	for n := range 16384 {
		s, _ := impl.VarText(n)
		known[s] = n
	}
	for high := range 256 {
		for low := range 256 {
			text := string([]byte{byte(high), byte(low)})
			if n, found := known[text[:1]]; found {
				wantVar(t, text, 0, n, 1, true)
			} else if n, found := known[text]; found {
				wantVar(t, text, 0, n, 2, true)
			} else {
				wantVar(t, text, 0, 0, 0, false)
			}
		}
	}
}

func TestReadVarRefuses(t *testing.T) {
	for _, text := range []string{
		"",                         // none
		"\x80", "\xff\xff", "\xac", // cut off
		"\x80\x94\xeb\xdc", "\x80\x80\x80\x80\x80", "\xff\xff\xff\xff\xff\xff\xff\xff\xff\xff", // cut off
		"\x80\x00", "\xff\x00", "\xac\x82\x00", "\x80\x80\x00", "\x80\x80\x80\x80\x00", // longer forms
		"\x80\x94\xeb\xdc\x83\x00", "\x80\x80\x80\x80\x80\x00", "\x81\x80\x80\x80\x80\x80\x80\x80\x80\x00", // longer forms
		"\x81\x94\xeb\xdc\x03",                         // MaxNumber and 1
		"\x80\x94\xeb\xdc\x04", "\xff\xff\xff\xff\x0f", // above MaxNumber
		"\xff\xff\xff\xff\x7f", "\x80\x80\x80\x80\x80\x01", // above MaxNumber
		"\x80\x80\x80\x80\x80\x80\x80\x80\x80\x01", "\x85\x80\x80\x80\x80\x80\x80\x80\x80\x02", // above 64 bits
		"\xff\xff\xff\xff\xff\xff\xff\xff\xff\x7f", "\x80\x80\x80\x80\x80\x80\x80\x80\x80\x80\x01",
	} {
		wantVar(t, text, 0, 0, 0, false)
		wantVar(t, "\x05"+text, 1, 0, 0, false)
	}
}

func TestReadVarPlaces(t *testing.T) {
	text := "\x05\xac\x02\x00"
	wantVar(t, text, 0, 5, 1, true)
	wantVar(t, text, 1, 300, 3, true)
	wantVar(t, text, 2, 2, 3, true)
	wantVar(t, text, 3, 0, 4, true)
	for _, at := range []int{4, 5, 6, 1000, math.MaxInt, math.MaxInt - 1, -1, -2, -4, math.MinInt} {
		wantVar(t, text, at, 0, 0, false)
		wantShort(t, text, at, "", 0, false)
	}
	wantVar(t, "", 1, 0, 0, false)
	wantVar(t, "", -1, 0, 0, false)
}

func TestShortTextIsReadBack(t *testing.T) {
	for _, s := range textsToTry() {
		size, _ := impl.VarText(len(s))
		got, ok := impl.ShortText(s)
		wantText(t, "ShortText", got, ok, size+s, true)
		wantShort(t, got, 0, s, len(got), true)
		wantShort(t, "\x80\x00"+got+"\x01b", 2, s, len(got)+2, true)
		if len(s) > 0 {
			wantShort(t, got[:len(got)-1], 0, "", 0, false)
		}
		wantShort(t, got[:len(size)-1], 0, "", 0, false)
	}
	for _, size := range []int{impl.MaxText + 1, impl.MaxText + 2, 2 * impl.MaxText} {
		got, ok := impl.ShortText(longText(size))
		wantText(t, fmt.Sprintf("ShortText of %d bytes", size), got, ok, "", false)
	}
}

func TestReadShortRefuses(t *testing.T) {
	above, _ := impl.VarText(impl.MaxText + 1)
	greatest, _ := impl.VarText(impl.MaxNumber)
	for _, text := range []string{
		"", "\x01", "\x02a", "\x7f", "\x80", "\xff\xff",
		"\x81\x00a", "\x80\x00", "\x80\x80\x00", // longer forms of a length
		above + longText(impl.MaxText+1), above + longText(impl.MaxText+9), // one byte too long
		above, greatest, greatest + "abc", "\x81\x94\xeb\xdc\x03abc",
		"\xff\xff\xff\xff\xff\xff\xff\xff\xff\x01abc", "\x81\x80\x80\x80\x80\x80\x80\x80\x80\x02abc",
	} {
		wantShort(t, text, 0, "", 0, false)
		wantShort(t, "\x00\x01"+text, 2, "", 0, false)
	}
	wantShort(t, "\x00", 0, "", 1, true)
	wantShort(t, "\x02ab", 0, "ab", 3, true)
	wantShort(t, "\x03ab\x00", 3, "", 4, true)
}

func TestHexIsReadBack(t *testing.T) {
	for _, s := range textsToTry() {
		got, ok := impl.Hex(s)
		wantText(t, "Hex", got, ok, fmt.Sprintf("%x", s), true)
		back, ok := impl.Unhex(got)
		wantText(t, "Unhex", back, ok, s, true)
	}
	got, ok := impl.Hex("\x00\x09\x0a\xf0\xab~")
	wantText(t, "Hex", got, ok, "00090af0ab7e", true)
	for _, size := range []int{impl.MaxText + 1, impl.MaxText + 2, 2 * impl.MaxText} {
		got, ok := impl.Hex(longText(size))
		wantText(t, fmt.Sprintf("Hex of %d bytes", size), got, ok, "", false)
	}
}

func TestUnhexTakesFiguresAlone(t *testing.T) {
	for high := range 256 {
		for low := range 256 {
			text := string([]byte{byte(high), byte(low)})
			first := strings.IndexByte("0123456789abcdef", byte(high))
			second := strings.IndexByte("0123456789abcdef", byte(low))
			want := ""
			if first >= 0 && second >= 0 {
				want = string([]byte{byte(first*16 + second)})
			}
			got, ok := impl.Unhex(text)
			wantText(t, fmt.Sprintf("Unhex(%q)", text), got, ok, want, want != "")
		}
	}
}

func TestUnhexRefuses(t *testing.T) {
	for _, text := range []string{
		"0", "a", "abc", "00000", "AB", "aB", "Ab", "61A1", "0x61", "6 ", " 6", "61 62", "-1", "+1", "g0", "0g", "\x00\x00",
		"6161616g", "6161g161", "٣", strings.Repeat("0", 2*impl.MaxText+1), strings.Repeat("0", 2*impl.MaxText+2),
		strings.Repeat("0", 2*impl.MaxText-1), strings.Repeat("0", 2*impl.MaxText-1) + "G",
	} {
		got, ok := impl.Unhex(text)
		wantText(t, fmt.Sprintf("Unhex(%.20q)", text), got, ok, "", false)
	}
	got, ok := impl.Unhex("")
	wantText(t, "Unhex of nothing", got, ok, "", true)
	got, ok = impl.Unhex(strings.Repeat("61", impl.MaxText))
	wantText(t, "Unhex at the limit", got, ok, strings.Repeat("a", impl.MaxText), true)
}

func TestDecimalWrites(t *testing.T) {
	for _, c := range []struct {
		n    int
		want string
	}{
		{0, "0"}, {1, "1"}, {9, "9"}, {10, "10"}, {99, "99"}, {100, "100"}, {101, "101"}, {-1, "-1"}, {-9, "-9"}, {-10, "-10"}, {-100, "-100"},
		{impl.MaxNumber, "1000000000"}, {impl.MaxNumber + 1, "1000000001"}, {-impl.MaxNumber, "-1000000000"}, {1 << 32, "4294967296"},
		{math.MaxInt, "9223372036854775807"}, {math.MaxInt - 1, "9223372036854775806"},
		{math.MinInt, "-9223372036854775808"}, {math.MinInt + 1, "-9223372036854775807"},
	} {
		wantText(t, "Decimal", impl.Decimal(c.n), true, c.want, true)
	}
	for shift := range 63 {
		for _, n := range []int{1<<shift - 1, 1 << shift, -1 << shift, -1<<shift - 1} {
			wantText(t, "Decimal", impl.Decimal(n), true, big.NewInt(int64(n)).String(), true)
		}
	}
}

func TestDecimalIsReadBack(t *testing.T) {
	for _, n := range numbersToTry() {
		wantNumber(t, impl.Decimal(n), n, true)
		wantNumber(t, "0"+impl.Decimal(n), 0, false)
		wantNumber(t, "-"+impl.Decimal(n), 0, false)
	}
	for _, n := range []int{-1, -10, -impl.MaxNumber, impl.MaxNumber + 1, impl.MaxNumber + 2, 9999999999, 10000000000, 1 << 32, 1<<32 + 1, math.MaxInt, math.MinInt, math.MinInt + 1} {
		wantNumber(t, impl.Decimal(n), 0, false)
	}
}

func TestReadDecimalRefuses(t *testing.T) {
	for _, text := range []string{
		"", "00", "01", "007", "0000000000", "01000000000", "-0", "-1", "+0", "+1", "-", "+", " 1", "1 ", "1 2", " ", "1.0", "1e3", "1_0", "0x1", "0b1",
		"a", "1a", "a1", "f", "12f4", "A", "1\n", "1\x00", "/", ":", "1/", "1:", "٣", "１",
		"18446744073709551616", "18446744073709551617", "36893488147419103233", "999999999a", strings.Repeat("9", 30000), strings.Repeat("0", 30000),
	} {
		wantNumber(t, text, 0, false)
	}
	for b := range 256 {
		if b < '0' || b > '9' {
			bad := string([]byte{byte(b)})
			wantNumber(t, bad, 0, false)
			wantNumber(t, "12"+bad, 0, false)
			wantNumber(t, "1"+bad+"2", 0, false)
		}
	}
}

func TestPartsOfSplits(t *testing.T) {
	long := strings.Repeat("x", impl.MaxWords)
	for _, c := range []struct {
		line string
		want []string
	}{
		{"", nil}, {" ", nil}, {"   ", nil}, {strings.Repeat(" ", impl.MaxWords), nil},
		{"a", []string{"a"}}, {" a", []string{"a"}}, {"a ", []string{"a"}}, {"  a  ", []string{"a"}},
		{"tick 1 2", []string{"tick", "1", "2"}}, {" tick  1   2 ", []string{"tick", "1", "2"}},
		{"# ~!\"' .,", []string{"#", "~!\"'", ".,"}}, {"a a a", []string{"a", "a", "a"}},
		{long, []string{long}}, {" " + long[2:] + " ", []string{long[2:]}},
		{"1 2 3 4 5 6 7 8 9 10", []string{"1", "2", "3", "4", "5", "6", "7", "8", "9", "10"}},
		{"  1  2  3  4  5  6  7  8  9  10  ", []string{"1", "2", "3", "4", "5", "6", "7", "8", "9", "10"}},
	} {
		wantParts(t, c.line, c.want, true)
	}
}

func TestPartsOfRefuses(t *testing.T) {
	for _, line := range []string{
		strings.Repeat(" ", impl.MaxWords+1), strings.Repeat("x", impl.MaxWords+1), strings.Repeat("x ", impl.MaxWords/2) + " ",
		strings.TrimSpace(strings.Repeat("a ", impl.MaxParts+1)), strings.Repeat(" a", impl.MaxParts+1), strings.Repeat("a ", impl.MaxParts+1),
		strings.Repeat("a ", impl.MaxWords/2), "a\tb", "a\nb", "\n", "\t", "a\n", "\ra", "a\x00", "grüße", "a\u00a0b", "a\u0085b", "\x7f",
	} {
		wantParts(t, line, nil, false)
	}
	for b := range 256 {
		c := string([]byte{byte(b)})
		if b < 32 || b > 126 {
			wantParts(t, c, nil, false)
			wantParts(t, "a b"+c, nil, false)
			wantParts(t, c+"a b", nil, false)
			wantParts(t, "a"+c+"b", nil, false)
			wantParts(t, strings.Repeat(" ", impl.MaxWords-1)+c, nil, false)
		} else if b > 32 {
			wantParts(t, c, []string{c}, true)
			wantParts(t, "a"+c+" b", []string{"a" + c, "b"}, true)
		}
	}
}

func TestWordsLeaveArgumentsAlone(t *testing.T) {
	for _, s := range append(textsToTry(), "6162", "61626", "\x02abc", "\x00", "\x05a", "tick  1 2", " a", "12345", "1 2 3 4 5 6 7 8 9 10 11") {
		a := newArgument(s)
		short, _ := impl.ShortText(a.text)
		a.untouched(t, "ShortText", short)
		hex, _ := impl.Hex(a.text)
		a.untouched(t, "Hex", hex)
		text, _ := impl.Unhex(a.text)
		a.untouched(t, "Unhex", text)
		parts, _ := impl.PartsOf(a.text)
		a.untouched(t, "PartsOf", parts...)
		for at := -1; at <= min(len(s), 20)+1; at++ {
			impl.ReadVar(a.text, at)
			read, _, _ := impl.ReadShort(a.text, at)
			a.untouched(t, "ReadShort", read)
		}
		impl.ReadDecimal(a.text)
		a.untouched(t, "ReadDecimal")

		b := newArgument(short)
		read, _, _ := impl.ReadShort(b.text, 0)
		b.untouched(t, "ReadShort", read)
		c := newArgument(hex)
		text, _ = impl.Unhex(c.text)
		c.untouched(t, "Unhex", text)
	}
}

// What a caller does with one answer is not seen in the next one.
func TestPartsOfAnswersNewLists(t *testing.T) {
	for _, line := range []string{"", "  ", "a b", "a\n", strings.Repeat("a ", impl.MaxParts+1)} {
		first, ok := impl.PartsOf(line)
		before := slices.Clone(first)
		for i := range first[:cap(first)] {
			first[:cap(first)][i] = "changed"
		}
		wantParts(t, line, before, ok)
	}
}
