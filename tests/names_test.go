package tests

import (
	"fmt"
	"math"
	"slices"
	"strings"
	"testing"

	"loop.example/g00183/impl"
)

func wantName(t *testing.T, s string, want bool) {
	t.Helper()
	if got := impl.NameOk(s); got != want {
		t.Errorf("NameOk(%.60q): %t; want %t", s, got, want)
	}
}

func wantPrivate(t *testing.T, daemon int, s, want string) {
	t.Helper()
	if got := impl.PrivateName(daemon, s); got != want {
		t.Errorf("PrivateName(%d, %.60q): %.60q; want %.60q", daemon, s, got, want)
	}
}

func wantSplit(t *testing.T, s string, wantDaemon int, wantName string, want bool) {
	t.Helper()
	daemon, name, ok := impl.SplitPrivate(s)
	if daemon != wantDaemon || name != wantName || ok != want {
		t.Errorf("SplitPrivate(%.60q): %d, %.60q, %t; want %d, %.60q, %t", s, daemon, name, ok, wantDaemon, wantName, want)
	}
}

func wantSorted(t *testing.T, list, want []string) {
	t.Helper()
	if got := impl.SortNames(list); !slices.Equal(got, want) {
		t.Errorf("SortNames(%.120q): %.120q; want %.120q", list, got, want)
	}
}

// namesToTry have every length, every letter ahead and behind, and every figure at every other place.
func namesToTry() []string {
	list := []string{"ann", "a1", "a0b9", "z9", "abcdefghijkl", "zyxwvutsrqpo", "a00000000000", "a99999999999"}
	for letter := 'a'; letter <= 'z'; letter++ {
		for size := 1; size <= impl.MaxName; size++ {
			list = append(list, strings.Repeat(string(letter), size))
		}
		list = append(list, string(letter)+"0", "a"+string(letter), "z123"+string(letter))
	}
	for size := 2; size <= impl.MaxName; size++ {
		for place := 1; place < size; place++ {
			name := []byte(strings.Repeat("m", size))
			name[place] = byte('0' + place%10)
			list = append(list, string(name))
		}
	}
	return list
}

// noNames are texts of every kind that is refused.
func noNames() []string {
	return []string{
		"",
		"0", "1", "9", "1a", "0abc", "9z", "12", // a figure first
		"A", "Z", "Ann", "aNn", "anN", "ANN",
		" ", "a ", " a", "a b", "\ta", "a\n",
		"#", "#a", "a#", "a#b", "#1#a", "#1#",
		"`", "{", "/", ":", "a`", "a{", "a/", "a:", "-", "a-b", "a_b", "a.b", "-a", "+1", "\x00", "a\x00", "\x7f", // beside the letters and figures
		"ä", "aä", "äa", "añb", "é", "€", "a€", "a€b", "😀", "a😀b", // letters of two bytes and more
		"ａ", "a１", "а", "aа", "a٣", "ª", "aª", "aı", "aſ", "a\u212a", // (look like letters and figures, or are such to others)
		"\x80", "\xff", "\xc3", "\xe1", "a\x80", "a\xff", "\xffa", "ab\xc3cd", "ab\xe2\x82cd", "abc\xf0", "a\xedb", // no rune at all
		"\xe1bc", "a\xe1c", "\ufffd", "a\ufffdb", "\xc1\xa1", "a\xc1\xa1", "\xe0\x81\xa1", // (a letter in a form that is too long)
		"abcdefghijklm", "a000000000000", strings.Repeat("a", 13), strings.Repeat("a", 24), strings.Repeat("a", 268), strings.Repeat("a", impl.MaxText+1),
		"aaaaaaaaaaaä", "äaaaaaaaaaa", "aaaaaaaaaaa ", "aaaaaaaaaaa#", // (of MaxName bytes or so, and wrong)
	}
}

// listsToTry are lists of texts of all kinds, not of names alone.
func listsToTry() [][]string {
	names := namesToTry()
	ascending := slices.Compact(slices.Sorted(slices.Values(names)))
	descending := slices.Clone(ascending)
	slices.Reverse(descending)
	return [][]string{
		{}, nil, {""}, {"a"}, {"", ""}, {"b", "a"}, {"a", "b"}, {"b", "a", "b"}, {"a", "a", "a", "a"},
		{"ann", "an", "a", "", "anna", "an"}, {"#2#ann", "#1#ann", "#10#ann", "#1#an", "ann"},
		{"B", "a", "A", "b", "1", " ", "#"}, {"\xff", "z", "\x80", "ä", "a", "\x00", "é", "\xc3", "", "€"},
		{"9", "10", "1", "010", "09"}, {longText(impl.MaxText + 1), longText(impl.MaxText), longText(impl.MaxText + 1), "\x00"},
		names, noNames(), append(noNames(), noNames()...), append(names, names...), ascending, descending, textsToTry(),
	}
}

func TestNameLimit(t *testing.T) {
	if impl.MaxName != 12 {
		t.Error("MaxName is not the document's")
	}
}

func TestNameOkTakes(t *testing.T) {
	for _, s := range namesToTry() {
		wantName(t, s, true)
	}
}

func TestNameOkRefuses(t *testing.T) {
	for _, s := range noNames() {
		wantName(t, s, false)
	}
}

// A letter may stand anywhere, a figure anywhere but first, and no other byte at all.
func TestNameOkOfEveryByte(t *testing.T) {
	for b := range 256 {
		letter := strings.IndexByte("abcdefghijklmnopqrstuvwxyz", byte(b)) >= 0
		figure := strings.IndexByte("0123456789", byte(b)) >= 0
		wantName(t, string([]byte{byte(b)}), letter)
		for _, whole := range []string{"ab", "a1z", "q2345678901z"} {
			for place := range len(whole) {
				s := []byte(whole)
				s[place] = byte(b)
				wantName(t, string(s), letter || figure && place > 0)
			}
		}
	}
}

func TestPrivateNameIsSplitAgain(t *testing.T) {
	for daemon := 1; daemon <= 9; daemon++ {
		for _, name := range namesToTry() {
			want := "#" + string([]byte{byte('0' + daemon)}) + "#" + name
			wantPrivate(t, daemon, name, want)
			wantSplit(t, want, daemon, name, true)
		}
	}
	wantPrivate(t, 2, "ann", "#2#ann")
	wantPrivate(t, 9, "a", "#9#a")
	wantSplit(t, "#1#z", 1, "z", true)
	wantSplit(t, "#9#a23456789012", 9, "a23456789012", true)
}

func TestPrivateNameRefuses(t *testing.T) {
	for _, daemon := range []int{0, 10, -1, -2, -9, 11, 19, 48, 49, 57, 99, 255, 256, 257, 265, 1<<32 + 1, 1<<32 + 9, math.MinInt, math.MinInt + 1, math.MaxInt} {
		for _, name := range []string{"a", "ann", "abcdefghijkl", "", "1a"} {
			wantPrivate(t, daemon, name, "")
		}
	}
	for daemon := 1; daemon <= 9; daemon++ {
		for _, s := range noNames() {
			wantPrivate(t, daemon, s, "")
		}
	}
}

func TestSplitPrivateRefuses(t *testing.T) {
	for _, s := range []string{
		"", "a", "ann", "1ann", "2", "1", // no mark
		"#", "#a", "#ann", "#1", "#1ann", "1#ann", "ann#", "2#", // one
		"#1#a#", "#1#ann#b", "##1#ann", "#1##ann", "#1#ann#1", "#1#2#ann", "###", "##", "##ann", "#1##", // a third one, or nothing between
		"#0#ann", "#10#ann", "#11#ann", "#12#a", "#99#ann", "#100#ann", "#1000000000#a", "#1000000001#a", // other daemons
		"#01#ann", "#00#ann", "#09#ann", "#001#a", "#10#a", // a 0 ahead
		"#+1#ann", "#-1#ann", "#-0#ann", "#+#ann", "#-#ann", // a sign ahead
		"#a#ann", "# 1#ann", "#1 #ann", "#1.#ann", "#/#a", "#:#a", "#x1#a", "#0x1#a", "#1e0#a", "#1_#a", "#١#a", "#１#a", "#²#a", "#\x01#a",
		"#1#", "#9#", // no name
		" #1#ann", "#1#ann ", "a#1#ann", "1#1#ann", "#1# ann", "\x00#1#ann", "#1#ann\x00", "\xff#1#ann",
		"＃1＃ann", "1#ann", "1##ann", "#18446744073709551617#a", "#4294967297#a", "#257#a",
	} {
		wantSplit(t, s, 0, "", false)
	}
	for daemon := 0; daemon <= 10; daemon++ {
		for _, s := range noNames() {
			wantSplit(t, fmt.Sprintf("#%d#%s", daemon, s), 0, "", false)
		}
	}
}

func TestSplitPrivateOfEveryByte(t *testing.T) {
	for _, whole := range []string{"#1#a", "#9#z9", "#5#q23456789012"} {
		for place := range len(whole) {
			for b := range 256 {
				s := []byte(whole)
				s[place] = byte(b)
				right := s[0] == '#' && s[1] >= '1' && s[1] <= '9' && s[2] == '#' && impl.NameOk(string(s[3:]))
				if right {
					wantSplit(t, string(s), int(s[1]-'0'), string(s[3:]), true)
				} else {
					wantSplit(t, string(s), 0, "", false)
				}
			}
		}
		for cut := range len("#1#a") {
			wantSplit(t, whole[:cut], 0, "", false)
		}
	}
}

func TestSortNamesKnown(t *testing.T) {
	for _, c := range []struct{ list, want []string }{
		{nil, nil}, {[]string{}, nil}, {[]string{""}, []string{""}}, {[]string{"a"}, []string{"a"}},
		{[]string{"b", "a", "b"}, []string{"a", "b"}}, {[]string{"a", "b"}, []string{"a", "b"}},
		{[]string{"", "", ""}, []string{""}}, {[]string{"a", "a", "a", "a"}, []string{"a"}},
		{[]string{"c", "b", "a"}, []string{"a", "b", "c"}}, {[]string{"a", "", "a"}, []string{"", "a"}},
		{[]string{"ann", "an", "a", "", "anna", "an"}, []string{"", "a", "an", "ann", "anna"}},
		{[]string{"9", "10", "1", "010", "09"}, []string{"010", "09", "1", "10", "9"}},
		{[]string{"b", "A", "a", "B", "1", " ", "#"}, []string{" ", "#", "1", "A", "B", "a", "b"}},
		{[]string{"\xff", "z", "\x80", "ä", "zz", "\x00", "\xc3", "€"}, []string{"\x00", "z", "zz", "\x80", "\xc3", "ä", "€", "\xff"}},
		{[]string{"\xff", "\xfe", "\ufffd", "\xff"}, []string{"\ufffd", "\xfe", "\xff"}},
		{[]string{"\U0001f600", "\ue000", "\uffff"}, []string{"\ue000", "\uffff", "\U0001f600"}},
	} {
		wantSorted(t, c.list, c.want)
	}
}

func TestSortNamesAscends(t *testing.T) {
	for _, list := range listsToTry() {
		got := impl.SortNames(list)
		for i := 1; i < len(got); i++ {
			if got[i-1] >= got[i] {
				t.Errorf("SortNames: %.60q stands ahead of %.60q", got[i-1], got[i])
			}
		}
		for _, s := range list {
			if !slices.Contains(got, s) {
				t.Errorf("SortNames: %.60q is lost", s)
			}
		}
		for _, s := range got {
			if !slices.Contains(list, s) {
				t.Errorf("SortNames: %.60q was not in the list", s)
			}
		}
		wantSorted(t, got, got)
		backwards := slices.Clone(list)
		slices.Reverse(backwards)
		wantSorted(t, backwards, got)
	}
}

// A map goes another way each time: an answer that hung on it would not be the same again.
func TestSortNamesAnswersAlike(t *testing.T) {
	list := namesToTry()
	first := impl.SortNames(list)
	for range 50 {
		wantSorted(t, list, first)
	}
}

func TestNamesLeaveArgumentsAlone(t *testing.T) {
	for _, s := range slices.Concat(namesToTry(), noNames(), []string{"#1#a", "#9#ann", "#0#ann", "#1#"}) {
		a := newArgument(s)
		impl.NameOk(a.text)
		private := impl.PrivateName(3, a.text)
		a.untouched(t, "PrivateName", private)
		_, name, _ := impl.SplitPrivate(a.text)
		a.untouched(t, "SplitPrivate", name)

		b := newArgument(private)
		_, name, _ = impl.SplitPrivate(b.text)
		b.untouched(t, "SplitPrivate", name)
	}
}

func TestSortNamesLeavesItsListAlone(t *testing.T) {
	for _, list := range listsToTry() {
		var texts []argument
		whole := []string{"spare ahead"}
		for _, s := range list {
			texts = append(texts, newArgument(s))
			whole = append(whole, texts[len(texts)-1].text)
		}
		whole = append(whole, "spare behind", "and more", "zzz")
		before := slices.Clone(whole)
		got := impl.SortNames(whole[1 : 1+len(list)])
		want := slices.Clone(got)
		for _, a := range texts {
			a.untouched(t, "SortNames", got...)
		}
		if !slices.Equal(whole, before) {
			t.Errorf("SortNames(%.120q): wrote into its list", list)
		}
		for i := range whole {
			whole[i] = "other"
		}
		if !slices.Equal(got, want) {
			t.Errorf("SortNames(%.120q): the answer shares memory with the list", list)
		}
	}
}
