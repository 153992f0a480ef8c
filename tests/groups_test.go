package tests

import (
	"cmp"
	"fmt"
	"math"
	"reflect"
	"slices"
	"strings"
	"testing"

	"loop.example/g00183/impl"
)

func nameByHand(s string) bool {
	for i := range len(s) {
		letter := strings.IndexByte("abcdefghijklmnopqrstuvwxyz", s[i]) >= 0
		figure := strings.IndexByte("0123456789", s[i]) >= 0
		if !letter && (i == 0 || !figure) {
			return false
		}
	}
	return len(s) >= 1 && len(s) <= 12
}

// daemonByHand is 0 of what is no PrivateName.
func daemonByHand(s string) int {
	for daemon := 1; daemon <= 9; daemon++ {
		if name, found := strings.CutPrefix(s, "#"+string([]byte{byte('0' + daemon)})+"#"); found && nameByHand(name) {
			return daemon
		}
	}
	return 0
}

func ascendsByHand(list []string) bool {
	for i := range list {
		for _, ahead := range list[:i] {
			if ahead >= list[i] {
				return false
			}
		}
	}
	return true
}

func wordRightByHand(w impl.Word) bool {
	counts := map[int][]int{1: {1}, 2: {1}, 3: {0}, 4: {1, 2, 3}}[w.Kind]
	if !slices.Contains(counts, len(w.Groups)) || !ascendsByHand(w.Groups) || daemonByHand(w.Who) == 0 {
		return false
	}
	for _, group := range w.Groups {
		if !nameByHand(group) {
			return false
		}
	}
	if w.Kind == 4 {
		return len(w.Text) <= 20
	}
	return len(w.Text) == 0
}

func shortByHand(s string) string { return varByHand(len(s)) + s }

// piecesOfWord writes a word whether it is right or not; each number of VarText is a piece of its own.
func piecesOfWord(w impl.Word) []string {
	pieces := []string{string([]byte{byte(w.Kind)}), varByHand(len(w.Who)), w.Who, varByHand(len(w.Groups))}
	for _, group := range w.Groups {
		pieces = append(pieces, varByHand(len(group)), group)
	}
	return append(pieces, varByHand(len(w.Text)), w.Text)
}

func wordByHand(w impl.Word) string { return strings.Join(piecesOfWord(w), "") }

// readWordByHand leans on this: in a right word every number has one byte, so there is one word alone to be tried.
func readWordByHand(text string) (impl.Word, bool) {
	var parts []string
	rest := text
	take := func() string {
		if rest == "" || int(rest[0]) > len(rest)-1 {
			return "?"
		}
		s := rest[1 : 1+int(rest[0])]
		rest = rest[1+int(rest[0]):]
		return s
	}
	if len(text) < 2 {
		return impl.Word{}, false
	}
	rest = text[1:]
	w := impl.Word{Kind: int(text[0]), Who: take()}
	if rest == "" {
		return impl.Word{}, false
	}
	count := int(rest[0])
	for rest = rest[1:]; len(parts) < count; {
		parts = append(parts, take())
	}
	w.Groups, w.Text = parts, take()
	if !wordRightByHand(w) || wordByHand(w) != text {
		return impl.Word{}, false
	}
	return w, true
}

func tableRightByHand(t impl.Table) bool {
	var names []string
	for _, g := range t.Groups {
		if len(g.Members) < 1 || len(g.Members) > 8 || !ascendsByHand(g.Members) || !nameByHand(g.Name) {
			return false
		}
		for _, who := range g.Members {
			if daemonByHand(who) == 0 {
				return false
			}
		}
		names = append(names, g.Name)
	}
	return len(names) <= 6 && ascendsByHand(names)
}

func membersByHand(t impl.Table, group string) []string {
	place := slices.IndexFunc(t.Groups, func(g impl.Group) bool { return g.Name == group })
	if place < 0 {
		return nil
	}
	return t.Groups[place].Members
}

// belonging is one member of one group: a right table is a set of these, and nothing else.
type belonging struct{ group, who string }

func belongingsOf(t impl.Table) []belonging {
	var list []belonging
	for _, g := range t.Groups {
		for _, who := range g.Members {
			list = append(list, belonging{g.Name, who})
		}
	}
	return list
}

func tableOfBelongings(list []belonging) impl.Table {
	ascending := slices.Clone(list)
	slices.SortFunc(ascending, func(a, b belonging) int {
		return cmp.Or(strings.Compare(a.group, b.group), strings.Compare(a.who, b.who))
	})
	var t impl.Table
	for _, b := range slices.Compact(ascending) {
		last := len(t.Groups) - 1
		if last < 0 || t.Groups[last].Name != b.group {
			t.Groups = append(t.Groups, impl.Group{Name: b.group, Members: []string{b.who}})
			continue
		}
		t.Groups[last].Members = append(t.Groups[last].Members, b.who)
	}
	return t
}

func whoOf(list []belonging, holds func(b belonging) bool) []string {
	var whos []string
	for _, b := range list {
		if holds(b) {
			whos = append(whos, b.who)
		}
	}
	return whos
}

func foldByHand(t impl.Table, w impl.Word) (impl.Table, []string, bool) {
	if !tableRightByHand(t) || !wordRightByHand(w) {
		return t, nil, false
	}
	before := belongingsOf(t)
	behind := slices.Clone(before)
	var hearers []string
	switch w.Kind {
	case 1:
		if slices.Contains(before, belonging{w.Groups[0], w.Who}) {
			return t, nil, false
		}
		behind = append(behind, belonging{w.Groups[0], w.Who})
		hearers = whoOf(behind, func(b belonging) bool { return b.group == w.Groups[0] })
	case 2:
		if !slices.Contains(before, belonging{w.Groups[0], w.Who}) {
			return t, nil, false
		}
		behind = slices.DeleteFunc(behind, func(b belonging) bool { return b == belonging{w.Groups[0], w.Who} })
		hearers = append(whoOf(behind, func(b belonging) bool { return b.group == w.Groups[0] }), w.Who)
	case 3:
		behind = slices.DeleteFunc(behind, func(b belonging) bool { return b.who == w.Who })
		hearers = whoOf(before, func(b belonging) bool { return slices.Contains(before, belonging{b.group, w.Who}) })
	case 4:
		hearers = whoOf(before, func(b belonging) bool { return slices.Contains(w.Groups, b.group) && b.who != w.Who })
	}
	next := tableOfBelongings(behind)
	if !tableRightByHand(next) {
		return t, nil, false
	}
	slices.Sort(hearers)
	return next, slices.Compact(hearers), true
}

func foldAllByHand(t impl.Table, list []impl.Word) impl.Table {
	for _, w := range list {
		t, _, _ = foldByHand(t, w)
	}
	return t
}

func keepByHand(t impl.Table, daemons []int) impl.Table {
	var own impl.Table
	for _, g := range t.Groups {
		members := slices.DeleteFunc(slices.Clone(g.Members), func(who string) bool {
			return daemonByHand(who) == 0 || !slices.Contains(daemons, daemonByHand(who))
		})
		if len(members) > 0 {
			own.Groups = append(own.Groups, impl.Group{Name: g.Name, Members: members})
		}
	}
	return own
}

func mergeByHand(a, b impl.Table) impl.Table {
	both := tableOfBelongings(append(belongingsOf(a), belongingsOf(b)...))
	if !tableRightByHand(a) || !tableRightByHand(b) || !tableRightByHand(both) {
		return a
	}
	return both
}

func sameWord(a, b impl.Word) bool {
	return a.Kind == b.Kind && a.Who == b.Who && slices.Equal(a.Groups, b.Groups) && a.Text == b.Text
}

func sameTable(a, b impl.Table) bool {
	return slices.EqualFunc(a.Groups, b.Groups, func(g, h impl.Group) bool {
		return g.Name == h.Name && slices.Equal(g.Members, h.Members)
	})
}

func shownWord(w impl.Word) string {
	return fmt.Sprintf("{%d %.40q %.120q %.60q}", w.Kind, w.Who, w.Groups, w.Text)
}

func shownTable(t impl.Table) string {
	var told []string
	for _, g := range t.Groups[:min(len(t.Groups), 9)] {
		told = append(told, fmt.Sprintf("%.30q: %.30q", g.Name, g.Members[:min(len(g.Members), 11)]))
	}
	return fmt.Sprintf("%d of [%s]", len(t.Groups), strings.Join(told, "; "))
}

func wantWordOk(t *testing.T, w impl.Word, want bool) {
	t.Helper()
	if got := impl.WordOk(w); got != want {
		t.Errorf("WordOk(%s): %t; want %t", shownWord(w), got, want)
	}
}

func wantWordText(t *testing.T, w impl.Word, want string, wantOk bool) {
	t.Helper()
	got, ok := impl.WordText(w)
	wantText(t, fmt.Sprintf("WordText(%s)", shownWord(w)), got, ok, want, wantOk)
}

func wantWord(t *testing.T, call, text string, want impl.Word, wantOk bool) {
	t.Helper()
	got, ok := impl.ReadWord(text)
	if !sameWord(got, want) || ok != wantOk {
		t.Errorf("ReadWord of %s, %.80q: %s, %t; want %s, %t", call, text, shownWord(got), ok, shownWord(want), wantOk)
	}
}

func wantNoWord(t *testing.T, call, text string) {
	t.Helper()
	wantWord(t, call, text, impl.Word{}, false)
}

// wantWordAsByHand tells whether it was a word, so that who asks can see to it that there were some.
func wantWordAsByHand(t *testing.T, call, text string) bool {
	t.Helper()
	want, ok := readWordByHand(text)
	wantWord(t, call, text, want, ok)
	return ok
}

// wantWordComesBack is the first part of promise 17, of one word.
func wantWordComesBack(t *testing.T, w impl.Word) {
	t.Helper()
	text := wordByHand(w)
	wantWordOk(t, w, true)
	wantWordText(t, w, text, true)
	wantWord(t, "a right word", text, w, true)
	if !wantWordAsByHand(t, "a right word", text) {
		t.Errorf("the word %s is not read by hand", shownWord(w))
	}
}

func wantTableOk(t *testing.T, x impl.Table, want bool) {
	t.Helper()
	if got := impl.TableOk(x); got != want {
		t.Errorf("TableOk(%s): %t; want %t", shownTable(x), got, want)
	}
}

func wantMembers(t *testing.T, x impl.Table, group string, want ...string) {
	t.Helper()
	if got := impl.MembersOf(x, group); !slices.Equal(got, want) {
		t.Errorf("MembersOf(%s, %.30q): %.200q; want %.200q", shownTable(x), group, got, want)
	}
}

// wantFold asks of whatever table and whatever Who it comes to that a WordGone is heard, too.
func wantFold(t *testing.T, x impl.Table, w impl.Word, want impl.Table, wantOk bool, wantHearers ...string) impl.Table {
	t.Helper()
	got, hearers, ok := impl.Fold(x, w)
	if !sameTable(got, want) || !slices.Equal(hearers, wantHearers) || ok != wantOk {
		t.Errorf("Fold(%s, %s): %s, %q, %t; want %s, %q, %t", shownTable(x), shownWord(w), shownTable(got), hearers, ok, shownTable(want), wantHearers, wantOk)
	}
	wantGoneHeard(t, x, w.Who)
	return got
}

// whoShares are the Members of all groups that who is in, and the table that is left without who; in no other way than group by group.
func whoShares(x impl.Table, who string) ([]string, impl.Table) {
	var shares []string
	var left impl.Table
	for _, g := range x.Groups {
		place := slices.Index(g.Members, who)
		if place < 0 {
			left.Groups = append(left.Groups, g)
			continue
		}
		shares = append(shares, g.Members...)
		if len(g.Members) > 1 {
			left.Groups = append(left.Groups, groupOf(g.Name, without(g.Members, place)...))
		}
	}
	slices.Sort(shares)
	return slices.Compact(shares), left
}

// wantGoneHeard: those who share a group with who is gone are to hear of it, and itself just when it is in one.
func wantGoneHeard(t *testing.T, x impl.Table, who string) {
	t.Helper()
	w := goneWord(who)
	next, hearers, ok := impl.Fold(x, w)
	all := impl.FoldAll(x, []impl.Word{w})
	right := tableRightByHand(x) && wordRightByHand(w)
	shares, left := []string{}, x
	if right {
		shares, left = whoShares(x, who)
	}
	if !slices.Equal(hearers, shares) || ok != right {
		t.Errorf("of %.40q, gone from %s, are to hear: %q, %t; want %q, %t", who, shownTable(x), hearers, ok, shares, right)
	}
	in := right && slices.ContainsFunc(x.Groups, func(g impl.Group) bool { return slices.Contains(g.Members, who) })
	if slices.Contains(hearers, who) != in || !ascendsByHand(hearers) {
		t.Errorf("of %.40q, gone from %s, are to hear: %q; itself among them just when it is in a group", who, shownTable(x), hearers)
	}
	if !sameTable(next, left) || !sameTable(all, left) {
		t.Errorf("%.40q gone from %s: Fold %s, FoldAll %s; want %s", who, shownTable(x), shownTable(next), shownTable(all), shownTable(left))
	}
}

func wantFoldAsByHand(t *testing.T, x impl.Table, w impl.Word) (impl.Table, bool) {
	t.Helper()
	want, hearers, ok := foldByHand(x, w)
	return wantFold(t, x, w, want, ok, hearers...), ok
}

func wantNotFolded(t *testing.T, x impl.Table, w impl.Word) {
	t.Helper()
	wantFold(t, x, w, x, false)
	wantFoldAsByHand(t, x, w)
}

func wantFoldAll(t *testing.T, x impl.Table, list []impl.Word, want impl.Table) {
	t.Helper()
	if got := impl.FoldAll(x, list); !sameTable(got, want) {
		t.Errorf("FoldAll(%s, %d words): %s; want %s", shownTable(x), len(list), shownTable(got), shownTable(want))
	}
}

func wantKeep(t *testing.T, x impl.Table, daemons []int, want impl.Table) {
	t.Helper()
	if got := impl.Keep(x, daemons); !sameTable(got, want) {
		t.Errorf("Keep(%s, %.60s): %s; want %s", shownTable(x), fmt.Sprint(daemons), shownTable(got), shownTable(want))
	}
}

func wantMerge(t *testing.T, a, b, want impl.Table) {
	t.Helper()
	if got := impl.Merge(a, b); !sameTable(got, want) {
		t.Errorf("Merge(%s, %s): %s; want %s", shownTable(a), shownTable(b), shownTable(got), shownTable(want))
	}
}

func joinWord(who, group string) impl.Word {
	return impl.Word{Kind: 1, Who: who, Groups: []string{group}}
}

func leaveWord(who, group string) impl.Word {
	return impl.Word{Kind: 2, Who: who, Groups: []string{group}}
}

func goneWord(who string) impl.Word { return impl.Word{Kind: 3, Who: who} }

func sayWord(who, text string, groups ...string) impl.Word {
	return impl.Word{Kind: 4, Who: who, Groups: groups, Text: text}
}

func groupOf(name string, members ...string) impl.Group {
	return impl.Group{Name: name, Members: members}
}

func tableOf(groups ...impl.Group) impl.Table { return impl.Table{Groups: groups} }

// people are so many PrivateNames, ascending; they are of the daemons 1, 2 and 3.
func people(count int) []string {
	var list []string
	for i := range count {
		list = append(list, fmt.Sprintf("#%d#%c", 1+i*3/max(count, 3), 'a'+i))
	}
	return list
}

// fullTable has as many groups as there may be, with as many members.
func fullTable() impl.Table {
	var x impl.Table
	for _, name := range []string{"b", "d", "f", "h", "j", "l"} {
		x.Groups = append(x.Groups, groupOf(name, people(8)...))
	}
	return x
}

func rightWhos() []string {
	return []string{"#1#a", "#1#ann", "#2#b", "#5#z0", "#6#a", "#9#a", "#9#abcdefghijkl", "#4#a00000000000"}
}

func wrongWhos() []string {
	list := []string{
		"", "a", "ann", "#", "##", "###", "#1", "#1#", "#0#a", "#10#a", "#01#a", "#-1#a", "#a#a", "#1#1", "#1#A", "#1#a#", "#1##a", "1#a", "#1a", "##a",
		" #1#a", "#1#a ", "#1# a", "#1#ä", "#1#\xff", "\xff", "#1#a\x00", "#1#abcdefghijklm", "#1#" + strings.Repeat("a", 300), longText(300),
	}
	for _, s := range noNames() {
		list = append(list, "#3#"+s)
	}
	return list
}

func rightGroups() [][]string {
	return [][]string{
		nil, {}, {"a"}, {"z9"}, {"abcdefghijkl"}, {"a", "b"}, {"a", "ab"}, {"a", "a0"}, {"a0", "aa"}, {"abcdefghijkl", "b"}, {"a", "abcdefghijkl"},
		{"a", "b", "c"}, {"a", "ab", "abc"}, {"abcdefghijka", "abcdefghijkb", "abcdefghijkc"}, {"a", "b", "c", "d"},
	}
}

func wrongGroups() [][]string {
	list := [][]string{
		{"a", "a"}, {"b", "a"}, {"ab", "a"}, {"aa", "a0"}, {"a", "a", "b"}, {"a", "b", "b"}, {"a", "b", "a"}, {"a", "c", "b"}, {"b", "a", "c"}, {"c", "b", "a"}, {"a", "a", "a"},
		{"abcdefghijklm"}, {"a", "abcdefghijklm"}, {"abcdefghijklm", "b"}, {"a", "abcdefghijklm", "b"}, {""}, {"", "a"}, {"a", ""}, {"", ""}, {"", "a", "b"}, {"a", "b", ""},
		{"A", "b"}, {"a", "{"}, {"1", "a"}, {"a", "b", "\xff"}, {"#1#a"}, {"#1#a", "a"}, {"a b"}, {longText(300)},
		strings.Split(strings.Repeat("a", 300), ""), make([]string, 200),
	}
	for _, s := range noNames() {
		list = append(list, []string{s})
	}
	return list
}

// wordTexts are of 20 bytes at most.
func wordTexts() []string {
	list := []string{"a", "\x00", "\xff", "grüße", "\x80\x80", strings.Repeat("\xff", 20), strings.Repeat("ä", 10), strings.Repeat("\x00", 20), "#1#a", "\x01\x04#1#a\x01\x01g\x00"}
	for size := range 21 {
		list = append(list, longText(size))
	}
	return list
}

func longWordTexts() []string {
	return []string{longText(21), strings.Repeat("\xff", 21), strings.Repeat("ä", 10) + "a", strings.Repeat("ä", 11), longText(22), longText(148), longText(276), longText(300), longText(impl.MaxText + 1)}
}

func rightWords() []impl.Word {
	var list []impl.Word
	for _, who := range rightWhos() {
		list = append(list, goneWord(who))
		for _, groups := range rightGroups() {
			if len(groups) == 1 {
				list = append(list, joinWord(who, groups[0]), leaveWord(who, groups[0]))
			}
			if len(groups) < 1 || len(groups) > 3 {
				continue
			}
			for _, text := range wordTexts() {
				list = append(list, sayWord(who, text, groups...))
			}
		}
	}
	return list
}

// wrongWords are right but for one thing each.
func wrongWords() []impl.Word {
	right := []impl.Word{joinWord("#1#a", "g"), leaveWord("#1#a", "g"), goneWord("#1#a"), sayWord("#1#a", "", "g"), sayWord("#1#a", "hi", "g"), sayWord("#1#a", longText(20), "g", "h", "i")}
	list := []impl.Word{{}}
	for _, w := range right {
		for _, who := range wrongWhos() {
			list = append(list, impl.Word{Kind: w.Kind, Who: who, Groups: w.Groups, Text: w.Text})
		}
		for _, kind := range append(numbersBeside(), 5, 6) {
			list = append(list, impl.Word{Kind: kind, Who: w.Who, Groups: w.Groups, Text: w.Text})
		}
		for _, groups := range slices.Concat(rightGroups(), wrongGroups()) {
			if other := (impl.Word{Kind: w.Kind, Who: w.Who, Groups: groups, Text: w.Text}); !wordRightByHand(other) {
				list = append(list, other)
			}
		}
		for _, text := range slices.Concat(wordTexts(), longWordTexts()) {
			if w.Kind != 4 && text != "" || len(text) > 20 {
				list = append(list, impl.Word{Kind: w.Kind, Who: w.Who, Groups: w.Groups, Text: text})
			}
		}
	}
	return list
}

func TestGroupConstants(t *testing.T) {
	if impl.MaxGroups != 6 || impl.WordJoin != 1 || impl.WordLeave != 2 || impl.WordGone != 3 || impl.WordSay != 4 {
		t.Error("the constants of groups are not the document's")
	}
}

func TestWordOkKinds(t *testing.T) {
	for kind := 1; kind <= 4; kind++ {
		for count, groups := range [][]string{{}, {"a"}, {"a", "b"}, {"a", "b", "c"}, {"a", "b", "c", "d"}} {
			want := kind < 3 && count == 1 || kind == 3 && count == 0 || kind == 4 && count >= 1 && count <= 3
			wantWordOk(t, impl.Word{Kind: kind, Who: "#1#a", Groups: groups}, want)
			wantWordOk(t, impl.Word{Kind: kind, Who: "#1#a", Groups: groups, Text: "a"}, want && kind == 4)
			wantWordOk(t, impl.Word{Kind: kind, Who: "#1#a", Groups: groups, Text: longText(20)}, want && kind == 4)
			wantWordOk(t, impl.Word{Kind: kind, Who: "#1#a", Groups: groups, Text: longText(21)}, false)
		}
	}
	for _, kind := range append(numbersBeside(), 5, 6, 7) {
		for _, groups := range [][]string{nil, {"a"}, {"a", "b"}, {"a", "b", "c"}} {
			wantWordOk(t, impl.Word{Kind: kind, Who: "#1#a", Groups: groups}, false)
			wantWordOk(t, impl.Word{Kind: kind, Who: "#1#a", Groups: groups, Text: "a"}, false)
		}
	}
}

func TestWordOkFields(t *testing.T) {
	for _, w := range rightWords() {
		wantWordOk(t, w, true)
	}
	for _, w := range wrongWords() {
		wantWordOk(t, w, false)
	}
	for _, who := range rightWhos() {
		for _, w := range []impl.Word{joinWord(who, "g"), leaveWord(who, "g"), goneWord(who), sayWord(who, "hi", "g", "h")} {
			wantWordOk(t, w, true)
		}
	}
	for _, text := range longWordTexts() {
		wantWordOk(t, sayWord("#1#a", text, "g"), false)
	}
}

func TestWordOkAround(t *testing.T) {
	kinds := append(numbersBeside(), 1, 2, 3, 4, 5)
	whos := append([]string{"#1#a", "#9#abcdefghijkl"}, wrongWhos()[:30]...)
	texts := []string{"", "a", "\xff", longText(19), longText(20), longText(21), longText(300)}
	right := 0
	for _, kind := range kinds {
		for _, who := range whos {
			for _, groups := range slices.Concat(rightGroups(), wrongGroups()[:29]) {
				for _, text := range texts {
					w := impl.Word{Kind: kind, Who: who, Groups: groups, Text: text}
					wantWordOk(t, w, wordRightByHand(w))
					if wordRightByHand(w) {
						right++
					}
				}
			}
		}
	}
	// Of two names: three lists of one group and each of two kinds, two empty lists of one kind, twelve lists and five texts of another one.
	if want := 2 * (3*2 + 2 + 12*5); right != want {
		t.Errorf("%d words of these are right; want %d", right, want)
	}
}

// Written out as bytes, so that the reckoning the other tests lean on is itself held to something.
func TestWordTextKnown(t *testing.T) {
	twenty := "\xff\x00z" + strings.Repeat("y", 17)
	for _, c := range []struct {
		word impl.Word
		want string
	}{
		{joinWord("#1#ann", "g"), "\x01\x06#1#ann\x01\x01g\x00"},
		{leaveWord("#2#b", "abcdefghijkl"), "\x02\x04#2#b\x01\x0cabcdefghijkl\x00"},
		{goneWord("#9#abcdefghijkl"), "\x03\x0f#9#abcdefghijkl\x00\x00"},
		{sayWord("#3#c", "", "g"), "\x04\x04#3#c\x01\x01g\x00"},
		{sayWord("#3#c", "hi", "g", "h1"), "\x04\x04#3#c\x02\x01g\x02h1\x02hi"},
		{sayWord("#3#c", twenty, "a", "b", "c"), "\x04\x04#3#c\x03\x01a\x01b\x01c\x14" + twenty},
	} {
		wantWordText(t, c.word, c.want, true)
		wantWord(t, "known bytes", c.want, c.word, true)
		wantWordAsByHand(t, "known bytes", c.want)
	}
}

func TestWordsComeBack(t *testing.T) {
	for _, w := range rightWords() {
		wantWordComesBack(t, w)
	}
	for _, name := range namesToTry() {
		wantWordComesBack(t, joinWord("#1#"+name, name))
		wantWordComesBack(t, leaveWord("#9#a", name))
		wantWordComesBack(t, goneWord("#5#"+name))
		wantWordComesBack(t, sayWord("#3#"+name, name, name))
	}
	for daemon := 1; daemon <= 9; daemon++ {
		wantWordComesBack(t, goneWord(fmt.Sprintf("#%d#a", daemon)))
	}
}

func drawnName(l *lot) string {
	name := []byte{byte('a' + l.below(26))}
	for range l.below(12) {
		name = append(name, "abcdefghijklmnopqrstuvwxyz0123456789"[l.below(36)])
	}
	return string(name)
}

func drawnNames(l *lot, count int) []string {
	var names []string
	for len(names) < count {
		if name := drawnName(l); !slices.Contains(names, name) {
			names = append(names, name)
		}
	}
	slices.Sort(names)
	return names
}

func drawnBytes(l *lot, size int) string {
	text := make([]byte, size)
	for i := range text {
		text[i] = byte(l.below(256))
	}
	return string(text)
}

func anyWord(l *lot) impl.Word {
	w := impl.Word{Kind: 1 + l.below(4), Who: fmt.Sprintf("#%d#%s", 1+l.below(9), drawnName(l))}
	switch w.Kind {
	case 1, 2:
		w.Groups = drawnNames(l, 1)
	case 4:
		w.Groups, w.Text = drawnNames(l, 1+l.below(3)), drawnBytes(l, l.below(21))
	}
	return w
}

// spoiltWord has one field changed; it may be right all the same.
func spoiltWord(l *lot, w impl.Word) impl.Word {
	w.Groups = slices.Clone(w.Groups)
	whos, groups := slices.Concat(wrongWhos(), rightWhos()), slices.Concat(wrongGroups()[:29], rightGroups())
	switch l.below(6) {
	case 0:
		w.Kind = l.below(7) - 1
	case 1:
		w.Who = whos[l.below(len(whos))]
	case 2:
		w.Groups = groups[l.below(len(groups))]
	case 3:
		w.Text = drawnBytes(l, 1+l.below(30))
	case 4:
		slices.Reverse(w.Groups)
	case 5:
		w.Groups = append(w.Groups, w.Groups...)
	}
	return w
}

func TestDrawnWordsComeBack(t *testing.T) {
	l, seen := &lot{17}, map[string]int{}
	for range 6000 {
		w := anyWord(l)
		wantWordComesBack(t, w)
		other := spoiltWord(l, w)
		right := wordRightByHand(other)
		seen[fmt.Sprintf("kind %d", w.Kind)]++
		seen[fmt.Sprintf("spoilt and right %t", right)]++
		wantWordOk(t, other, right)
		if right {
			wantWordComesBack(t, other)
			continue
		}
		wantWordText(t, other, "", false)
		if other.Kind >= 0 {
			wantNoWord(t, "a spoilt word", wordByHand(other))
		}
	}
	enough(t, seen, 500, "kind 1", "kind 2", "kind 3", "kind 4", "spoilt and right true", "spoilt and right false")
}

func TestWordTextRefuses(t *testing.T) {
	for _, w := range wrongWords() {
		wantWordText(t, w, "", false)
		// A kind that is cut to a byte may be a right one there.
		if w.Kind >= 0 && w.Kind < 256 {
			wantNoWord(t, shownWord(w), wordByHand(w))
		}
	}
}

func fewWords() []impl.Word {
	return []impl.Word{joinWord("#1#ann", "g"), leaveWord("#2#b", "abcdefghijkl"), goneWord("#9#z"), sayWord("#3#c", "", "g"), sayWord("#3#c", "hi", "g", "h1"), sayWord("#9#abcdefghijkl", longText(20), "a", "b", "c")}
}

func TestReadWordCutAndLonger(t *testing.T) {
	for _, w := range fewWords() {
		text := wordByHand(w)
		for cut := range len(text) {
			wantNoWord(t, "a text that is cut", text[:cut])
			wantNoWord(t, "a text whose beginning is cut", text[cut+1:])
			wantWordAsByHand(t, "a text that lacks a byte", text[:cut]+text[cut+1:])
		}
		for b := range 256 {
			wantNoWord(t, "a byte behind", text+string([]byte{byte(b)}))
			wantWordAsByHand(t, "a byte ahead", string([]byte{byte(b)})+text)
		}
		wantNoWord(t, "two words", text+text)
	}
}

func TestReadWordOfTurnedBytes(t *testing.T) {
	words := 0
	for _, w := range fewWords() {
		text := wordByHand(w)
		for place := range len(text) {
			for turn := 1; turn < 256; turn++ {
				if wantWordAsByHand(t, "a turned byte", turned(text, place, turn)) {
					words++
				}
			}
		}
	}
	if words < 1000 {
		t.Errorf("%d turned texts are words: too few to tell", words)
	}
}

func TestReadWordOfLongerNumbers(t *testing.T) {
	for _, w := range fewWords() {
		pieces := piecesOfWord(w)
		numbers := append([]int{1, 3}, len(pieces)-2)
		for place := 4; place < len(pieces)-2; place += 2 {
			numbers = append(numbers, place)
		}
		for _, place := range numbers {
			n := int(pieces[place][0])
			for _, form := range []string{longerVar(n), longerVar(n)[:1] + "\x80\x00", varByHand(n + 128), varByHand(n + 256), varByHand(1<<32 + n), varByHand(n + 1), "", "\xff\xff\xff\xff\x7f", strings.Repeat("\x80", 9) + "\x00"} {
				wantNoWord(t, fmt.Sprintf("%q at piece %d", form, place), strings.Join(putInPlace(pieces, place, form), ""))
			}
		}
	}
}

func TestReadWordOfOtherCounts(t *testing.T) {
	for kind := range 6 {
		for told := range 10 {
			for count := range 8 {
				groups := strings.Split("abcdefgh"[:count], "")
				text := string([]byte{byte(kind)}) + "\x04#1#a" + varByHand(told)
				for _, group := range groups {
					text += shortByHand(group)
				}
				word := wantWordAsByHand(t, fmt.Sprintf("%d groups told of %d", told, count), text+"\x00")
				if want := told == count && wordRightByHand(impl.Word{Kind: kind, Who: "#1#a", Groups: groups}); word != want {
					t.Errorf("a word of kind %d with %d groups told of %d: %t", kind, told, count, word)
				}
			}
		}
	}
	for _, told := range []int{4, 5, 127, 128, 129, 255, 256, 257, 259, impl.MaxText, 999999999, 1000000000, 1000000001, 1<<32 + 1, math.MaxInt} {
		for count := range 5 {
			text := "\x04\x04#1#a" + varByHand(told)
			for _, group := range []string{"a", "b", "c", "d"}[:count] {
				text += shortByHand(group)
			}
			if told != count {
				wantNoWord(t, fmt.Sprintf("%d groups told of %d", told, count), text)
				wantNoWord(t, fmt.Sprintf("%d groups told of %d, and a text", told, count), text+"\x00")
			}
		}
	}
	wantNoWord(t, "a count far above what is there", "\x04\x04#1#a"+varByHand(1000000000)+strings.Repeat("\x00", 3*impl.MaxText))
	wantNoWord(t, "four groups", wordByHand(sayWord("#1#a", "", "a", "b", "c", "d")))
	wantNoWord(t, "as many groups as are told", wordByHand(impl.Word{Kind: 4, Who: "#1#a", Groups: make([]string, 20000)}))
}

func TestReadWordOfStrangeTexts(t *testing.T) {
	for _, text := range slices.Concat(textsToTry(), wordTexts(), longWordTexts(), noNames(), wrongWhos(), rightWhos(), []string{"", "\x01", "\x04\x04#1#a", strings.Repeat("\x00", 40), strings.Repeat("\x01", 40), strings.Repeat("\xff", 40)}) {
		wantWordAsByHand(t, "a strange text", text)
		for kind := range 6 {
			wantWordAsByHand(t, "a strange text behind a kind", string([]byte{byte(kind)})+text)
			wantWordAsByHand(t, "a strange text behind a Who", string([]byte{byte(kind)})+"\x04#1#a"+text)
		}
		wantWordAsByHand(t, "a strange text behind groups", "\x04\x04#1#a\x01\x01g"+text)
	}
	words := 0
	for size := range 6 {
		everyText(size, "\x00\x01\x02\x03\x80ab", func(text string) {
			for _, ahead := range []string{"", "\x01\x04#1#a", "\x02\x04#1#a", "\x03\x04#1#a", "\x04\x04#1#a", "\x04\x04#1#a\x02\x01a"} {
				if wantWordAsByHand(t, "a short text", ahead+text) {
					words++
				}
			}
		})
	}
	if words < 50 {
		t.Errorf("%d short texts are words: too few to tell", words)
	}
}

// wrongTables are right but for one thing each.
func wrongTables() []impl.Table {
	ok := []string{"#1#a", "#2#b"}
	seven := tableOf(append(fullTable().Groups, groupOf("z", ok...))...)
	list := []impl.Table{
		seven, tableOf(append([]impl.Group{groupOf("a", ok...)}, fullTable().Groups...)...), tableOf(make([]impl.Group, 6)...), tableOf(make([]impl.Group, 500)...),
		tableOf(groupOf("a", ok...), groupOf("a", ok...)), tableOf(groupOf("a", "#1#a"), groupOf("a", "#2#b")), tableOf(groupOf("b", ok...), groupOf("a", ok...)),
		tableOf(groupOf("a", ok...), groupOf("c", ok...), groupOf("b", ok...)), tableOf(groupOf("ab", ok...), groupOf("a", ok...)),
		tableOf(groupOf("a", ok...), groupOf("b", ok...), groupOf("b", ok...)), tableOf(groupOf("a", ok...), groupOf("b", ok...), groupOf("a", ok...)),
		tableOf(groupOf("a", people(9)...)), tableOf(groupOf("a", people(20)...)), tableOf(groupOf("a", ok...), groupOf("b", people(9)...), groupOf("c", ok...)),
		tableOf(groupOf("a")), tableOf(groupOf("a", ok...), groupOf("b")), tableOf(groupOf("a"), groupOf("b", ok...)),
		tableOf(groupOf("a", "#2#b", "#1#a")), tableOf(groupOf("a", "#1#a", "#1#a")), tableOf(groupOf("a", "#1#a", "#3#c", "#2#b")), tableOf(groupOf("a", "#1#b", "#1#a")),
		tableOf(groupOf("a", "#1#a", "#2#b", "#2#b")), tableOf(groupOf("a", ok...), groupOf("b", "#2#b", "#1#a")), tableOf(groupOf("a", "#1#ab", "#1#a")),
	}
	for _, s := range wrongWhos() {
		list = append(list, tableOf(groupOf("a", s)), tableOf(groupOf("a", s, "#1#a")), tableOf(groupOf("a", "#1#a", s)), tableOf(groupOf("a", ok...), groupOf("b", "#1#a", s, "#9#z")))
	}
	for _, s := range noNames() {
		list = append(list, tableOf(groupOf(s, ok...)), tableOf(groupOf("a", ok...), groupOf(s, ok...)), tableOf(groupOf(s, ok...), groupOf("z", ok...)))
	}
	return list
}

func rightTables() []impl.Table {
	list := []impl.Table{{}, tableOf(), {Groups: []impl.Group{}}, fullTable(), tableOf(groupOf("a", "#1#a")), tableOf(groupOf("abcdefghijkl", "#9#abcdefghijkl")), tableOf(groupOf("a", "#1#a"), groupOf("a0", "#1#a"), groupOf("ab", "#1#a"))}
	for count := 1; count <= 8; count++ {
		list = append(list, tableOf(groupOf("a", people(count)...)), tableOf(groupOf("a", "#1#a"), groupOf("b", people(count)...)))
	}
	for count := range 7 {
		list = append(list, tableOf(fullTable().Groups[:count]...), tableOf(fullTable().Groups[6-count:]...))
	}
	for _, who := range rightWhos() {
		list = append(list, tableOf(groupOf("a", who)))
	}
	return list
}

func TestTableOkKnown(t *testing.T) {
	for _, x := range rightTables() {
		wantTableOk(t, x, true)
		if !tableRightByHand(x) {
			t.Errorf("the table %s is not right by hand", shownTable(x))
		}
	}
	for _, x := range wrongTables() {
		wantTableOk(t, x, false)
		if tableRightByHand(x) {
			t.Errorf("the table %s is right by hand", shownTable(x))
		}
	}
}

// Each place of a table may be the one that is wrong.
func TestTableOkOfEveryPlace(t *testing.T) {
	full := fullTable()
	for i, g := range full.Groups {
		for _, name := range append(noNames(), "a", "b", "c", "f", "g", "l", "m") {
			x := tableOf(putInPlace(full.Groups, i, groupOf(name, g.Members...))...)
			wantTableOk(t, x, tableRightByHand(x))
		}
		for place := range g.Members {
			for _, who := range slices.Concat(wrongWhos(), rightWhos(), people(8), []string{"#1#b0", "#2#d0", "#3#h0"}) {
				x := tableOf(putInPlace(full.Groups, i, groupOf(g.Name, putInPlace(g.Members, place, who)...))...)
				wantTableOk(t, x, tableRightByHand(x))
			}
		}
		for count := range 11 {
			wantTableOk(t, tableOf(putInPlace(full.Groups, i, groupOf(g.Name, people(count)...))...), count >= 1 && count <= 8)
		}
		wantTableOk(t, tableOf(without(full.Groups, i)...), true)
		wantTableOk(t, tableOf(putAt(full.Groups, i, groupOf(string([]byte{g.Name[0] - 1}), "#1#a"))...), false)
	}
}

func TestMembersOfKnown(t *testing.T) {
	x := tableOf(groupOf("a", "#1#a"), groupOf("b", "#1#b", "#2#a"), groupOf("c", people(8)...))
	wantMembers(t, x, "a", "#1#a")
	wantMembers(t, x, "b", "#1#b", "#2#a")
	wantMembers(t, x, "c", people(8)...)
	for _, group := range []string{"", "d", "A", "a ", "ab", "aa", "#1#a", "\x00", "abcdefghijklm", longText(300)} {
		wantMembers(t, x, group)
		wantMembers(t, impl.Table{}, group)
	}
	for _, g := range fullTable().Groups {
		wantMembers(t, fullTable(), g.Name, people(8)...)
	}
	for _, name := range []string{"a", "c", "e", "g", "i", "k", "m", ""} {
		wantMembers(t, fullTable(), name)
	}
}

func TestMembersOfWrongTables(t *testing.T) {
	wantMembers(t, tableOf(groupOf("b", "x", "#1#a", "x"), groupOf("a", ""), groupOf("b", "#2#b"), groupOf("")), "b", "x", "#1#a", "x")
	wantMembers(t, tableOf(groupOf("b", "x"), groupOf("a", ""), groupOf("b", "#2#b")), "a", "")
	wantMembers(t, tableOf(groupOf("", "x"), groupOf("a")), "", "x")
	wantMembers(t, tableOf(groupOf("a"), groupOf("a", "#1#a")), "a")
	wantMembers(t, tableOf(groupOf("\xff", "x")), "\xff", "x")
	for _, x := range wrongTables() {
		for _, group := range append(noNames(), "a", "b", "c", "z", "zz") {
			wantMembers(t, x, group, membersByHand(x, group)...)
		}
	}
}

func TestFoldJoinKnown(t *testing.T) {
	x := tableOf(groupOf("b", "#1#b", "#2#a"), groupOf("d", "#1#b"))
	wantFold(t, impl.Table{}, joinWord("#1#a", "g"), tableOf(groupOf("g", "#1#a")), true, "#1#a")
	wantFold(t, x, joinWord("#1#a", "b"), tableOf(groupOf("b", "#1#a", "#1#b", "#2#a"), groupOf("d", "#1#b")), true, "#1#a", "#1#b", "#2#a")
	wantFold(t, x, joinWord("#1#c", "b"), tableOf(groupOf("b", "#1#b", "#1#c", "#2#a"), groupOf("d", "#1#b")), true, "#1#b", "#1#c", "#2#a")
	wantFold(t, x, joinWord("#3#a", "b"), tableOf(groupOf("b", "#1#b", "#2#a", "#3#a"), groupOf("d", "#1#b")), true, "#1#b", "#2#a", "#3#a")
	wantFold(t, x, joinWord("#2#a", "d"), tableOf(groupOf("b", "#1#b", "#2#a"), groupOf("d", "#1#b", "#2#a")), true, "#1#b", "#2#a")
	wantFold(t, x, joinWord("#1#b", "a"), tableOf(groupOf("a", "#1#b"), groupOf("b", "#1#b", "#2#a"), groupOf("d", "#1#b")), true, "#1#b")
	wantFold(t, x, joinWord("#1#b", "c"), tableOf(groupOf("b", "#1#b", "#2#a"), groupOf("c", "#1#b"), groupOf("d", "#1#b")), true, "#1#b")
	wantFold(t, x, joinWord("#1#b", "e"), tableOf(groupOf("b", "#1#b", "#2#a"), groupOf("d", "#1#b"), groupOf("e", "#1#b")), true, "#1#b")
	for _, who := range []string{"#1#b", "#2#a"} {
		wantNotFolded(t, x, joinWord(who, "b"))
	}
	wantNotFolded(t, x, joinWord("#1#b", "d"))
}

func TestFoldJoinAtLimits(t *testing.T) {
	full := fullTable()
	five := full.Groups[1:]
	for _, c := range []struct {
		group string
		place int
	}{{"a", 0}, {"abcdefghijkl", 0}, {"c", 0}, {"e", 1}, {"g", 2}, {"i", 3}, {"k", 4}, {"m", 5}} {
		wantNotFolded(t, full, joinWord("#1#a", c.group))
		wantNotFolded(t, full, joinWord("#9#z", c.group))
		wantFold(t, tableOf(five...), joinWord("#9#z", c.group), tableOf(putAt(five, c.place, groupOf(c.group, "#9#z"))...), true, "#9#z")
	}
	for i, g := range full.Groups {
		for _, who := range []string{"#1#a0", "#2#a", "#9#z"} {
			wantNotFolded(t, full, joinWord(who, g.Name))
		}
		for _, who := range g.Members {
			wantNotFolded(t, full, joinWord(who, g.Name))
		}
		seven := tableOf(putInPlace(full.Groups, i, groupOf(g.Name, g.Members[:7]...))...)
		wantFold(t, seven, joinWord(g.Members[7], g.Name), full, true, g.Members...)
		wantFold(t, seven, joinWord("#9#z", g.Name), tableOf(putInPlace(full.Groups, i, groupOf(g.Name, append(slices.Clone(g.Members[:7]), "#9#z")...))...), true, append(slices.Clone(g.Members[:7]), "#9#z")...)
	}
}

func TestFoldLeaveKnown(t *testing.T) {
	x := tableOf(groupOf("a", "#1#b"), groupOf("b", "#1#a", "#1#b", "#2#a"), groupOf("c", "#2#a"))
	wantFold(t, x, leaveWord("#1#a", "b"), tableOf(groupOf("a", "#1#b"), groupOf("b", "#1#b", "#2#a"), groupOf("c", "#2#a")), true, "#1#a", "#1#b", "#2#a")
	wantFold(t, x, leaveWord("#1#b", "b"), tableOf(groupOf("a", "#1#b"), groupOf("b", "#1#a", "#2#a"), groupOf("c", "#2#a")), true, "#1#a", "#1#b", "#2#a")
	wantFold(t, x, leaveWord("#2#a", "b"), tableOf(groupOf("a", "#1#b"), groupOf("b", "#1#a", "#1#b"), groupOf("c", "#2#a")), true, "#1#a", "#1#b", "#2#a")
	wantFold(t, x, leaveWord("#1#b", "a"), tableOf(groupOf("b", "#1#a", "#1#b", "#2#a"), groupOf("c", "#2#a")), true, "#1#b")
	wantFold(t, x, leaveWord("#2#a", "c"), tableOf(groupOf("a", "#1#b"), groupOf("b", "#1#a", "#1#b", "#2#a")), true, "#2#a")
	wantFold(t, tableOf(groupOf("a", "#1#b")), leaveWord("#1#b", "a"), impl.Table{}, true, "#1#b")
	for _, w := range []impl.Word{leaveWord("#1#a", "a"), leaveWord("#2#b", "b"), leaveWord("#1#b", "c"), leaveWord("#1#b", "d"), leaveWord("#1#z", "d"), leaveWord("#1#b", "bb"), leaveWord("#2#b", "a")} {
		wantNotFolded(t, x, w)
		wantNotFolded(t, impl.Table{}, w)
	}
	for i, g := range fullTable().Groups {
		for place, who := range g.Members {
			left := tableOf(putInPlace(fullTable().Groups, i, groupOf(g.Name, without(g.Members, place)...))...)
			wantFold(t, fullTable(), leaveWord(who, g.Name), left, true, g.Members...)
		}
	}
}

// Who is gone is in no group any more, and is to hear of it with all who were in a group with it.
func TestFoldGoneKnown(t *testing.T) {
	x := tableOf(groupOf("a", "#1#b"), groupOf("b", "#1#a", "#1#b", "#2#a"), groupOf("c", "#2#a", "#3#c"), groupOf("d", "#1#a", "#1#b"))
	wantFold(t, x, goneWord("#1#b"), tableOf(groupOf("b", "#1#a", "#2#a"), groupOf("c", "#2#a", "#3#c"), groupOf("d", "#1#a")), true, "#1#a", "#1#b", "#2#a")
	wantFold(t, x, goneWord("#1#a"), tableOf(groupOf("a", "#1#b"), groupOf("b", "#1#b", "#2#a"), groupOf("c", "#2#a", "#3#c"), groupOf("d", "#1#b")), true, "#1#a", "#1#b", "#2#a")
	wantFold(t, x, goneWord("#3#c"), tableOf(groupOf("a", "#1#b"), groupOf("b", "#1#a", "#1#b", "#2#a"), groupOf("c", "#2#a"), groupOf("d", "#1#a", "#1#b")), true, "#2#a", "#3#c")
	wantFold(t, x, goneWord("#2#a"), tableOf(groupOf("a", "#1#b"), groupOf("b", "#1#a", "#1#b"), groupOf("c", "#3#c"), groupOf("d", "#1#a", "#1#b")), true, "#1#a", "#1#b", "#2#a", "#3#c")
	wantFold(t, tableOf(groupOf("a", "#1#b")), goneWord("#1#b"), impl.Table{}, true, "#1#b")
	wantFold(t, tableOf(groupOf("a", "#1#b"), groupOf("b", "#1#b")), goneWord("#1#b"), impl.Table{}, true, "#1#b")
	wantFold(t, tableOf(groupOf("a", "#1#b"), groupOf("b", "#2#b")), goneWord("#1#b"), tableOf(groupOf("b", "#2#b")), true, "#1#b")
	wantFold(t, tableOf(groupOf("a", "#1#a", "#2#b")), goneWord("#1#a"), tableOf(groupOf("a", "#2#b")), true, "#1#a", "#2#b")
	wantFold(t, tableOf(groupOf("a", "#1#a", "#2#b")), goneWord("#2#b"), tableOf(groupOf("a", "#1#a")), true, "#1#a", "#2#b")
	for _, who := range []string{"#1#c", "#2#b", "#9#z", "#1#bb"} {
		wantFold(t, x, goneWord(who), x, true)
		wantFold(t, impl.Table{}, goneWord(who), impl.Table{}, true)
		wantFold(t, fullTable(), goneWord("#9#z"), fullTable(), true)
	}
	for place, who := range people(8) {
		var left impl.Table
		for _, g := range fullTable().Groups {
			left.Groups = append(left.Groups, groupOf(g.Name, without(g.Members, place)...))
		}
		wantFold(t, fullTable(), goneWord(who), left, true, people(8)...)
	}
}

func TestFoldSayKnown(t *testing.T) {
	x := tableOf(groupOf("a", "#1#b"), groupOf("b", "#1#a", "#1#b", "#2#a"), groupOf("c", "#2#a", "#3#c"))
	for _, text := range wordTexts() {
		wantFold(t, x, sayWord("#9#z", text, "a"), x, true, "#1#b")
		wantFold(t, x, sayWord("#1#b", text, "a"), x, true)
		wantFold(t, x, sayWord("#1#a", text, "b", "c"), x, true, "#1#b", "#2#a", "#3#c")
	}
	wantFold(t, x, sayWord("#9#z", "hi", "b"), x, true, "#1#a", "#1#b", "#2#a")
	wantFold(t, x, sayWord("#1#b", "hi", "b"), x, true, "#1#a", "#2#a")
	wantFold(t, x, sayWord("#1#b", "hi", "a", "b"), x, true, "#1#a", "#2#a")
	wantFold(t, x, sayWord("#2#a", "hi", "a", "b", "c"), x, true, "#1#a", "#1#b", "#3#c")
	wantFold(t, x, sayWord("#3#c", "hi", "a", "b", "c"), x, true, "#1#a", "#1#b", "#2#a")
	wantFold(t, x, sayWord("#9#z", "hi", "a", "b", "c"), x, true, "#1#a", "#1#b", "#2#a", "#3#c")
	wantFold(t, x, sayWord("#9#z", "hi", "a", "aa", "c"), x, true, "#1#b", "#2#a", "#3#c")
	wantFold(t, x, sayWord("#9#z", "hi", "a", "d", "e"), x, true, "#1#b")
	wantFold(t, x, sayWord("#1#b", "hi", "d"), x, true)
	wantFold(t, x, sayWord("#1#b", "hi", "d", "e", "f"), x, true)
	wantFold(t, impl.Table{}, sayWord("#1#b", "hi", "a", "b", "c"), impl.Table{}, true)
	wantFold(t, fullTable(), sayWord("#1#a", "", "b", "d", "l"), fullTable(), true, people(8)[1:]...)
	wantFold(t, fullTable(), sayWord("#9#a", "", "b", "d", "l"), fullTable(), true, people(8)...)
}

func TestFoldRefusesWhatIsNotRight(t *testing.T) {
	x := tableOf(groupOf("a", "#1#a"), groupOf("b", "#1#a", "#2#b"))
	for _, w := range wrongWords() {
		for _, right := range []impl.Table{{}, x, fullTable()} {
			wantNotFolded(t, right, w)
		}
	}
	for _, wrong := range wrongTables() {
		for _, w := range []impl.Word{joinWord("#1#a", "q"), joinWord("#9#z", "a"), leaveWord("#1#a", "a"), leaveWord("#1#a", "b"), goneWord("#1#a"), goneWord("#9#z"), sayWord("#9#z", "hi", "a", "b"), {}, {Kind: 1}} {
			wantNotFolded(t, wrong, w)
		}
	}
}

// smallTables are all of the groups a and b, with any of three members each.
func smallTables() []impl.Table {
	whos := []string{"#1#a", "#2#a", "#2#b"}
	var list []impl.Table
	for drawn := range 64 {
		var in []belonging
		for bit := range 6 {
			if drawn>>bit&1 == 1 {
				in = append(in, belonging{"ab"[bit/3 : bit/3+1], whos[bit%3]})
			}
		}
		list = append(list, tableOfBelongings(in))
	}
	return list
}

// smallWords are all right ones of few groups and few who.
func smallWords() []impl.Word {
	var list []impl.Word
	for _, who := range []string{"#1#a", "#2#a", "#2#b", "#1#b"} {
		list = append(list, goneWord(who), sayWord(who, "", "a", "b", "c"))
		for _, group := range []string{"a", "b", "c", "a0"} {
			list = append(list, joinWord(who, group), leaveWord(who, group), sayWord(who, "hi", group))
		}
		list = append(list, sayWord(who, "x", "a", "b"), sayWord(who, "x", "a", "c"), sayWord(who, "x", "b", "c"), sayWord(who, "x", "a", "a0", "b"))
	}
	return list
}

func TestFoldOfEverySmallTable(t *testing.T) {
	for _, x := range smallTables() {
		for _, w := range smallWords() {
			next, ok := wantFoldAsByHand(t, x, w)
			wantTableOk(t, next, true)
			if w.Kind > 2 && !ok {
				t.Errorf("Fold(%s, %s) is false", shownTable(x), shownWord(w))
			}
			for _, again := range smallWords() {
				wantFoldAsByHand(t, next, again)
			}
		}
	}
}

// fewPeople are those of whom drawn tables are made.
func fewPeople() []string { return append(people(10), "#1#z", "#9#a") }

// drawnWord is of few groups and of the first few of few people, so that the limits are met and words are refused.
func drawnWord(l *lot, most int) impl.Word {
	groups := []string{"a", "b", "c", "d", "e", "f", "g", "h"}
	who := fewPeople()[l.below(most)]
	switch n := l.below(23); {
	case n < 14:
		return joinWord(who, groups[min(l.below(8), l.below(9))])
	case n < 18:
		return leaveWord(who, groups[l.below(8)])
	case n < 19:
		return goneWord(who)
	}
	said := shuffled(l, upTo(8))[:1+l.below(3)]
	slices.Sort(said)
	w := sayWord(who, longText(l.below(21)))
	for _, place := range said {
		w.Groups = append(w.Groups, groups[place-1])
	}
	return w
}

// whatCame tells what a word did, so that who asks can see to it that all of it came to pass.
func whatCame(x impl.Table, w impl.Word) []string {
	next, hearers, ok := foldByHand(x, w)
	if !wordRightByHand(w) {
		return []string{"a wrong word"}
	}
	in := 0
	for _, g := range x.Groups {
		if slices.Contains(g.Members, w.Who) {
			in++
		}
	}
	what := []string{fmt.Sprintf("kind %d %t", w.Kind, ok)}
	switch w.Kind {
	case 1:
		count := len(membersByHand(x, w.Groups[0]))
		member := slices.Contains(membersByHand(x, w.Groups[0]), w.Who)
		switch {
		case member:
			what = append(what, "a member joins")
		case count == 8:
			what = append(what, "the ninth member")
		case count == 0 && len(x.Groups) == 6:
			what = append(what, "the seventh group")
		case count == 0:
			what = append(what, "a new group")
		}
	case 2:
		if ok && len(next.Groups) < len(x.Groups) {
			what = append(what, "the last one leaves")
		}
	case 3:
		what = append(what, fmt.Sprintf("gone of %d", min(in, 3)), fmt.Sprintf("gone, heard by %d", min(len(hearers), 2)))
		if len(next.Groups) < len(x.Groups) {
			what = append(what, "groups are gone")
		}
	case 4:
		what = append(what, fmt.Sprintf("said to %d", min(len(hearers), 2)))
	}
	return what
}

// Promise 17: a table is the fold of its words, one by one, at once and in two parts.
func TestTablesAreTheFoldOfTheirWords(t *testing.T) {
	l, seen := &lot{1717}, map[string]int{}
	for range 400 {
		var list []impl.Word
		tables := []impl.Table{{}}
		most := []int{3, 12, 12}[l.below(3)]
		for range 10 + l.below(120) {
			x, w := tables[len(tables)-1], drawnWord(l, most)
			if l.below(24) == 0 {
				w = spoiltWord(l, w)
			}
			for _, what := range whatCame(x, w) {
				seen[what]++
			}
			next, _ := wantFoldAsByHand(t, x, w)
			wantTableOk(t, next, true)
			list, tables = append(list, w), append(tables, next)
		}
		last := tables[len(list)]
		wantFoldAll(t, impl.Table{}, list, last)
		wantFoldAll(t, impl.Table{}, list, foldAllByHand(impl.Table{}, list))
		for range 6 {
			cut := l.below(len(list) + 1)
			wantFoldAll(t, impl.Table{}, list[:cut], tables[cut])
			wantFoldAll(t, impl.FoldAll(impl.Table{}, list[:cut]), list[cut:], last)
		}
	}
	enough(t, seen, 300, "kind 1 true", "kind 1 false", "kind 2 true", "kind 2 false", "kind 3 true", "kind 4 true", "a member joins", "a new group", "a wrong word", "said to 0", "said to 1", "said to 2")
	enough(t, seen, 50, "the ninth member", "the seventh group", "the last one leaves", "gone of 0", "gone of 1", "gone of 2", "gone of 3", "gone, heard by 0", "gone, heard by 1", "gone, heard by 2", "groups are gone")
}

// A table is behind the words with which each of its members joined, in whatever order.
func TestTablesAreWhoJoined(t *testing.T) {
	l := &lot{171}
	for range 300 {
		x := drawnTable(l)
		list := belongingsOf(x)
		var words []impl.Word
		for _, n := range shuffled(l, upTo(len(list))) {
			words = append(words, joinWord(list[n-1].who, list[n-1].group))
		}
		wantFoldAll(t, impl.Table{}, words, x)
		wantFoldAll(t, x, words, x)
		for _, b := range list {
			words = append(words, leaveWord(b.who, b.group))
		}
		wantFoldAll(t, impl.Table{}, words, impl.Table{})
		for _, who := range fewPeople() {
			next, _ := wantFoldAsByHand(t, x, goneWord(who))
			x = impl.FoldAll(x, []impl.Word{goneWord(who)})
			if !sameTable(x, next) {
				t.Errorf("%s is gone: FoldAll %s, Fold %s", who, shownTable(x), shownTable(next))
			}
			if whos := whoOf(belongingsOf(x), func(b belonging) bool { return b.who == who }); len(whos) > 0 {
				t.Errorf("%s is gone, and in %s", who, shownTable(x))
			}
		}
		wantMerge(t, x, impl.Table{}, impl.Table{})
	}
}

// drawnTable is right, of any of the groups and people that drawnWord has.
func drawnTable(l *lot) impl.Table {
	var list []belonging
	for _, group := range shuffled(l, upTo(8))[:l.below(7)] {
		for _, place := range shuffled(l, upTo(12))[:1+l.below(8)] {
			list = append(list, belonging{"abcdefgh"[group-1 : group], fewPeople()[place-1]})
		}
	}
	return tableOfBelongings(list)
}

func TestFoldAllKnown(t *testing.T) {
	x := tableOf(groupOf("a", "#1#a"), groupOf("b", "#1#a", "#2#b"))
	for _, table := range append(wrongTables(), x, fullTable(), impl.Table{}) {
		wantFoldAll(t, table, nil, table)
		wantFoldAll(t, table, []impl.Word{}, table)
		wantFoldAll(t, table, make([]impl.Word, 5), table)
		wantFoldAll(t, table, wrongWords(), table)
	}
	for _, table := range wrongTables() {
		wantFoldAll(t, table, smallWords(), table)
		wantFoldAll(t, table, []impl.Word{goneWord("#1#a"), joinWord("#9#z", "a"), leaveWord("#2#b", "b")}, table)
	}
	wantFoldAll(t, x, []impl.Word{joinWord("#1#a", "a"), leaveWord("#9#z", "b"), {}, joinWord("#3#c", "a"), joinWord("#3#c", "a"), goneWord("")}, tableOf(groupOf("a", "#1#a", "#3#c"), groupOf("b", "#1#a", "#2#b")))
	wantFoldAll(t, x, []impl.Word{goneWord("#1#a"), joinWord("#1#a", "c"), sayWord("#1#a", "hi", "a", "b")}, tableOf(groupOf("b", "#2#b"), groupOf("c", "#1#a")))
	wantFoldAll(t, x, []impl.Word{goneWord("#1#a"), goneWord("#2#b"), goneWord("#2#b")}, impl.Table{})
	// A word that is refused where it stands would be taken elsewhere.
	wantFoldAll(t, fullTable(), []impl.Word{joinWord("#1#a", "z"), leaveWord("#1#a", "b"), joinWord("#9#z", "b")}, tableOf(putInPlace(fullTable().Groups, 0, groupOf("b", append(people(8)[1:], "#9#z")...))...))
	var leaving []impl.Word
	for _, who := range people(8) {
		leaving = append(leaving, leaveWord(who, "b"))
	}
	five := fullTable().Groups[1:]
	wantFoldAll(t, fullTable(), slices.Concat(leaving, []impl.Word{joinWord("#9#z", "z")}), tableOf(putAt(five, 5, groupOf("z", "#9#z"))...))
	wantFoldAll(t, fullTable(), slices.Concat([]impl.Word{joinWord("#9#z", "z")}, leaving), tableOf(five...))
}

func TestKeepKnown(t *testing.T) {
	x := tableOf(groupOf("a", "#1#a", "#2#a", "#2#b"), groupOf("b", "#2#a"), groupOf("c", "#1#a", "#9#z"))
	wantKeep(t, x, nil, impl.Table{})
	wantKeep(t, x, []int{}, impl.Table{})
	wantKeep(t, x, []int{1}, tableOf(groupOf("a", "#1#a"), groupOf("c", "#1#a")))
	wantKeep(t, x, []int{2}, tableOf(groupOf("a", "#2#a", "#2#b"), groupOf("b", "#2#a")))
	wantKeep(t, x, []int{9}, tableOf(groupOf("c", "#9#z")))
	wantKeep(t, x, []int{2, 1}, tableOf(groupOf("a", "#1#a", "#2#a", "#2#b"), groupOf("b", "#2#a"), groupOf("c", "#1#a")))
	wantKeep(t, x, []int{9, 2, 1, 2, 9, 9}, x)
	wantKeep(t, x, []int{1, 1, 1}, tableOf(groupOf("a", "#1#a"), groupOf("c", "#1#a")))
	wantKeep(t, x, fromTo(1, 9), x)
	wantKeep(t, x, fromTo(-300, 300), x)
	wantKeep(t, x, []int{3, 4, 5, 6, 7, 8}, impl.Table{})
	wantKeep(t, x, []int{0, -1, 10, 11, 49, 257, 1<<32 + 1, math.MinInt, math.MaxInt}, impl.Table{})
	wantKeep(t, x, []int{0, -1, 9, math.MaxInt}, tableOf(groupOf("c", "#9#z")))
	wantKeep(t, impl.Table{}, fromTo(0, 9), impl.Table{})
	wantKeep(t, fullTable(), []int{1, 2, 3}, fullTable())
}

// What is not right stands as it stood, but for the members that are of none of the daemons, and the groups without any.
func TestKeepOfWrongTables(t *testing.T) {
	wantKeep(t, tableOf(groupOf("a", "ann", "#1#a", "#0#a", "", "#10#a", "#1#A")), []int{0, 1, 10}, tableOf(groupOf("a", "#1#a")))
	wantKeep(t, tableOf(groupOf("a", "ann", "")), fromTo(-1, 10), impl.Table{})
	wantKeep(t, tableOf(groupOf("b", "#2#b", "#1#a", "#2#b"), groupOf("a"), groupOf("", "#1#a"), groupOf("b", "#2#a")), []int{2}, tableOf(groupOf("b", "#2#b", "#2#b"), groupOf("b", "#2#a")))
	wantKeep(t, tableOf(groupOf("b", "#2#b", "#1#a"), groupOf("", "#1#a")), []int{1, 2}, tableOf(groupOf("b", "#2#b", "#1#a"), groupOf("", "#1#a")))
	wantKeep(t, tableOf(groupOf("a", people(9)...)), []int{1, 2, 3}, tableOf(groupOf("a", people(9)...)))
	for _, x := range append(wrongTables(), tableOf(make([]impl.Group, 9)...)) {
		for _, daemons := range [][]int{nil, {0}, {1}, {2}, {1, 2}, {2, 3, 9}, fromTo(-1, 10), wildNumbers()} {
			wantKeep(t, x, daemons, keepByHand(x, daemons))
		}
	}
}

// Promise 17: what is kept is right; and what each of two kept, merged again, is what both kept.
func TestKeptIsRightAndMergedAgain(t *testing.T) {
	l, seen := &lot{1771}, map[string]int{}
	for range 60 {
		x := drawnTable(l)
		var kept []impl.Table
		for set := range 16 {
			daemons := []int{}
			for bit, daemon := range []int{1, 2, 3, 9} {
				if set>>bit&1 == 1 {
					daemons = append(daemons, daemon)
				}
			}
			got := impl.Keep(x, daemons)
			wantKeep(t, x, daemons, keepByHand(x, daemons))
			wantTableOk(t, got, true)
			wantKeep(t, got, daemons, got)
			if len(got.Groups) > 0 && len(got.Groups) < len(x.Groups) {
				seen["a group of which nobody is left"]++
			}
			for _, w := range smallWords() {
				wantFoldAsByHand(t, got, w)
			}
			kept = append(kept, got)
		}
		for a := range kept {
			for b := range kept {
				wantMerge(t, kept[a], kept[b], kept[a|b])
				seen[fmt.Sprintf("merged, of one in the other: %t", a|b == a || a|b == b)]++
			}
		}
		if !sameTable(kept[15], x) || len(kept[0].Groups) > 0 {
			t.Errorf("Keep of all, and of none: %s, %s; want %s", shownTable(kept[15]), shownTable(kept[0]), shownTable(x))
		}
	}
	enough(t, seen, 30, "a group of which nobody is left", "merged, of one in the other: false", "merged, of one in the other: true")
}

// All sets of the nine daemons that a PrivateName may have.
func TestKeepOfEverySetOfDaemons(t *testing.T) {
	var one, two []string
	for daemon := 1; daemon <= 8; daemon++ {
		one, two = append(one, fmt.Sprintf("#%d#x", daemon)), append(two, fmt.Sprintf("#%d#y", daemon+1))
	}
	x := tableOf(groupOf("a", one...), groupOf("b", two...), groupOf("c", "#5#z"))
	for set := range 512 {
		daemons := []int{}
		for bit := range 9 {
			if set>>bit&1 == 1 {
				daemons = append(daemons, bit+1)
			}
		}
		wantKeep(t, x, daemons, keepByHand(x, daemons))
		slices.Reverse(daemons)
		wantKeep(t, x, append(daemons, append(daemons, 0, 10)...), keepByHand(x, daemons))
	}
}

func TestMergeKnown(t *testing.T) {
	a := tableOf(groupOf("a", "#1#a"), groupOf("c", "#1#a", "#2#b"))
	b := tableOf(groupOf("b", "#3#c"), groupOf("c", "#1#b", "#2#b"), groupOf("d", "#3#c"))
	both := tableOf(groupOf("a", "#1#a"), groupOf("b", "#3#c"), groupOf("c", "#1#a", "#1#b", "#2#b"), groupOf("d", "#3#c"))
	wantMerge(t, a, b, both)
	wantMerge(t, b, a, both)
	wantMerge(t, a, a, a)
	wantMerge(t, a, impl.Table{}, a)
	wantMerge(t, impl.Table{}, a, a)
	wantMerge(t, impl.Table{}, impl.Table{}, impl.Table{})
	wantMerge(t, a, both, both)
	wantMerge(t, both, b, both)
	wantMerge(t, tableOf(groupOf("a", "#2#b")), tableOf(groupOf("a", "#1#a")), tableOf(groupOf("a", "#1#a", "#2#b")))
	wantMerge(t, tableOf(groupOf("b", "#2#b")), tableOf(groupOf("a", "#1#a")), tableOf(groupOf("a", "#1#a"), groupOf("b", "#2#b")))
}

func TestMergeAtLimits(t *testing.T) {
	full := fullTable()
	for cut := range 7 {
		ahead, behind := tableOf(full.Groups[:cut]...), tableOf(full.Groups[cut:]...)
		wantMerge(t, ahead, behind, full)
		wantMerge(t, behind, ahead, full)
		more := tableOf(append(slices.Clone(full.Groups[cut:]), groupOf("z", "#1#a"))...)
		wantMerge(t, ahead, more, ahead)
		wantMerge(t, more, ahead, more)
		if cut > 0 {
			wantMerge(t, tableOf(full.Groups[1:cut]...), more, tableOf(append(slices.Clone(full.Groups[1:]), groupOf("z", "#1#a"))...))
		}
	}
	for cut := 1; cut < 8; cut++ {
		ahead, behind, more := tableOf(groupOf("a", people(8)[:cut]...)), tableOf(groupOf("a", people(8)[cut:]...)), tableOf(groupOf("a", append(slices.Clone(people(8)[cut:]), "#9#z")...))
		wantMerge(t, ahead, behind, tableOf(groupOf("a", people(8)...)))
		wantMerge(t, behind, ahead, tableOf(groupOf("a", people(8)...)))
		wantMerge(t, ahead, more, ahead)
		wantMerge(t, more, ahead, more)
	}
	eight, other := tableOf(groupOf("a", people(8)...), groupOf("b", "#1#a")), tableOf(groupOf("b", "#1#b"), groupOf("c", "#1#c"))
	wantMerge(t, eight, other, tableOf(groupOf("a", people(8)...), groupOf("b", "#1#a", "#1#b"), groupOf("c", "#1#c")))
	wantMerge(t, eight, tableOf(groupOf("a", "#9#z"), groupOf("b", "#1#b")), eight)
	wantMerge(t, full, full, full)
	wantMerge(t, full, tableOf(groupOf("l", "#3#h")), full)
	wantMerge(t, full, tableOf(groupOf("l", "#3#z")), full)
	wantMerge(t, tableOf(groupOf("l", "#3#z")), full, tableOf(groupOf("l", "#3#z")))
	wantMerge(t, full, tableOf(groupOf("a", "#3#h")), full)
}

func TestMergeOfWrongTables(t *testing.T) {
	x := tableOf(groupOf("a", "#1#a"), groupOf("b", "#1#a", "#2#b"))
	for i, wrong := range wrongTables() {
		wantMerge(t, wrong, x, wrong)
		wantMerge(t, x, wrong, x)
		wantMerge(t, wrong, impl.Table{}, wrong)
		wantMerge(t, impl.Table{}, wrong, impl.Table{})
		wantMerge(t, wrong, wrong, wrong)
		wantMerge(t, wrong, wrongTables()[(i+7)%len(wrongTables())], wrong)
	}
}

func TestMergeOfEverySmallTable(t *testing.T) {
	for _, a := range smallTables() {
		for _, b := range smallTables() {
			wantMerge(t, a, b, mergeByHand(a, b))
		}
	}
	l, seen := &lot{7171}, map[string]int{}
	for range 4000 {
		a, b := drawnTable(l), drawnTable(l)
		if l.below(3) == 0 {
			b = impl.Keep(b, []int{1 + l.below(3)})
		}
		got := impl.Merge(a, b)
		wantMerge(t, a, b, mergeByHand(a, b))
		wantTableOk(t, got, true)
		seen[fmt.Sprintf("merged %t", !sameTable(got, a))]++
		both := tableOfBelongings(append(belongingsOf(a), belongingsOf(b)...))
		seen[fmt.Sprintf("more groups %t", len(both.Groups) > 6)]++
		seen[fmt.Sprintf("more members %t", slices.ContainsFunc(both.Groups, func(g impl.Group) bool { return len(g.Members) > 8 }))]++
	}
	enough(t, seen, 200, "merged true", "merged false", "more groups true", "more members true")
}

// spoiltTable has one field changed; it may be right all the same.
func spoiltTable(l *lot, x impl.Table) impl.Table {
	own := tableOf(slices.Clone(x.Groups)...)
	if len(own.Groups) == 0 {
		return tableOf(groupOf("a"))
	}
	i := l.below(len(own.Groups))
	g := own.Groups[i]
	names, whos := slices.Concat(noNames(), []string{"a", "b", "c", "z"}), slices.Concat(wrongWhos(), rightWhos())
	place := l.below(len(g.Members))
	switch l.below(6) {
	case 0:
		own.Groups[i].Name = names[l.below(len(names))]
	case 1:
		own.Groups[i].Members = putInPlace(g.Members, place, whos[l.below(len(whos))])
	case 2:
		own.Groups[i].Members = putAt(g.Members, place, whos[l.below(len(whos))])
	case 3:
		own.Groups[i].Members = without(g.Members, place)
	case 4:
		other := l.below(len(own.Groups))
		own.Groups[i], own.Groups[other] = own.Groups[other], own.Groups[i]
	case 5:
		own.Groups = putAt(own.Groups, l.below(len(own.Groups)+1), g)
	}
	return own
}

func TestGroupsOfSpoiltTables(t *testing.T) {
	l, seen := &lot{17171}, map[string]int{}
	for range 4000 {
		x, other := spoiltTable(l, drawnTable(l)), drawnTable(l)
		right := tableRightByHand(x)
		seen[fmt.Sprintf("right %t", right)]++
		wantTableOk(t, x, right)
		for _, group := range []string{"a", "b", "h", "", "z"} {
			wantMembers(t, x, group, membersByHand(x, group)...)
		}
		list := []impl.Word{drawnWord(l, 12), drawnWord(l, 12), drawnWord(l, 12)}
		wantFoldAsByHand(t, x, list[0])
		wantFoldAll(t, x, list, foldAllByHand(x, list))
		daemons := shuffled(l, fromTo(-1, 10))[:l.below(12)]
		wantKeep(t, x, daemons, keepByHand(x, daemons))
		wantMerge(t, x, other, mergeByHand(x, other))
		wantMerge(t, other, x, mergeByHand(other, x))
	}
	enough(t, seen, 300, "right true", "right false")
}

func TestGroupsOfLongArguments(t *testing.T) {
	names := make([]string, 5000)
	for i := range names {
		names[i] = fmt.Sprintf("#%d#n%d", i%12, i)
	}
	var many impl.Table
	for i := range 3000 {
		many.Groups = append(many.Groups, groupOf(fmt.Sprintf("g%d", i), "#1#a", longText(i%50)))
	}
	for _, x := range []impl.Table{many, tableOf(groupOf("a", names...)), tableOf(make([]impl.Group, 20000)...), tableOf(groupOf(longText(50000), longText(50000)))} {
		wantTableOk(t, x, false)
		wantMembers(t, x, "g2999", membersByHand(x, "g2999")...)
		wantNotFolded(t, x, joinWord("#1#a", "a"))
		wantFoldAll(t, x, slices.Repeat(smallWords(), 200), x)
		wantKeep(t, x, []int{1, 2}, keepByHand(x, []int{1, 2}))
		wantMerge(t, x, fullTable(), x)
		wantMerge(t, fullTable(), x, fullTable())
	}
	long := impl.Word{Kind: 4, Who: longText(50000), Groups: names, Text: longText(50000)}
	wantWordOk(t, long, false)
	wantWordText(t, long, "", false)
	wantNotFolded(t, fullTable(), long)
	wantKeep(t, fullTable(), make([]int, 20000), impl.Table{})
	wantFoldAll(t, impl.Table{}, slices.Repeat(smallWords(), 300), foldAllByHand(impl.Table{}, slices.Repeat(smallWords(), 300)))
}

// A map goes another way each time: an answer that hung on it would not be the same again.
func TestGroupsAnswerAlike(t *testing.T) {
	full := fullTable()
	for range 40 {
		wantFold(t, full, goneWord("#1#a"), impl.Keep(tableOfBelongings(slices.DeleteFunc(belongingsOf(full), func(b belonging) bool { return b.who == "#1#a" })), fromTo(1, 9)), true, people(8)...)
		wantFold(t, full, sayWord("#9#z", "hi", "b", "f", "l"), full, true, people(8)...)
		wantMerge(t, tableOf(full.Groups[3:]...), tableOf(full.Groups[:3]...), full)
		wantKeep(t, full, []int{3, 2, 1}, full)
	}
}

func TestGroupWordsLeaveArgumentsAlone(t *testing.T) {
	wrong := wrongWords()
	for _, w := range slices.Concat(fewWords(), wrong[:min(len(wrong), 200)], rightWords()[:200]) {
		k := &keeper{}
		own, text := kept(k, w), kept(k, wordByHand(w))
		k.ready()
		if impl.WordOk(own) != wordRightByHand(w) {
			t.Errorf("WordOk(%s) looks into spare room", shownWord(w))
		}
		told, _ := impl.WordText(own)
		again, _ := impl.WordText(own)
		k.untouched(t, fmt.Sprintf("WordText(%s)", shownWord(w)), told, again)
		read, _ := impl.ReadWord(text)
		other, _ := impl.ReadWord(text)
		k.untouched(t, fmt.Sprintf("ReadWord(%.60q)", text), read, other)
		if want, _ := readWordByHand(text); !sameWord(read, want) || !sameWord(other, want) {
			t.Errorf("ReadWord(%.60q): %s; want %s", text, shownWord(read), shownWord(want))
		}
	}
}

func tablesToLookAt() []impl.Table {
	wrong := wrongTables()
	list := slices.Concat(rightTables(), wrong[:60], []impl.Table{smallTables()[63], smallTables()[29]})
	l := &lot{77}
	for range 20 {
		x := drawnTable(l)
		list = append(list, x, spoiltTable(l, x))
	}
	return list
}

func TestTablesLeaveArgumentsAlone(t *testing.T) {
	words := slices.Concat(fewWords(), smallWords()[:18], wrongWords()[:5], []impl.Word{joinWord("#1#a", "b"), leaveWord("#1#a", "d"), goneWord("#1#a"), goneWord("#9#a")})
	tables := tablesToLookAt()
	for i, x := range tables {
		other := tables[(i*5+1)%len(tables)]
		k := &keeper{}
		own, second, list := kept(k, x), kept(k, other), kept(k, words)
		daemons := kept(k, []int{1, 3, 9, 0})
		k.ready()
		wantTableOk(t, own, tableRightByHand(x))
		for _, group := range []string{"a", "b", "", "z"} {
			members, again := impl.MembersOf(own, group), impl.MembersOf(own, group)
			k.untouched(t, "MembersOf", members, again)
		}
		for place, w := range list {
			next, hearers, _ := impl.Fold(own, w)
			k.untouched(t, fmt.Sprintf("Fold(%s, %s)", shownTable(x), shownWord(words[place])), next, hearers)
			want, whos, ok := foldByHand(x, words[place])
			wantFold(t, own, w, want, ok, whos...)
		}
		all, kept, merged := impl.FoldAll(own, list), impl.Keep(own, daemons), impl.Merge(own, second)
		k.untouched(t, "FoldAll, Keep, Merge", all, kept, merged, impl.FoldAll(own, nil), impl.Keep(own, fromTo(0, 9)), impl.Merge(second, own))
		wantFoldAll(t, own, list, foldAllByHand(x, words))
		wantKeep(t, own, daemons, keepByHand(x, []int{1, 3, 9, 0}))
		wantMerge(t, own, second, mergeByHand(x, other))
		if !sameTable(own, x) || !sameTable(second, other) {
			t.Errorf("an argument is no more as it was: %s; want %s", shownTable(own), shownTable(x))
		}
	}
}

// One list of members may stand in many groups: no answer lies in it, and no two lists of one answer are the same memory.
func TestGroupsPartOneListInMany(t *testing.T) {
	members := make([]string, 3, 12)
	copy(members, []string{"#1#a", "#2#b", "#3#c"})
	x := tableOf(groupOf("a", members...), groupOf("b", members...), groupOf("c", members[:2]...))
	for i := range x.Groups {
		x.Groups[i].Members = members[:len(x.Groups[i].Members)]
	}
	joined, heard, _ := impl.Fold(x, joinWord("#9#z", "a"))
	refused, _, _ := impl.Fold(x, joinWord("#1#a", "a"))
	wrong := impl.FoldAll(tableOf(groupOf("a", "x")), nil)
	for _, answer := range []any{[]any{}, impl.Keep(x, []int{1, 2}), impl.Keep(x, fromTo(1, 9)), impl.Merge(x, x), impl.Merge(x, impl.Table{}), impl.Merge(x, tableOf(groupOf("", "x"))), impl.FoldAll(x, nil), joined, refused, heard, wrong} {
		rooms := append(roomsWithin("the answer", reflect.ValueOf(answer)), roomsWithin("the list", reflect.ValueOf(members))...)
		wantRoomsApart(t, "an answer of one list in many", rooms...)
	}
	wantRoomsApart(t, "Fold", append(roomsWithin("the table", reflect.ValueOf(joined)), roomsWithin("who is to hear", reflect.ValueOf(heard))...)...)
	joined.Groups[0].Members[0] = "other"
	heard[1] = "other"
	if want := []string{"#1#a", "#2#b", "#3#c"}; !slices.Equal(members, want) || !slices.Equal(members[:12][3:], make([]string, 9)) {
		t.Errorf("the list became %q", members[:12])
	}
	wantMembers(t, joined, "b", "#1#a", "#2#b", "#3#c")
}

func TestGroupsDoNotLookIntoSpareRoom(t *testing.T) {
	members := []string{"#1#a", "#2#b", "x", ""}
	groups := []impl.Group{{Name: "a", Members: members[:2]}, {Name: "b", Members: members[:1]}, {Name: "", Members: members}}
	x := impl.Table{Groups: groups[:2]}
	wantTableOk(t, x, true)
	wantMembers(t, x, "")
	wantMembers(t, x, "a", "#1#a", "#2#b")
	wantKeep(t, x, []int{1, 2}[:1], tableOf(groupOf("a", "#1#a"), groupOf("b", "#1#a")))
	wantFold(t, x, impl.Word{Kind: 1, Who: "#2#b", Groups: []string{"b", "a"}[:1]}, tableOf(groupOf("a", "#1#a", "#2#b"), groupOf("b", "#1#a", "#2#b")), true, "#1#a", "#2#b")
	wantWordText(t, impl.Word{Kind: 3, Who: "#2#b", Groups: []string{"b", "a"}[:0]}, "\x03\x04#2#b\x00\x00", true)
	words := []impl.Word{goneWord("#1#a"), goneWord("#2#b")}
	wantFoldAll(t, x, words[:1], tableOf(groupOf("a", "#2#b")))
	if members[2] != "x" || groups[2].Name != "" || len(groups[2].Members) != 4 {
		t.Errorf("the spare room became %q, %v", members, groups)
	}
}

func TestGroupsKeepNothing(t *testing.T) {
	x := tableOf(groupOf("a", "#1#a"), groupOf("b", "#1#a", "#2#b"))
	first, _ := impl.ReadWord(wordByHand(fewWords()[4]))
	for range 3 {
		wantFold(t, x, goneWord("#1#a"), tableOf(groupOf("b", "#2#b")), true, "#1#a", "#2#b")
		wantNotFolded(t, x, joinWord("#1#a", "a"))
		wantFold(t, x, joinWord("#9#z", "c"), tableOf(groupOf("a", "#1#a"), groupOf("b", "#1#a", "#2#b"), groupOf("c", "#9#z")), true, "#9#z")
		wantNotFolded(t, x, leaveWord("#9#z", "c"))
		wantKeep(t, x, []int{2}, tableOf(groupOf("b", "#2#b")))
		wantMerge(t, x, tableOf(groupOf("c", "#3#c")), tableOf(groupOf("a", "#1#a"), groupOf("b", "#1#a", "#2#b"), groupOf("c", "#3#c")))
		wantMerge(t, impl.Table{}, impl.Table{}, impl.Table{})
		wantFoldAll(t, impl.Table{}, []impl.Word{joinWord("#1#a", "a")}, tableOf(groupOf("a", "#1#a")))
		wantMembers(t, x, "b", "#1#a", "#2#b")
		impl.MembersOf(x, "b")[0] = "other"
		kept := impl.Keep(x, []int{1})
		kept.Groups[0].Members[0] = "other"
		wantNoWord(t, "a wrong text", "\x01\x04#1#a\x00\x00")
		wantWordComesBack(t, fewWords()[4])
		next, _ := impl.ReadWord(wordByHand(fewWords()[4]))
		next.Groups[0] = "other"
	}
	if !sameWord(first, fewWords()[4]) {
		t.Errorf("the first word became %s", shownWord(first))
	}
}
