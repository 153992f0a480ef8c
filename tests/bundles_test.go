package tests

import (
	"fmt"
	"math"
	"slices"
	"strings"
	"testing"

	"loop.example/g00183/impl"
)

func bundleRightByHand(b impl.Bundle) bool {
	if !slices.Contains(upTo(5), b.From) || !slices.Contains(upTo(9), b.New) || !slices.Contains(fromTo(0, b.New-1), b.Old) {
		return false
	}
	if b.Old == 0 {
		return len(b.Items) == 0
	}
	return itemsRightByHand(b.Items)
}

// bareBundleByHand writes a bundle whether it is right or not, without its sum.
func bareBundleByHand(b impl.Bundle) string {
	text := string([]byte{byte(b.From), byte(b.New), byte(b.Old)}) + varByHand(len(b.Items))
	for _, m := range b.Items {
		text += varByHand(len(itemByHand(m))) + itemByHand(m)
	}
	return text
}

func bundleByHand(b impl.Bundle) string { return sealedByHand(bareBundleByHand(b)) }

// readBundleByHand leans on this: in a right bundle every number has one byte, so there is one bundle alone to be tried.
func readBundleByHand(text string) (impl.Bundle, bool) {
	if len(text) < 8 {
		return impl.Bundle{}, false
	}
	b := impl.Bundle{From: int(text[0]), New: int(text[1]), Old: int(text[2])}
	for rest := text[4 : len(text)-4]; rest != ""; {
		behind := 1 + int(rest[0])
		if behind > len(rest) {
			return impl.Bundle{}, false
		}
		m, ok := readItemByHand(rest[1:behind])
		if !ok {
			return impl.Bundle{}, false
		}
		b.Items, rest = append(b.Items, m), rest[behind:]
	}
	if !bundleRightByHand(b) || bundleByHand(b) != text {
		return impl.Bundle{}, false
	}
	return b, true
}

// firstsByHand goes through the list from its end, so that of each the first one stays.
func firstsByHand(r impl.Ring, list []impl.Bundle) map[int]impl.Bundle {
	firsts := map[int]impl.Bundle{}
	for _, b := range slices.Backward(list) {
		if b.New == r.Id {
			firsts[b.From] = b
		}
	}
	return firsts
}

func allHereByHand(r impl.Ring, list []impl.Bundle) bool {
	here := firstsByHand(r, slices.DeleteFunc(slices.Clone(list), func(b impl.Bundle) bool { return !bundleRightByHand(b) }))
	for _, d := range r.Members {
		if _, there := here[d]; !there {
			return false
		}
	}
	return true
}

func togetherByHand(r impl.Ring, list []impl.Bundle, id int) []int {
	firsts := firstsByHand(r, list)
	own, there := firsts[id]
	if !there {
		return nil
	}
	var with []int
	for d, b := range firsts {
		if (d == id || b.Old > 0 && b.Old == own.Old) && slices.Contains(r.Members, d) {
			with = append(with, d)
		}
	}
	slices.Sort(with)
	return with
}

func restByHand(r impl.Ring, list []impl.Bundle, id, heard int) []impl.Item {
	firsts := firstsByHand(r, list)
	if firsts[id].Old == 0 {
		return nil
	}
	var lists [][]impl.Item
	for _, d := range togetherByHand(r, list, id) {
		lists = append(lists, firsts[d].Items)
	}
	return slices.DeleteFunc(wholeByHand(unionByHand(lists)), func(m impl.Item) bool { return m.Seq <= heard })
}

func sameBundle(a, b impl.Bundle) bool {
	return a.From == b.From && a.New == b.New && a.Old == b.Old && slices.Equal(a.Items, b.Items)
}

func shownBundle(b impl.Bundle) string {
	return fmt.Sprintf("{%d %d %d %.300s}", b.From, b.New, b.Old, shownItems(b.Items))
}

func shownBundles(list []impl.Bundle) string {
	var told []string
	for _, b := range list[:min(len(list), 12)] {
		told = append(told, shownBundle(b))
	}
	return fmt.Sprintf("%d of [%s]", len(list), strings.Join(told, " "))
}

func shownRing(r impl.Ring) string { return fmt.Sprintf("%.60s", fmt.Sprint(r)) }

func wantBundleOk(t *testing.T, b impl.Bundle, want bool) {
	t.Helper()
	if got := impl.BundleOk(b); got != want {
		t.Errorf("BundleOk(%s): %t; want %t", shownBundle(b), got, want)
	}
}

func wantBundleText(t *testing.T, b impl.Bundle, want string, wantOk bool) {
	t.Helper()
	got, ok := impl.BundleText(b)
	wantText(t, fmt.Sprintf("BundleText(%s)", shownBundle(b)), got, ok, want, wantOk)
}

func wantBundle(t *testing.T, call, text string, want impl.Bundle, wantOk bool) {
	t.Helper()
	got, ok := impl.ReadBundle(text)
	if !sameBundle(got, want) || ok != wantOk {
		t.Errorf("ReadBundle of %s, %.80q: %s, %t; want %s, %t", call, text, shownBundle(got), ok, shownBundle(want), wantOk)
	}
}

func wantNoBundle(t *testing.T, call, text string) {
	t.Helper()
	wantBundle(t, call, text, impl.Bundle{}, false)
}

// wantBundleAsByHand tells whether it was a bundle, so that who asks can see to it that there were some.
func wantBundleAsByHand(t *testing.T, call, text string) bool {
	t.Helper()
	want, ok := readBundleByHand(text)
	wantBundle(t, call, text, want, ok)
	return ok
}

func wantAllHere(t *testing.T, r impl.Ring, list []impl.Bundle, want bool) {
	t.Helper()
	if got := impl.AllHere(r, list); got != want {
		t.Errorf("AllHere(%s, %s): %t; want %t", shownRing(r), shownBundles(list), got, want)
	}
}

func wantTogether(t *testing.T, r impl.Ring, list []impl.Bundle, id int, want ...int) {
	t.Helper()
	if got := impl.TogetherWith(r, list, id); !slices.Equal(got, want) {
		t.Errorf("TogetherWith(%s, %s, %d): %v; want %v", shownRing(r), shownBundles(list), id, got, want)
	}
}

func wantRest(t *testing.T, r impl.Ring, list []impl.Bundle, id, heard int, want ...impl.Item) {
	t.Helper()
	if got := impl.Rest(r, list, id, heard); !slices.Equal(got, want) {
		t.Errorf("Rest(%s, %s, %d, %d): %s; want %s", shownRing(r), shownBundles(list), id, heard, shownItems(got), shownItems(want))
	}
}

// wantPartsAsByHand holds all that is told of a ring and a list of bundles.
func wantPartsAsByHand(t *testing.T, r impl.Ring, list []impl.Bundle, ids, heards []int) {
	t.Helper()
	wantAllHere(t, r, list, allHereByHand(r, list))
	for _, id := range ids {
		wantTogether(t, r, list, id, togetherByHand(r, list, id)...)
		for _, heard := range heards {
			wantRest(t, r, list, id, heard, restByHand(r, list, id, heard)...)
		}
	}
}

// wantPromiseOfParts is the second half of promise 13, by the program's own functions.
// It tells how many go on with somebody else, so that who asks can see to it that there were some.
func wantPromiseOfParts(t *testing.T, r impl.Ring, list []impl.Bundle) int {
	t.Helper()
	most := 0
	for _, id := range r.Members {
		with := impl.TogetherWith(r, list, id)
		if _, there := firstsByHand(r, list)[id]; slices.Contains(with, id) != there {
			t.Errorf("TogetherWith(%s, %s, %d): %v; that it has a bundle is %t", shownRing(r), shownBundles(list), id, with, there)
		}
		most = max(most, len(with))
		whole := impl.Rest(r, list, id, 0)
		if !slices.Equal(seqsOf(whole), upTo(len(whole))) {
			t.Errorf("Rest(%s, %s, %d, 0) has the numbers %v", shownRing(r), shownBundles(list), id, seqsOf(whole))
		}
		for _, other := range with {
			wantTogether(t, r, list, other, with...)
			for heard := range len(whole) + 2 {
				wantRest(t, r, list, other, heard, whole[min(heard, len(whole)):]...)
			}
		}
	}
	return most
}

// bundleOf is for a ring with the Id 4.
func bundleOf(from, old int, seqs ...int) impl.Bundle {
	return impl.Bundle{From: from, New: 4, Old: old, Items: itemsOf(seqs...)}
}

func ringOf(members ...int) impl.Ring { return impl.Ring{Id: 4, Members: members} }

// everyHead hands on the From, New and Old of all bundles that may be right.
func everyHead(hand func(b impl.Bundle)) {
	for from := 1; from <= 5; from++ {
		for conf := 1; conf <= 9; conf++ {
			for old := range conf {
				hand(impl.Bundle{From: from, New: conf, Old: old})
			}
		}
	}
}

// fullItems are as many as there may be, with texts as long as they may be.
func fullItems() []impl.Item {
	list := itemsOf(upTo(60)...)
	for i := range list {
		list[i].Text = longText(60 + i)[i:]
	}
	return list
}

func fullBundle() impl.Bundle { return impl.Bundle{From: 5, New: 9, Old: 8, Items: fullItems()} }

// someBundles are few enough to have every byte of them tried.
func someBundles() []impl.Bundle {
	return []impl.Bundle{
		{From: 1, New: 1}, {From: 5, New: 9}, {From: 2, New: 9, Old: 8}, {From: 1, New: 2, Old: 1, Items: []impl.Item{{Seq: 1, From: 1, Level: 1}}},
		{From: 3, New: 4, Old: 2, Items: []impl.Item{{Seq: 2, From: 5, Level: 2, Text: "a"}, {Seq: 60, From: 1, Level: 1, Text: "hi"}}},
		{From: 4, New: 9, Old: 1, Items: []impl.Item{{Seq: 1, From: 4, Level: 1, Text: "\x04\x02\x01\x01\x00"}, {Seq: 2, From: 1, Level: 2}, {Seq: 3, From: 1, Level: 1, Text: longText(60)}}},
	}
}

// wrongBundles are right but for one thing each.
func wrongBundles() []impl.Bundle {
	list := []impl.Bundle{{}}
	for _, n := range append(numbersBeside(), 6, 7) {
		list = append(list, impl.Bundle{From: n, New: 5, Old: 2, Items: itemsOf(1, 3)}, impl.Bundle{From: n, New: 5})
	}
	for _, n := range append(numbersBeside(), 10, 11) {
		list = append(list, impl.Bundle{From: 3, New: n, Old: 2, Items: itemsOf(1, 3)}, impl.Bundle{From: 3, New: n})
		if n != 0 {
			list = append(list, impl.Bundle{From: 3, New: 5, Old: n, Items: itemsOf(1, 3)}, impl.Bundle{From: 3, New: 5, Old: n})
		}
	}
	for conf := 1; conf <= 9; conf++ {
		for _, old := range []int{-1, conf, conf + 1} {
			list = append(list, impl.Bundle{From: 3, New: conf, Old: old}, impl.Bundle{From: 3, New: conf, Old: old, Items: itemsOf(1)})
		}
		list = append(list, impl.Bundle{From: 3, New: conf, Items: itemsOf(1)}, impl.Bundle{From: 3, New: conf, Items: itemsOf(upTo(60)...)})
	}
	for _, items := range wrongStores() {
		list = append(list, impl.Bundle{From: 3, New: 5, Old: 2, Items: items}, impl.Bundle{From: 3, New: 5, Items: items})
	}
	return list
}

func TestBundleOkFrom(t *testing.T) {
	for from := 1; from <= 5; from++ {
		wantBundleOk(t, impl.Bundle{From: from, New: 5, Old: 2, Items: itemsOf(1, 3)}, true)
		wantBundleOk(t, impl.Bundle{From: from, New: 5}, true)
	}
	for _, from := range []int{0, 6, -1, math.MinInt, math.MaxInt} {
		wantBundleOk(t, impl.Bundle{From: from, New: 5, Old: 2, Items: itemsOf(1, 3)}, false)
		wantBundleOk(t, impl.Bundle{From: from, New: 5}, false)
	}
}

func TestBundleOkNewAndOld(t *testing.T) {
	for conf := 1; conf <= 9; conf++ {
		wantBundleOk(t, impl.Bundle{From: 3, New: conf}, true)
		wantBundleOk(t, impl.Bundle{From: 3, New: conf, Items: itemsOf(1)}, false)
		wantBundleOk(t, impl.Bundle{From: 3, New: conf, Old: conf - 1}, true)
		wantBundleOk(t, impl.Bundle{From: 3, New: conf, Old: conf - 1, Items: itemsOf(1)}, conf > 1)
		for _, old := range []int{-1, conf, conf + 1, math.MinInt, math.MaxInt} {
			wantBundleOk(t, impl.Bundle{From: 3, New: conf, Old: old}, false)
			wantBundleOk(t, impl.Bundle{From: 3, New: conf, Old: old, Items: itemsOf(1)}, false)
		}
	}
	for _, conf := range []int{0, 10, -1, math.MinInt, math.MaxInt} {
		// conf-1 wraps round at the least int.
		for _, old := range []int{-1, 0, 1, 9, conf - 1, conf, math.MinInt, math.MaxInt} {
			wantBundleOk(t, impl.Bundle{From: 3, New: conf, Old: old}, false)
			wantBundleOk(t, impl.Bundle{From: 3, New: conf, Old: old, Items: itemsOf(1)}, false)
		}
	}
	wantBundleOk(t, impl.Bundle{}, false)
}

func TestBundleOkItems(t *testing.T) {
	for _, items := range rightStores() {
		wantBundleOk(t, impl.Bundle{From: 3, New: 5, Old: 2, Items: items}, true)
		wantBundleOk(t, impl.Bundle{From: 3, New: 2, Old: 1, Items: items}, true)
		wantBundleOk(t, impl.Bundle{From: 3, New: 5, Items: items}, len(items) == 0)
	}
	wantBundleOk(t, fullBundle(), true)
	for _, items := range wrongStores() {
		wantBundleOk(t, impl.Bundle{From: 3, New: 5, Old: 2, Items: items}, false)
		wantBundleOk(t, impl.Bundle{From: 3, New: 5, Items: items}, false)
	}
}

func TestBundleOkAround(t *testing.T) {
	for _, from := range append(numbersBeside(), 1, 3, 5, 6) {
		for _, conf := range append(numbersBeside(), 1, 2, 8, 9, 10) {
			for _, old := range append(numbersBeside(), 1, 2, 7, 8, 9, conf-1, conf) {
				for _, items := range [][]impl.Item{nil, {}, itemsOf(1), itemsOf(2, 60), itemsOf(2, 2), itemsOf(2, 1), itemsOf(61)} {
					b := impl.Bundle{From: from, New: conf, Old: old, Items: items}
					wantBundleOk(t, b, bundleRightByHand(b))
				}
			}
		}
	}
	everyHead(func(b impl.Bundle) { wantBundleOk(t, b, true) })
	for _, b := range wrongBundles() {
		wantBundleOk(t, b, false)
	}
}

// Written out as bytes with their sums, so that the reckoning the other tests lean on is itself held to something.
func TestBundleTextKnown(t *testing.T) {
	sixty := strings.Repeat("\xff\x00z", 20)
	for _, c := range []struct {
		bundle impl.Bundle
		want   string
	}{
		{impl.Bundle{From: 1, New: 1}, "\x01\x01\x00\x00\xd1\x87\xf7\xb8"},
		{impl.Bundle{From: 5, New: 9, Old: 8}, "\x05\x09\x08\x00\x1d\x53\x93\xda"},
		{impl.Bundle{From: 1, New: 2, Old: 1, Items: []impl.Item{{Seq: 1, From: 1, Level: 1}}}, "\x01\x02\x01\x01\x04\x01\x01\x01\x00\x41\x5c\x39\xd8"},
		{
			impl.Bundle{From: 2, New: 9, Old: 8, Items: []impl.Item{{Seq: 1, From: 5, Level: 2, Text: "a"}, {Seq: 60, From: 1, Level: 1, Text: "hi"}}},
			"\x02\x09\x08\x02\x05\x01\x05\x02\x01a\x06\x3c\x01\x01\x02hi\x48\xcc\x66\x51",
		},
		{impl.Bundle{From: 3, New: 2, Old: 1, Items: []impl.Item{{Seq: 60, From: 5, Level: 2, Text: sixty}}}, "\x03\x02\x01\x01\x40\x3c\x05\x02\x3c" + sixty + "\xb3\x42\x64\x3b"},
	} {
		wantBundleText(t, c.bundle, c.want, true)
		wantBundle(t, "known bytes", c.want, c.bundle, true)
		wantBundleAsByHand(t, "known bytes", c.want)
	}
}

// wantComesBack is the first half of promise 13, of one bundle.
func wantComesBack(t *testing.T, b impl.Bundle) {
	t.Helper()
	text := bundleByHand(b)
	wantBundleText(t, b, text, true)
	wantBundle(t, "a right bundle", text, b, true)
	if !wantBundleAsByHand(t, "a right bundle", text) {
		t.Errorf("the bundle %s is not read by hand", shownBundle(b))
	}
}

func TestBundlesComeBack(t *testing.T) {
	stores := rightStores()
	everyHead(func(b impl.Bundle) {
		wantComesBack(t, b)
		if b.Old == 0 {
			return
		}
		for i := range 8 {
			b.Items = stores[(b.From*31+b.New*7+b.Old+i*13)%len(stores)]
			wantComesBack(t, b)
		}
	})
	for _, items := range append(stores, fullItems()) {
		wantComesBack(t, impl.Bundle{From: 3, New: 5, Old: 2, Items: items})
	}
	for i, m := range rightItems() {
		wantComesBack(t, impl.Bundle{From: 1 + i%5, New: 9, Old: 1 + i%8, Items: []impl.Item{m}})
	}
}

func TestDrawnBundlesComeBack(t *testing.T) {
	l := &lot{13}
	texts := frameTexts()
	for range 3000 {
		b := impl.Bundle{From: 1 + l.below(5), New: 2 + l.below(8)}
		b.Old = 1 + l.below(b.New-1)
		order := shuffled(l, upTo(60))[:l.below(61)]
		for _, seq := range slices.Sorted(slices.Values(order)) {
			b.Items = append(b.Items, impl.Item{Seq: seq, From: 1 + l.below(5), Level: 1 + l.below(2), Text: texts[l.below(len(texts))]})
		}
		wantComesBack(t, b)
	}
}

// No right bundle is longer than this one, and its bytes are far fewer than MaxText: none is refused for its length.
func TestLongestBundle(t *testing.T) {
	b := fullBundle()
	wantComesBack(t, b)
	text, ok := impl.BundleText(b)
	if want := 3 + 1 + 60*(1+1+1+1+1+60) + 4; len(text) != want || !ok || want > impl.MaxText {
		t.Errorf("the longest bundle has %d bytes, %t; want %d", len(text), ok, want)
	}
}

func TestBundleTextRefuses(t *testing.T) {
	for _, b := range wrongBundles() {
		wantBundleText(t, b, "", false)
	}
	long := fullBundle()
	long.Items = append(long.Items, itemOf(61))
	wantBundleText(t, long, "", false)
	for _, size := range []int{61, 62, 256 + 60, impl.MaxText, impl.MaxText + 1} {
		for _, place := range []int{0, 30, 59} {
			b := fullBundle()
			b.Items[place].Text = longText(size)
			wantBundleText(t, b, "", false)
		}
	}
	b := fullBundle()
	for i := range b.Items {
		b.Items[i].Text = longText(400)
	}
	wantBundleText(t, b, "", false)
}

func TestReadBundleOfOtherLengths(t *testing.T) {
	wantNoBundle(t, "nothing", "")
	wantNoBundle(t, "nothing, sealed", sealedByHand(""))
	wantNoBundle(t, "too much, sealed", sealedByHand(longText(impl.MaxText)))
	wantNoBundle(t, "more than can be sealed", sealedByHand(longText(impl.MaxText+1)))
	for _, b := range someBundles() {
		bare := bareBundleByHand(b)
		text := sealedByHand(bare)
		for size := range len(text) {
			wantNoBundle(t, "a beginning", text[:size])
			wantNoBundle(t, "an end", text[size+1:])
			wantNoBundle(t, "a byte left off", text[:size]+text[size+1:])
		}
		for size := range len(bare) {
			wantNoBundle(t, "a beginning, sealed", sealedByHand(bare[:size]))
			wantBundleAsByHand(t, "an end, sealed", sealedByHand(bare[size+1:]))
			wantBundleAsByHand(t, "a byte left off, sealed", sealedByHand(bare[:size]+bare[size+1:]))
		}
		for c := range 256 {
			one := string([]byte{byte(c)})
			wantNoBundle(t, "a bundle and a byte", text+one)
			wantNoBundle(t, "a byte and a bundle", one+text)
			wantNoBundle(t, "a bundle and a byte, sealed", sealedByHand(bare+one))
			wantBundleAsByHand(t, "a byte and a bundle, sealed", sealedByHand(one+bare))
			for size := range len(bare) {
				wantBundleAsByHand(t, "a byte put in, sealed", sealedByHand(bare[:size]+one+bare[size:]))
			}
		}
		wantNoBundle(t, "a bundle that is not sealed", bare)
		wantNoBundle(t, "a bundle that is sealed twice", sealedByHand(text))
		wantNoBundle(t, "a bundle twice", text+text)
		wantNoBundle(t, "a bundle twice, sealed", sealedByHand(bare+bare))
		wantNoBundle(t, "a bundle and much more, sealed", sealedByHand(bare+longText(impl.MaxText-len(bare))))
		wantNoBundle(t, "a bundle and too much more, sealed", sealedByHand(bare+longText(impl.MaxText+1-len(bare))))
	}
}

func TestReadBundleTurned(t *testing.T) {
	read := 0
	for _, b := range someBundles() {
		bare := bareBundleByHand(b)
		text := sealedByHand(bare)
		for turn := 1; turn < 256; turn++ {
			for place := range len(text) {
				wantNoBundle(t, fmt.Sprintf("a bundle turned by %d at %d", turn, place), turned(text, place, turn))
			}
			for place := range len(bare) {
				if wantBundleAsByHand(t, fmt.Sprintf("a bundle turned by %d at %d, sealed", turn, place), sealedByHand(turned(bare, place, turn))) {
					read++
				}
			}
		}
	}
	if read < 1000 {
		t.Errorf("only %d of the turned ones were bundles", read)
	}
	text := bundleByHand(fullBundle())
	for place := range len(text) {
		for _, turn := range []int{1, 128, 255} {
			wantNoBundle(t, "the longest bundle turned", turned(text, place, turn))
		}
	}
}

func TestReadBundleOfLongerNumbers(t *testing.T) {
	longer := func(n int) []string {
		return []string{longerVar(n), turned(longerVar(n), 1, 128) + "\x00", longerVar(n)[:1] + "\x80\x80\x80\x80\x80\x80\x80\x00"}
	}
	for _, b := range someBundles() {
		head, items := bareBundleByHand(impl.Bundle{From: b.From, New: b.New, Old: b.Old})[:3], bareBundleByHand(b)[4:]
		wantBundle(t, "no longer number", sealedByHand(head+varByHand(len(b.Items))+items), b, true)
		for _, count := range longer(len(b.Items)) {
			wantNoBundle(t, "a longer number of Items", sealedByHand(head+count+items))
		}
	}
	for _, m := range someItems() {
		item := itemByHand(m)
		b := impl.Bundle{From: 1, New: 3, Old: 2, Items: []impl.Item{m}}
		ofItem := func(size, item string) string { return sealedByHand("\x01\x03\x02\x01" + size + item) }
		wantBundle(t, "no longer number", ofItem(varByHand(len(item)), item), b, true)
		for _, size := range longer(len(item)) {
			wantNoBundle(t, "a longer number of an item's bytes", ofItem(size, item))
		}
		for _, seq := range longer(m.Seq) {
			wantNoBundle(t, "a longer Seq", ofItem(varByHand(len(item)-1+len(seq)), seq+item[1:]))
		}
		for _, size := range longer(len(m.Text)) {
			wantNoBundle(t, "a longer number of a text's bytes", ofItem(varByHand(len(item)-1+len(size)), item[:3]+size+m.Text))
		}
	}
	for place, one := range []string{"\x81\x00", "\x83\x00", "\x82\x00"} {
		parts := []string{"\x01", "\x03", "\x02"}
		parts[place] = one
		wantNoBundle(t, "a longer number where one byte stands", sealedByHand(strings.Join(parts, "")+"\x00"))
	}
}

func TestReadBundleOfNoItem(t *testing.T) {
	right := itemByHand(itemOf(2))
	with := func(texts ...string) string {
		text := "\x01\x03\x02" + varByHand(len(texts))
		for _, s := range texts {
			text += varByHand(len(s)) + s
		}
		return sealedByHand(text)
	}
	wantBundle(t, "an item", with(right), impl.Bundle{From: 1, New: 3, Old: 2, Items: itemsOf(2)}, true)
	for _, wrong := range []string{
		"", "\x01", "\x01\x01\x01", "\x00\x00\x00\x00", "\x00\x01\x01\x00", "\x3d\x01\x01\x00", "\x01\x00\x01\x00", "\x01\x06\x01\x00", "\x01\x01\x00\x00", "\x01\x01\x03\x00",
		"\x01\x01\x01\x01", "\x01\x01\x01\x00x", "\x01\x01\x01\x3d" + longText(61), right[1:], right[:len(right)-1], right + "x", right + right, "hi", longText(127), longText(128), longText(400), longText(impl.MaxText - 10),
	} {
		wantNoBundle(t, "what is no item alone", with(wrong))
		wantNoBundle(t, "what is no item ahead of one", with(wrong, right))
		wantNoBundle(t, "what is no item behind one", with(right, wrong))
	}
	// Each of them is an item, but they are no right list.
	for _, items := range wrongStores() {
		b := impl.Bundle{From: 1, New: 3, Old: 2, Items: items}
		wantBundleAsByHand(t, "a wrong list", bundleByHand(b))
	}
	wantNoBundle(t, "an item twice", with(right, right))
	wantNoBundle(t, "items that descend", with(right, itemByHand(itemOf(1))))
}

func TestReadBundleOfOtherCounts(t *testing.T) {
	const ahead = "\x01\x03\x02"
	itemsText := func(count int) string {
		return bareBundleByHand(impl.Bundle{Items: itemsOf(upTo(count)...)})[len(ahead)+len(varByHand(count)):]
	}
	for told := range 64 {
		for count := range 64 {
			text := sealedByHand(ahead + varByHand(told) + itemsText(count))
			if told != count || told > 60 {
				wantNoBundle(t, fmt.Sprintf("%d Items told of %d", told, count), text)
				continue
			}
			wantBundle(t, fmt.Sprintf("%d Items", told), text, impl.Bundle{From: 1, New: 3, Old: 2, Items: itemsOf(upTo(told)...)}, true)
		}
	}
	for _, told := range []int{127, 128, 188, 255, 256, 316, impl.MaxText, 999999999, 1000000000, 1000000001, 1 << 32, 1<<32 + 1, math.MaxInt} {
		for _, count := range []int{0, 1, 59, 60, 61, told % 128} {
			wantNoBundle(t, fmt.Sprintf("%d Items told of %d", told, count), sealedByHand(ahead+varByHand(told)+itemsText(count)))
		}
	}
	wantNoBundle(t, "a count without an end", sealedByHand(ahead+strings.Repeat("\xff", 100)))
	wantNoBundle(t, "a size without an end", sealedByHand(ahead+"\x01"+strings.Repeat("\x80", 100)))
	many := strings.Repeat("\x00", impl.MaxText-len(ahead)-3)
	wantNoBundle(t, "as many texts as can be sealed", sealedByHand(ahead+varByHand(len(many))+many))
	same := strings.Repeat("\x04\x01\x01\x01\x00", 3999)
	wantNoBundle(t, "as many items as can be sealed", sealedByHand(ahead+varByHand(3999)+same))
}

func TestReadBundleOfWrongBundles(t *testing.T) {
	for _, b := range wrongBundles() {
		wantBundleAsByHand(t, shownBundle(b), bundleByHand(b))
		// A number that is cut to a byte may be a right one there.
		cut := min(b.From, b.New, b.Old) < 0 || max(b.From, b.New, b.Old) > 255
		if !cut && !slices.ContainsFunc(b.Items, func(m impl.Item) bool { return !itemRightByHand(m) }) {
			wantNoBundle(t, shownBundle(b), bundleByHand(b))
		}
	}
	for c := range 256 {
		for _, items := range [][]impl.Item{nil, itemsOf(1, 3)} {
			for _, b := range []impl.Bundle{{From: c, New: 5, Old: 2, Items: items}, {From: 3, New: c, Old: 2, Items: items}, {From: 3, New: 5, Old: c, Items: items}, {From: 3, New: c, Items: items}} {
				if wantBundleAsByHand(t, "any number", bundleByHand(b)) != bundleRightByHand(b) {
					t.Errorf("the bundle %s is not read by hand", shownBundle(b))
				}
			}
		}
	}
	wantNoBundle(t, "zeros", sealedByHand("\x00\x00\x00\x00"))
}

func TestReadBundleOfEveryShortText(t *testing.T) {
	bundles := 0
	for size := range 10 {
		letters := "\x00\x01\x02\x04\x80"
		if size == 9 {
			letters = "\x00\x01\x02\x04"
		}
		everyText(size, letters, func(text string) {
			if size > 4 && text[3] != 1 {
				return
			}
			if wantBundleAsByHand(t, "a short text, sealed", sealedByHand(text)) {
				bundles++
			}
		})
	}
	// Old below New: 0 of each, 1 of 2 and 4, 2 of 4; From 1, 2 and 4; and of an item, with Old above 0: Seq and From in 1, 2, 4, two levels.
	if want := 3*(3+2+1) + 3*(2+1)*3*3*2; bundles != want {
		t.Errorf("%d short texts are bundles; want %d", bundles, want)
	}
}

func TestAllHereKnown(t *testing.T) {
	r := ringOf(1, 3)
	one, three := bundleOf(1, 2, 1), bundleOf(3, 0)
	other := bundleOf(3, 2)
	other.New = 5
	wrong := bundleOf(3, 2, 2, 1)
	for _, c := range []struct {
		list []impl.Bundle
		want bool
	}{
		{nil, false}, {[]impl.Bundle{}, false},
		{[]impl.Bundle{one}, false}, {[]impl.Bundle{three}, false}, {[]impl.Bundle{one, three}, true}, {[]impl.Bundle{three, one}, true},
		{[]impl.Bundle{one, one}, false}, {[]impl.Bundle{three, three}, false}, {[]impl.Bundle{one, one, three, three}, true},
		{[]impl.Bundle{one, other}, false}, {[]impl.Bundle{one, other, three}, true}, {[]impl.Bundle{one, three, other}, true},
		{[]impl.Bundle{one, wrong}, false}, {[]impl.Bundle{one, wrong, three}, true}, {[]impl.Bundle{one, three, wrong}, true},
		{[]impl.Bundle{one, bundleOf(2, 1)}, false}, {[]impl.Bundle{one, bundleOf(2, 1), three}, true}, {[]impl.Bundle{one, bundleOf(2, 1), bundleOf(4, 1), bundleOf(5, 1)}, false},
		{[]impl.Bundle{{}, one, {}, three, {}}, true}, {[]impl.Bundle{{}, {}}, false},
	} {
		wantAllHere(t, r, c.list, c.want)
		wantAllHere(t, r, c.list, allHereByHand(r, c.list))
	}
	wantAllHere(t, ringOf(1), []impl.Bundle{one}, true)
	wantAllHere(t, ringOf(1), []impl.Bundle{three}, false)
	wantAllHere(t, ringOf(1), nil, false)
	wantAllHere(t, ringOf(3), []impl.Bundle{one, three}, true)
	wantAllHere(t, ringOf(1, 2, 3), []impl.Bundle{one, three}, false)
}

// bundlesFor are a right bundle of each member of a ring; it is one with many Olds.
func bundlesFor(r impl.Ring) []impl.Bundle {
	var list []impl.Bundle
	for _, d := range r.Members {
		b := impl.Bundle{From: d, New: r.Id, Old: (d * 7) % r.Id}
		if b.Old > 0 {
			b.Items = itemsOf(d, d+1, d+6)
		}
		list = append(list, b)
	}
	return list
}

func TestAllHereOfEveryRing(t *testing.T) {
	for _, r := range rightRings() {
		all := bundlesFor(r)
		wantAllHere(t, r, all, true)
		wantAllHere(t, r, nil, false)
		places := fromTo(0, len(all)-1)
		everyOrder(places, func(order []int) {
			var list []impl.Bundle
			for _, place := range order {
				wantAllHere(t, r, list, false)
				list = append(list, all[place])
			}
			wantAllHere(t, r, list, true)
		})
		for place := range all {
			for _, wrong := range []impl.Bundle{
				{}, {From: all[place].From, New: r.Id - 1}, {From: all[place].From, New: r.Id + 1}, {From: all[place].From, New: r.Id, Items: itemsOf(1)},
				{From: all[place].From, New: r.Id, Old: r.Id}, {From: all[place].From, New: r.Id, Old: -1}, {From: all[place].From, New: r.Id, Old: r.Id - 1, Items: itemsOf(1, 1)},
				{From: 0, New: r.Id}, {From: 6, New: r.Id}, {From: math.MinInt, New: r.Id}, {From: all[place].From, New: math.MaxInt},
			} {
				list := slices.Clone(all)
				list[place] = wrong
				wantAllHere(t, r, list, false)
				wantAllHere(t, r, append(list, all[place]), true)
				wantAllHere(t, r, append(slices.Clone(all), wrong), true)
			}
		}
	}
}

// The chapter names no answer for a ring that is not right: what is said of its Members and its Id is held alone.
func TestAllHereOfWrongRings(t *testing.T) {
	all := []impl.Bundle{bundleOf(1, 2, 1), bundleOf(2, 1), bundleOf(3, 0), bundleOf(4, 3), bundleOf(5, 2, 1, 2)}
	for _, list := range [][]impl.Bundle{nil, all, all[:2], wrongBundles()} {
		for _, r := range wrongRings() {
			wantAllHere(t, r, list, allHereByHand(r, list))
		}
		for _, members := range wrongMembers() {
			r := ringOf(members...)
			wantAllHere(t, r, list, allHereByHand(r, list))
		}
	}
	wantAllHere(t, ringOf(2, 1), all, true)
	wantAllHere(t, ringOf(2, 2), all, true)
	wantAllHere(t, ringOf(2, 6), all, false)
	wantAllHere(t, ringOf(0), append(all, bundleOf(0, 1)), false)
	wantAllHere(t, impl.Ring{Id: 10, Members: []int{1}}, []impl.Bundle{{From: 1, New: 10}}, false)
	wantAllHere(t, ringOf(), nil, true)
}

func TestTogetherWithKnown(t *testing.T) {
	r := ringOf(1, 2, 3, 5)
	list := []impl.Bundle{bundleOf(5, 2), bundleOf(2, 1, 1), bundleOf(3, 2, 7), bundleOf(1, 2)}
	wantTogether(t, r, list, 1, 1, 3, 5)
	wantTogether(t, r, list, 3, 1, 3, 5)
	wantTogether(t, r, list, 5, 1, 3, 5)
	wantTogether(t, r, list, 2, 2)
	for _, id := range []int{0, 4, 6, -1, math.MinInt, math.MaxInt, 257, 1<<32 + 1} {
		wantTogether(t, r, list, id)
	}
	wantTogether(t, r, nil, 1)
	wantTogether(t, r, list[:2], 1)
	wantTogether(t, r, list[:3], 3, 3, 5)
	wantTogether(t, ringOf(3), list, 3, 3)
	wantTogether(t, impl.Ring{Id: 5, Members: r.Members}, list, 1)
}

// Who fell comes from no ring: it goes on with itself alone, whoever else is there.
func TestTogetherWithOfWhoFell(t *testing.T) {
	for id := 1; id <= 5; id++ {
		for conf := 1; conf <= 9; conf++ {
			alone := impl.Ring{Id: conf, Members: []int{id}}
			wantTogether(t, alone, []impl.Bundle{{From: id, New: conf}}, id, id)
		}
	}
	r := ringOf(1, 2, 3)
	beside := []impl.Bundle{bundleOf(1, 0), bundleOf(2, 1), bundleOf(3, 1)}
	wantTogether(t, r, beside, 1, 1)
	wantTogether(t, r, beside, 2, 2, 3)
	wantTogether(t, r, beside, 3, 2, 3)
	both := []impl.Bundle{bundleOf(1, 0), bundleOf(2, 3, 1), bundleOf(3, 0)}
	for id := 1; id <= 3; id++ {
		wantTogether(t, r, both, id, id)
		wantTogether(t, r, []impl.Bundle{bundleOf(1, 0), bundleOf(2, 0), bundleOf(3, 0)}, id, id)
	}
}

// Of two bundles of its own the first one counts, whichever of them tells of no ring.
func TestTogetherWithOfWhoFellAndTellsTwice(t *testing.T) {
	r := ringOf(1, 2)
	fallen := []impl.Bundle{bundleOf(1, 0), bundleOf(1, 2, 1), bundleOf(2, 2, 1)}
	wantTogether(t, r, fallen, 1, 1)
	wantTogether(t, r, fallen, 2, 2)
	wantRest(t, r, fallen, 1, 0)
	wantRest(t, r, fallen, 2, 0, itemOf(1))
	risen := []impl.Bundle{bundleOf(1, 2, 1), bundleOf(1, 0), bundleOf(2, 2)}
	wantTogether(t, r, risen, 1, 1, 2)
	wantTogether(t, r, risen, 2, 1, 2)
	wantRest(t, r, risen, 1, 0, itemOf(1))
	wantRest(t, r, risen, 2, 0, itemOf(1))
	wantTogether(t, ringOf(1), fallen, 1, 1)
	wantTogether(t, ringOf(1), risen, 1, 1)
}

// Without a bundle for the ring an Old is nothing, and not 0: nobody is told, not even id.
func TestTogetherWithOfWhoHasNoBundle(t *testing.T) {
	r := ringOf(1, 2, 3)
	for _, list := range [][]impl.Bundle{
		nil, {bundleOf(2, 0)}, {bundleOf(2, 0), bundleOf(3, 0)}, {bundleOf(2, 1), bundleOf(3, 1)},
		{{From: 1, New: 3}, bundleOf(2, 0)}, {{From: 1, New: 5}, bundleOf(3, 2)}, {{From: 1, New: 5, Old: 2}, bundleOf(3, 2)},
	} {
		wantTogether(t, r, list, 1)
		wantRest(t, r, list, 1, 0)
		wantTogether(t, ringOf(1), list, 1)
	}
	// Who is no member of the ring is none of those told, also when it has a bundle for it.
	wantTogether(t, ringOf(2, 3), []impl.Bundle{bundleOf(1, 0), bundleOf(2, 0), bundleOf(3, 1)}, 1)
}

// The Items beside an Old of 0 make a bundle that is not right: they are nothing to hear all the same.
func TestRestOfWhoFell(t *testing.T) {
	heards := append(fromTo(-2, 62), wildNumbers()...)
	for _, items := range [][]impl.Item{nil, itemsOf(1), itemsOf(1, 2, 3), itemsOf(upTo(60)...)} {
		own := impl.Bundle{From: 2, New: 4, Items: items}
		for _, list := range [][]impl.Bundle{{own}, {own, bundleOf(2, 3, 1)}, {bundleOf(1, 3, 1, 2), own, bundleOf(3, 3, 3)}, {bundleOf(1, 0), own, bundleOf(3, 0)}, {bundleOf(1, 0, 1), own, bundleOf(3, 0, 1, 2)}} {
			wantTogether(t, ringOf(1, 2, 3), list, 2, 2)
			for _, heard := range heards {
				wantRest(t, ringOf(2), list, 2, heard)
				wantRest(t, ringOf(1, 2, 3), list, 2, heard)
			}
		}
	}
	list := []impl.Bundle{bundleOf(1, 0), bundleOf(2, 3, 1), bundleOf(3, 0)}
	for id := range 5 {
		if id != 2 {
			wantRest(t, ringOf(1, 2, 3), list, id, 0)
		}
	}
	wantRest(t, ringOf(1, 2, 3), list, 2, 0, itemOf(1))
}

func TestTogetherWithTakesTheFirst(t *testing.T) {
	r := ringOf(1, 2)
	for _, c := range []struct {
		list []impl.Bundle
		one  []int
		two  []int
	}{
		{[]impl.Bundle{bundleOf(1, 2), bundleOf(1, 3), bundleOf(2, 2)}, []int{1, 2}, []int{1, 2}},
		{[]impl.Bundle{bundleOf(1, 3), bundleOf(1, 2), bundleOf(2, 2)}, []int{1}, []int{2}},
		{[]impl.Bundle{bundleOf(2, 2), bundleOf(2, 3), bundleOf(1, 2)}, []int{1, 2}, []int{1, 2}},
		{[]impl.Bundle{bundleOf(2, 3), bundleOf(2, 2), bundleOf(1, 2)}, []int{1}, []int{2}},
		{[]impl.Bundle{bundleOf(1, 0), bundleOf(1, 2), bundleOf(2, 2)}, []int{1}, []int{2}},
		{[]impl.Bundle{bundleOf(1, 2), bundleOf(1, 0), bundleOf(2, 2)}, []int{1, 2}, []int{1, 2}},
		{[]impl.Bundle{bundleOf(1, 2), bundleOf(1, 2), bundleOf(2, 2), bundleOf(2, 2)}, []int{1, 2}, []int{1, 2}},
		// One for another ring is not the first one for this one.
		{[]impl.Bundle{{From: 1, New: 5, Old: 3}, bundleOf(1, 2), {From: 2, New: 3, Old: 1}, bundleOf(2, 2)}, []int{1, 2}, []int{1, 2}},
		{[]impl.Bundle{{From: 1, New: 5, Old: 2}, bundleOf(2, 2)}, nil, []int{2}},
		// Somebody who is no member goes on with nobody of the ring.
		{[]impl.Bundle{bundleOf(3, 2), bundleOf(1, 2), bundleOf(5, 2)}, []int{1}, nil},
	} {
		wantTogether(t, r, c.list, 1, c.one...)
		wantTogether(t, r, c.list, 2, c.two...)
		wantPartsAsByHand(t, r, c.list, fromTo(0, 6), []int{0})
	}
}

// TogetherWith asks for no right bundle, as AllHere does: who has one for the ring, and what its Old is, is all that is said.
func TestTogetherWithOfWrongBundles(t *testing.T) {
	r := ringOf(1, 2)
	twice := bundleOf(1, 2, 1, 1)
	wantTogether(t, r, []impl.Bundle{twice, bundleOf(2, 2)}, 1, 1, 2)
	wantTogether(t, r, []impl.Bundle{twice, bundleOf(1, 3), bundleOf(2, 2)}, 2, 1, 2)
	for _, old := range []int{4, 5, 9, math.MaxInt} {
		wantTogether(t, r, []impl.Bundle{bundleOf(1, old), bundleOf(2, old)}, 1, 1, 2)
		wantTogether(t, r, []impl.Bundle{bundleOf(1, old), bundleOf(2, 2)}, 1, 1)
	}
	// An Old below 0 is nothing in common either; but Rest is nothing of an Old of 0 alone.
	for _, old := range []int{-1, -2, math.MinInt} {
		wantTogether(t, r, []impl.Bundle{bundleOf(1, old), bundleOf(2, old)}, 1, 1)
		wantRest(t, r, []impl.Bundle{bundleOf(1, old, 1), bundleOf(2, old, 1, 2)}, 1, 0, itemOf(1))
		wantRest(t, r, []impl.Bundle{bundleOf(1, old, 1), bundleOf(2, old, 1, 2)}, 1, 1)
	}
	wantRest(t, r, []impl.Bundle{bundleOf(1, 0, 1), bundleOf(2, 0, 1)}, 1, 0)
	wantRest(t, r, []impl.Bundle{twice, bundleOf(2, 2, 1)}, 1, 0, itemOf(1))
	wantRest(t, r, []impl.Bundle{twice, bundleOf(1, 2, 1, 2), bundleOf(2, 2, 1)}, 1, 0, itemOf(1))
	for _, wrong := range wrongStores() {
		list := []impl.Bundle{{From: 1, New: 4, Old: 2, Items: wrong}, bundleOf(2, 2, 1, 2)}
		wantRest(t, r, list, 1, 0, itemsOf(1, 2)...)
		wantPartsAsByHand(t, r, list, fromTo(0, 3), []int{0, 1})
	}
}

// Who is no member, and has a bundle for the ring all the same, is none of those who go on with it.
func TestTogetherWithOfNoMember(t *testing.T) {
	r := ringOf(1, 2)
	list := []impl.Bundle{bundleOf(3, 2, 2), bundleOf(2, 2, 1), bundleOf(1, 3, 1)}
	wantTogether(t, r, list, 3, 2)
	wantRest(t, r, list, 3, 0, itemOf(1))
	wantTogether(t, r, list, 2, 2)
	wantRest(t, r, list, 2, 0, itemOf(1))
	wantTogether(t, r, list[:1], 3)
	wantRest(t, r, list[:1], 3, 0)
}

// A ring that is not right may have its members in any order, and twice: what is answered ascends.
func TestTogetherWithAscends(t *testing.T) {
	list := []impl.Bundle{bundleOf(5, 2), bundleOf(2, 1, 1), bundleOf(3, 2, 7), bundleOf(1, 2)}
	everyOrder(fromTo(0, 3), func(order []int) {
		var turned []impl.Bundle
		for _, place := range order {
			turned = append(turned, list[place])
		}
		for _, members := range [][]int{{1, 2, 3, 5}, {5, 3, 2, 1}, {3, 1, 5}, {5, 5, 1, 3, 1}} {
			wantTogether(t, ringOf(members...), turned, 5, 1, 3, 5)
			wantTogether(t, ringOf(members...), turned, 1, 1, 3, 5)
		}
	})
	wantTogether(t, ringOf(), list, 1)
	wantTogether(t, ringOf(2), list, 1)
	wantTogether(t, impl.Ring{Members: []int{1}}, []impl.Bundle{{From: 1, Old: 2}}, 1, 1)
}

// Every way in which three may have come: without a bundle, or with one of few Olds, in every order.
func TestTogetherWithOfEveryFewOlds(t *testing.T) {
	rings := []impl.Ring{ringOf(1, 2, 3), ringOf(1, 3), ringOf(2), ringOf(1, 2, 3, 4, 5)}
	parted := map[int]int{}
	everyText(3, "\x00\x01\x02\x03\xff", func(olds string) {
		var list []impl.Bundle
		for i := range olds {
			if olds[i] < 4 {
				list = append(list, bundleOf(1+i, int(olds[i])))
			}
		}
		everyOrder(fromTo(0, len(list)-1), func(order []int) {
			var other []impl.Bundle
			for _, place := range order {
				other = append(other, list[place])
			}
			for _, r := range rings {
				wantPartsAsByHand(t, r, other, fromTo(0, 6), []int{0})
				parted[wantPromiseOfParts(t, r, other)]++
			}
		})
	})
	if parted[0] < 20 || parted[1] < 100 || parted[2] < 100 || parted[3] < 10 {
		t.Errorf("how many went on together, how often: %v", parted)
	}
}

func TestRestKnown(t *testing.T) {
	r := ringOf(1, 2, 3)
	list := []impl.Bundle{bundleOf(2, 2, 2, 5), bundleOf(1, 2, 1, 3), bundleOf(3, 1, 1, 4)}
	for _, id := range []int{1, 2} {
		for _, heard := range []int{math.MinInt, math.MinInt + 1, -1, 0} {
			wantRest(t, r, list, id, heard, itemsOf(1, 2, 3)...)
		}
		wantRest(t, r, list, id, 1, itemsOf(2, 3)...)
		wantRest(t, r, list, id, 2, itemsOf(3)...)
		for _, heard := range []int{3, 4, 5, 60, 61, math.MaxInt - 1, math.MaxInt} {
			wantRest(t, r, list, id, heard)
		}
	}
	wantRest(t, r, list, 3, 0, itemOf(1))
	wantRest(t, r, list, 3, -1, itemOf(1))
	wantRest(t, r, list, 3, 1)
	for _, id := range []int{0, 4, 5, -1, math.MinInt, math.MaxInt} {
		wantRest(t, r, list, id, 0)
	}
	wantRest(t, r, nil, 1, 0)
	wantRest(t, ringOf(2, 3), list, 2, 0)
	wantRest(t, ringOf(1), list, 1, 0, itemOf(1))
}

func TestRestOfAllNumbers(t *testing.T) {
	r := ringOf(1, 2)
	for hole := 1; hole <= 60; hole++ {
		alone := []impl.Bundle{{From: 1, New: 4, Old: 2, Items: storeWithout(hole)}}
		filled := append(slices.Clone(alone), bundleOf(2, 2, hole))
		for _, heard := range []int{math.MinInt, -1, 0, 1, hole - 1, hole, hole + 1, 59, 60, 61, math.MaxInt} {
			from := min(max(heard, 0), 60)
			wantRest(t, r, alone, 1, heard, itemsOf(fromTo(from+1, hole-1)...)...)
			wantRest(t, r, filled, 1, heard, itemsOf(fromTo(from+1, 60)...)...)
			wantRest(t, r, filled, 2, heard, itemsOf(fromTo(from+1, 60)...)...)
		}
	}
	full := []impl.Bundle{{From: 1, New: 4, Old: 3, Items: fullItems()}}
	wantRest(t, r, full, 1, 0, fullItems()...)
	wantRest(t, r, full, 1, 59, fullItems()[59])
	wantRest(t, r, full, 1, 60)
}

// Of two items with one number that of the lesser member counts, wherever its bundle stands.
func TestRestTakesTheFirstMember(t *testing.T) {
	r := ringOf(1, 2, 5)
	one, two := bundleOf(1, 2, 1, 2), impl.Bundle{From: 2, New: 4, Old: 2, Items: []impl.Item{otherOf(1), otherOf(2), otherOf(3)}}
	five := impl.Bundle{From: 5, New: 4, Old: 3, Items: []impl.Item{otherOf(1)}}
	everyOrder(fromTo(0, 2), func(order []int) {
		var list []impl.Bundle
		for _, place := range order {
			list = append(list, []impl.Bundle{one, two, five}[place])
		}
		want := []impl.Item{itemOf(1), itemOf(2), otherOf(3)}
		for heard := range 4 {
			wantRest(t, r, list, 1, heard, want[heard:]...)
			wantRest(t, r, list, 2, heard, want[heard:]...)
		}
		wantRest(t, r, list, 5, 0, otherOf(1))
		// A ring that is not right tells of its members in another order.
		wantRest(t, ringOf(5, 2, 1), list, 2, 0, want...)
	})
	// Of two bundles of one member the first one counts alone.
	list := []impl.Bundle{{From: 1, New: 4, Old: 2, Items: []impl.Item{otherOf(1)}}, bundleOf(1, 2, 1, 2, 3), bundleOf(2, 2, 2)}
	wantRest(t, r, list, 1, 0, otherOf(1), itemOf(2))
	wantRest(t, r, list, 2, 1, itemOf(2))
}

func TestRestOfEveryFewItems(t *testing.T) {
	r := ringOf(1, 3, 4)
	held := func(set int) []int { return slices.DeleteFunc(upTo(3), func(n int) bool { return set>>(n-1)%2 == 0 }) }
	for set := range 512 {
		for olds := range 8 {
			list := []impl.Bundle{bundleOf(4, 1+olds%2, held(set%8)...), bundleOf(1, 1+olds/2%2, held(set/8%8)...), bundleOf(3, 1+olds/4, held(set/64)...)}
			wantPartsAsByHand(t, r, list, r.Members, []int{-1, 0, 1, 3})
			wantPromiseOfParts(t, r, list)
		}
	}
}

// drawnBundle is for the ring mostly, and right mostly, with few Olds to be had.
func drawnBundle(l *lot, r impl.Ring) impl.Bundle {
	b := impl.Bundle{From: 1 + l.below(5), New: r.Id, Old: l.below(4), Items: drawnItems(l)}
	if b.Old == 0 && l.below(8) > 0 {
		b.Items = nil
	}
	switch l.below(12) {
	case 0:
		b.New = 1 + l.below(9)
	case 1:
		b.From = numbersBeside()[l.below(len(numbersBeside()))]
	case 2:
		b.Old = numbersBeside()[l.below(len(numbersBeside()))]
	}
	return b
}

func TestPartsInDrawnLists(t *testing.T) {
	l := &lot{1313}
	here, together := map[bool]int{}, map[int]int{}
	rings := rightRings()
	for range 12000 {
		r := rings[l.below(len(rings))]
		r.Id = 3 + l.below(7)
		var list []impl.Bundle
		for range l.below(14) {
			list = append(list, drawnBundle(l, r))
		}
		wantPartsAsByHand(t, r, list, append(fromTo(0, 6), math.MinInt), []int{math.MinInt, -1, 0, l.below(9), 60, math.MaxInt})
		together[wantPromiseOfParts(t, r, list)]++
		here[impl.AllHere(r, list)]++
	}
	if here[true] < 500 || here[false] < 500 || together[0] < 500 || together[1] < 500 || together[2] < 500 || together[3] < 100 {
		t.Errorf("all were here %v; went on together %v", here, together)
	}
}

// saidIn is what was said in an old ring: no two rings have an item alike.
func saidIn(old, count int) []impl.Item {
	list := itemsOf(upTo(count)...)
	for i := range list {
		list[i].Text = fmt.Sprintf("%d of ring %d", i+1, old)
	}
	return list
}

// parted is a daemon whose ring ends: it has what it heard, and some of what came later.
type parted struct {
	bundle impl.Bundle
	heard  []impl.Item
}

func drawnParted(l *lot, d int, r impl.Ring, said [][]impl.Item) parted {
	p := parted{bundle: impl.Bundle{From: d, New: r.Id, Old: l.below(len(said))}}
	if p.bundle.Old == 0 {
		return p
	}
	all := said[p.bundle.Old]
	heard := l.below(len(all) + 1)
	p.heard = all[:heard]
	for _, m := range all {
		if m.Seq <= heard || l.below(3) > 0 {
			p.bundle.Items = append(p.bundle.Items, m)
		}
	}
	return p
}

// Whoever goes on together heard the same behind Rest, without holes, and nothing that one of them heard is lost.
func TestWhoGoesOnTogetherHeardTheSame(t *testing.T) {
	l := &lot{131}
	rings := rightRings()
	grown, shared := 0, 0
	for range 4000 {
		r := rings[l.below(len(rings))]
		r.Id = 4 + l.below(6)
		said := [][]impl.Item{nil, saidIn(1, l.below(9)), saidIn(2, l.below(61)), saidIn(3, l.below(4))}
		parts := map[int]parted{}
		var list []impl.Bundle
		for _, d := range shuffled(l, r.Members) {
			parts[d] = drawnParted(l, d, r, said)
			text, _ := impl.BundleText(parts[d].bundle)
			b, ok := impl.ReadBundle(text)
			if !ok {
				t.Errorf("the bundle %s does not come back", shownBundle(parts[d].bundle))
			}
			list = append(list, b)
		}
		wantAllHere(t, r, list, true)
		for _, d := range r.Members {
			logs := logsOf(r, list, d, parts)
			for _, log := range logs {
				if !slices.Equal(log, logs[0]) || !slices.Equal(log, said[parts[d].bundle.Old][:len(log)]) || len(log) < len(parts[d].heard) {
					t.Errorf("%s, %s: those with %d heard %s and %s", shownRing(r), shownBundles(list), d, shownItems(log), shownItems(logs[0]))
				}
				grown += len(log) - len(parts[d].heard)
			}
			shared += max(0, len(logs)-1)
		}
	}
	if grown < 5000 || shared < 2000 {
		t.Errorf("only %d were heard behind the end, only %d went on with others", grown, shared)
	}
}

// logsOf are what each of those who go on with d heard in the end.
func logsOf(r impl.Ring, list []impl.Bundle, d int, parts map[int]parted) [][]impl.Item {
	var logs [][]impl.Item
	for _, other := range impl.TogetherWith(r, list, d) {
		heard := parts[other].heard
		logs = append(logs, slices.Concat(heard, impl.Rest(r, list, other, len(heard))))
	}
	return logs
}

func strangeLists() [][]impl.Bundle {
	wild := []impl.Bundle{}
	for _, n := range []int{math.MinInt, -1, 0, 6, 10, 1<<32 + 1, math.MaxInt} {
		wild = append(wild, impl.Bundle{From: n, New: n, Old: n, Items: itemsOf(1)}, impl.Bundle{From: n, New: 4, Old: 2, Items: itemsOf(1)}, impl.Bundle{From: 1, New: n, Old: 2, Items: itemsOf(1)}, impl.Bundle{From: 2, New: 4, Old: n, Items: itemsOf(1)})
	}
	mixed := slices.Concat(wild, bundlesFor(ringOf(1, 2, 3, 4, 5)), wrongBundles()[:60])
	return [][]impl.Bundle{nil, {}, {{}}, make([]impl.Bundle, 500), wild, mixed, wrongBundles(), bundlesFor(ringOf(1, 2, 3, 4, 5))}
}

func TestPartsOfStrangeArguments(t *testing.T) {
	rings := append(wrongRings(), ringOf(1, 2, 3, 4, 5), ringOf(2), ringOf(0, math.MinInt, math.MaxInt, 6), impl.Ring{Id: math.MinInt, Members: []int{math.MinInt, 1}}, impl.Ring{Id: math.MaxInt, Members: []int{math.MaxInt, 1}})
	for _, list := range strangeLists() {
		for _, r := range rings {
			ids, heards := wildNumbers(), []int{math.MinInt, 0, math.MaxInt}
			if len(r.Members) > 10 {
				ids, heards = []int{0, 2}, []int{0}
			}
			wantPartsAsByHand(t, r, list, ids, heards)
		}
	}
}

func TestBundleTextsLeaveArgumentsAlone(t *testing.T) {
	for _, b := range slices.Concat(someBundles(), wrongBundles(), []impl.Bundle{fullBundle()}) {
		k := &keeper{}
		own, text := kept(k, b), kept(k, bundleByHand(b))
		k.ready()
		if impl.BundleOk(own) != bundleRightByHand(b) {
			t.Errorf("BundleOk(%s) looks into spare room", shownBundle(b))
		}
		told, _ := impl.BundleText(own)
		again, _ := impl.BundleText(own)
		k.untouched(t, fmt.Sprintf("BundleText(%s)", shownBundle(b)), told, again)
		read, _ := impl.ReadBundle(text)
		other, _ := impl.ReadBundle(text)
		k.untouched(t, fmt.Sprintf("ReadBundle(%.60q)", text), read, other)
		if want, _ := readBundleByHand(text); !sameBundle(read, want) || !sameBundle(other, want) {
			t.Errorf("ReadBundle(%.60q): %s; want %s", text, shownBundle(read), shownBundle(want))
		}
	}
}

func TestPartsLeaveArgumentsAlone(t *testing.T) {
	r := ringOf(1, 2, 3, 5)
	lists := [][]impl.Bundle{
		nil, bundlesFor(r), {bundleOf(1, 2, 1, 2, 3)}, {bundleOf(2, 2, 2, 5), bundleOf(1, 2, 1, 3), bundleOf(3, 1, 1, 4)}, {bundleOf(1, 2, 2, 1), bundleOf(2, 2, 1, 1)}, {bundleOf(1, 2, 1), bundleOf(1, 2, 1), bundleOf(5, 2, 1, 2)},
		{{From: 1, New: 4, Old: 2, Items: fullItems()}, {From: 2, New: 4, Old: 2, Items: fullItems()}}, {{From: 1, New: 4, Old: 2, Items: wrongItems()}, bundleOf(3, 2, 1)},
	}
	for _, list := range lists {
		for _, members := range [][]int{{1, 2, 3, 5}, {1}, {5, 3, 1, 2}, {2, 2, 1}, nil} {
			k := &keeper{}
			own, bundles := kept(k, ringOf(members...)), kept(k, list)
			k.ready()
			if impl.AllHere(own, bundles) != allHereByHand(own, list) {
				t.Errorf("AllHere(%v, %s) looks into spare room", members, shownBundles(list))
			}
			k.untouched(t, "AllHere")
			for id := range 7 {
				with, again := impl.TogetherWith(own, bundles, id), impl.TogetherWith(own, bundles, id)
				k.untouched(t, "TogetherWith", with, again)
				wantTogether(t, own, bundles, id, togetherByHand(ringOf(members...), list, id)...)
				for _, heard := range []int{-1, 0, 1, 3, 60} {
					rest, other := impl.Rest(own, bundles, id, heard), impl.Rest(own, bundles, id, heard)
					k.untouched(t, "Rest", rest, other)
					wantRest(t, own, bundles, id, heard, restByHand(ringOf(members...), list, id, heard)...)
				}
			}
		}
	}
}

// One list may stand in many bundles: no answer lies in it, and it is not changed for the others.
func TestRestOfOneListInMany(t *testing.T) {
	items := itemsOf(1, 2, 4)
	list := []impl.Bundle{{From: 1, New: 4, Old: 2, Items: items}, {From: 2, New: 4, Old: 2, Items: items}, {From: 3, New: 4, Old: 2, Items: items[:1]}, bundleOf(5, 2, 3)}
	for _, id := range []int{1, 2, 3, 5} {
		rest := impl.Rest(ringOf(1, 2, 3, 5), list, id, 0)
		if !slices.Equal(rest, itemsOf(1, 2, 3, 4)) || overlap(rest, items) {
			t.Errorf("Rest of %d: %s", id, shownItems(rest))
		}
		rest[0] = impl.Item{}
	}
	if !slices.Equal(items, itemsOf(1, 2, 4)) {
		t.Errorf("the list became %s", shownItems(items))
	}
}

func TestPartsDoNotLookIntoSpareRoom(t *testing.T) {
	members, items := []int{1, 2, 3}, itemsOf(1, 2, 2)
	list := []impl.Bundle{{From: 1, New: 4, Old: 2, Items: items[:1]}, {From: 2, New: 4, Old: 2, Items: items[:2]}, {From: 3, New: 4, Old: 2, Items: itemsOf(3)}}
	wantBundleOk(t, list[1], true)
	wantBundleText(t, list[0], bundleByHand(bundleOf(1, 2, 1)), true)
	r := ringOf(members[:2]...)
	r.Members = members[:2]
	wantAllHere(t, r, list[:2], true)
	wantAllHere(t, r, list[:1], false)
	wantAllHere(t, ringOf(1, 2, 3), list[:2], false)
	wantTogether(t, r, list, 1, 1, 2)
	wantTogether(t, r, list[:1], 1, 1)
	wantRest(t, r, list, 1, 0, itemsOf(1, 2)...)
	wantRest(t, r, list[:1], 1, 0, itemOf(1))
}

func TestBundlesKeepNothing(t *testing.T) {
	r, list := ringOf(1, 2), []impl.Bundle{bundleOf(1, 2, 1, 2), bundleOf(2, 2, 3)}
	text := bundleByHand(list[0])
	first, _ := impl.ReadBundle(text)
	for range 3 {
		wantBundleText(t, list[0], text, true)
		wantBundleText(t, impl.Bundle{}, "", false)
		wantNoBundle(t, "a wrong text", sealedByHand("\x01\x04\x02\x01\x05"))
		wantBundle(t, "a bundle read again", text, list[0], true)
		wantAllHere(t, r, list, true)
		wantAllHere(t, r, list[:1], false)
		wantTogether(t, r, list, 2, 1, 2)
		wantTogether(t, r, list[:1], 2)
		wantRest(t, r, list, 2, 1, itemsOf(2, 3)...)
		wantRest(t, r, nil, 2, 1)
		next, _ := impl.ReadBundle(text)
		next.Items[0] = impl.Item{}
		impl.TogetherWith(r, list, 1)[0] = 9
		impl.Rest(r, list, 1, 0)[0] = impl.Item{}
	}
	if !sameBundle(first, list[0]) {
		t.Errorf("the first bundle became %s", shownBundle(first))
	}
}
