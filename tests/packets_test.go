package tests

import (
	"fmt"
	"math"
	"slices"
	"strings"
	"testing"

	"loop.example/g00183/impl"
)

// varByHand writes a number of any size in as many bytes as the chapter's sentence takes.
func varByHand(n int) string {
	if n > 127 {
		return string([]byte{byte(n%128 + 128)}) + varByHand(n/128)
	}
	return string([]byte{byte(n)})
}

// longerVar is a form of the number that is one byte longer than it need be.
func longerVar(n int) string {
	short := varByHand(n)
	return turned(short, len(short)-1, 128) + "\x00"
}

func itemRightByHand(m impl.Item) bool {
	levels := []int{1, 2}
	return !(m.Seq < 1 || m.Seq > 60 || m.From < 1 || m.From > 5 || !slices.Contains(levels, m.Level) || len(m.Text) > 60)
}

// itemByHand writes an item whether it is right or not.
func itemByHand(m impl.Item) string {
	return varByHand(m.Seq) + string([]byte{byte(m.From), byte(m.Level)}) + varByHand(len(m.Text)) + m.Text
}

// readItemByHand leans on this: in a right item every number has one byte, so there is one item alone to be tried.
func readItemByHand(text string) (impl.Item, bool) {
	if len(text) < 4 {
		return impl.Item{}, false
	}
	m := impl.Item{Seq: int(text[0]), From: int(text[1]), Level: int(text[2]), Text: text[4:]}
	if !itemRightByHand(m) || itemByHand(m) != text {
		return impl.Item{}, false
	}
	return m, true
}

func tokenRightByHand(k impl.Token) bool {
	if k.Conf < 1 || k.Conf > 9 || k.Round < 1 || k.Round > 1000000000 || k.Seq < 0 || k.Seq > 60 {
		return false
	}
	if k.Aru < 0 || k.Aru > k.Seq || k.By < 0 || k.By > 5 || len(k.Wants) > 20 {
		return false
	}
	for i, want := range k.Wants {
		if want < 1 || want > k.Seq || slices.Max(k.Wants[:i+1]) != want || slices.Index(k.Wants, want) != i {
			return false
		}
	}
	return true
}

// bareTokenByHand writes a token whether it is right or not, without its sum.
func bareTokenByHand(k impl.Token) string {
	text := string([]byte{byte(k.Conf)}) + varByHand(k.Round) + varByHand(k.Seq) + varByHand(k.Aru) + string([]byte{byte(k.By)}) + varByHand(len(k.Wants))
	for _, want := range k.Wants {
		text += varByHand(want)
	}
	return text
}

func sealedByHand(text string) string {
	return sealByHand(text, sumBitByBit(4294967295, text))
}

// readTokenByHand leans on this: in a right token Round alone has more than one byte, at most five.
func readTokenByHand(text string) (impl.Token, bool) {
	for size := 1; size <= 5; size++ {
		if len(text) < 1+size+4+4 {
			break
		}
		k := impl.Token{Conf: int(text[0])}
		scale := 1
		for _, b := range []byte(text[1 : 1+size]) {
			k.Round += int(b%128) * scale
			scale *= 128
		}
		rest := text[1+size : len(text)-4]
		k.Seq, k.Aru, k.By = int(rest[0]), int(rest[1]), int(rest[2])
		for _, b := range []byte(rest[4:]) {
			k.Wants = append(k.Wants, int(b))
		}
		if tokenRightByHand(k) && sealedByHand(bareTokenByHand(k)) == text {
			return k, true
		}
	}
	return impl.Token{}, false
}

func sameToken(a, b impl.Token) bool {
	return a.Conf == b.Conf && a.Round == b.Round && a.Seq == b.Seq && a.Aru == b.Aru && a.By == b.By && slices.Equal(a.Wants, b.Wants)
}

func shownItem(m impl.Item) string {
	return fmt.Sprintf("{%d %d %d %.60q}", m.Seq, m.From, m.Level, m.Text)
}

func wantItemOk(t *testing.T, m impl.Item, want bool) {
	t.Helper()
	if got := impl.ItemOk(m); got != want {
		t.Errorf("ItemOk(%s): %t; want %t", shownItem(m), got, want)
	}
}

func wantItemsOk(t *testing.T, call string, want bool, list ...impl.Item) {
	t.Helper()
	if got := impl.ItemsOk(list); got != want {
		t.Errorf("ItemsOk of %s: %t; want %t", call, got, want)
	}
}

func wantTokenOk(t *testing.T, k impl.Token, want bool) {
	t.Helper()
	if got := impl.TokenOk(k); got != want {
		t.Errorf("TokenOk(%+v): %t; want %t", k, got, want)
	}
}

func wantItem(t *testing.T, call, text string, want impl.Item, wantOk bool) {
	t.Helper()
	got, ok := impl.ReadItem(text)
	if got != want || ok != wantOk {
		t.Errorf("ReadItem of %s, %.80q: %s, %t; want %s, %t", call, text, shownItem(got), ok, shownItem(want), wantOk)
	}
}

func wantNoItem(t *testing.T, call, text string) {
	t.Helper()
	wantItem(t, call, text, impl.Item{}, false)
}

func wantItemAsByHand(t *testing.T, call, text string) bool {
	t.Helper()
	want, ok := readItemByHand(text)
	wantItem(t, call, text, want, ok)
	return ok
}

func wantToken(t *testing.T, call, text string, want impl.Token, wantOk bool) {
	t.Helper()
	got, ok := impl.ReadToken(text)
	if !sameToken(got, want) || ok != wantOk {
		t.Errorf("ReadToken of %s, %.80q: %+v, %t; want %+v, %t", call, text, got, ok, want, wantOk)
	}
}

func wantNoToken(t *testing.T, call, text string) {
	t.Helper()
	wantToken(t, call, text, impl.Token{}, false)
}

func wantTokenAsByHand(t *testing.T, call, text string) bool {
	t.Helper()
	want, ok := readTokenByHand(text)
	wantToken(t, call, text, want, ok)
	return ok
}

// Numbers that are none, of which some look right once they are cut to a byte or to 32 bits.
func numbersBeside() []int {
	return []int{math.MinInt, math.MinInt + 1, -1 << 32, -256, -255, -2, -1, 0, 61, 62, 127, 128, 129, 255, 256, 257, 258, 1 << 32, 1<<32 + 1, 1<<32 + 2, math.MaxInt - 1, math.MaxInt}
}

func itemsAround() []impl.Item {
	var list []impl.Item
	for _, seq := range append(numbersBeside(), 1, 2, 59, 60) {
		for _, from := range append(numbersBeside(), 1, 2, 4, 5, 6) {
			for _, level := range append(numbersBeside(), 1, 2, 3) {
				for _, size := range []int{0, 1, 59, 60, 61, 256} {
					list = append(list, impl.Item{Seq: seq, From: from, Level: level, Text: longText(size)})
				}
			}
		}
	}
	return list
}

func rightItems() []impl.Item {
	var list []impl.Item
	for seq := 1; seq <= 60; seq++ {
		for from := 1; from <= 5; from++ {
			for level := 1; level <= 2; level++ {
				for _, text := range []string{"", "a", "\x00", "\xff\x80", "grüße", longText(59), longText(60)} {
					list = append(list, impl.Item{Seq: seq, From: from, Level: level, Text: text})
				}
			}
		}
	}
	for _, text := range frameTexts() {
		list = append(list, impl.Item{Seq: 7, From: 3, Level: 2, Text: text})
	}
	return list
}

// someItems are few enough to have every byte of them tried.
func someItems() []impl.Item {
	return []impl.Item{
		{Seq: 1, From: 1, Level: 1}, {Seq: 60, From: 5, Level: 2, Text: "hi"}, {Seq: 2, From: 3, Level: 1, Text: "\x00\x00\x01"},
		{Seq: 9, From: 2, Level: 2, Text: "\xff\x80\x81"}, {Seq: 1, From: 1, Level: 1, Text: "\x01\x01\x01\x00"}, {Seq: 30, From: 4, Level: 1, Text: longText(60)},
	}
}

func upTo(n int) []int { return fromTo(1, n) }

func fromTo(first, last int) []int {
	list := []int{}
	for n := first; n <= last; n++ {
		list = append(list, n)
	}
	return list
}

func wantsAround() [][]int {
	descending := upTo(20)
	slices.Reverse(descending)
	lastAlike := append(upTo(19), 19)
	lastLess := append(fromTo(2, 20), 1)
	return [][]int{
		nil, {}, {1}, {2}, {59}, {60}, {61}, {0}, {-1}, {1, 2}, {2, 1}, {1, 1}, {60, 60}, {1, 60}, {1, 61}, {0, 1}, {0, 0}, {-1, 1}, {1, 3, 2}, {2, 3, 1}, {1, 2, 2}, {1, 1, 2}, {59, 60, 61},
		upTo(19), upTo(20), upTo(21), upTo(60), fromTo(41, 60), fromTo(40, 60), fromTo(42, 61), fromTo(0, 19), descending, lastAlike, lastLess, make([]int, 20), make([]int, 21), make([]int, 5000),
		{math.MinInt}, {math.MaxInt}, {math.MinInt, math.MaxInt}, {1, math.MaxInt}, {257}, {1<<32 + 1},
	}
}

func rightTokens() []impl.Token {
	var list []impl.Token
	rounds := []int{1, 2, 127, 128, 129, 255, 256, 300, 16383, 16384, 65536, 2097151, 2097152, 268435455, 268435456, 999999999, 1000000000}
	for _, round := range rounds {
		for _, seq := range []int{0, 1, 2, 20, 59, 60} {
			for _, aru := range []int{0, 1, 19, 60} {
				for _, wants := range wantsAround() {
					k := impl.Token{Conf: 1 + round%9, Round: round, Seq: seq, Aru: aru, By: (round + seq) % 6, Wants: wants}
					if tokenRightByHand(k) {
						list = append(list, k)
					}
				}
			}
		}
	}
	for conf := 1; conf <= 9; conf++ {
		for by := 0; by <= 5; by++ {
			for seq := 0; seq <= 60; seq++ {
				list = append(list, impl.Token{Conf: conf, Round: 7, Seq: seq, Aru: seq / 2, By: by, Wants: fromTo(seq/2+1, min(seq, seq/2+20))})
			}
		}
	}
	return list
}

func someTokens() []impl.Token {
	return []impl.Token{
		{Conf: 1, Round: 1}, {Conf: 1, Round: 2, Seq: 3, Aru: 1, By: 2, Wants: []int{2}}, {Conf: 9, Round: 1000000000, Seq: 60, Aru: 60, By: 5},
		{Conf: 2, Round: 128, Seq: 2, Aru: 0, By: 1, Wants: []int{1, 2}}, {Conf: 3, Round: 16384, Seq: 60, Aru: 30, By: 4, Wants: fromTo(41, 60)},
	}
}

func TestPacketConstants(t *testing.T) {
	if impl.MaxDaemons != 5 || impl.MaxSeq != 60 || impl.MaxConf != 9 || impl.Agreed != 1 || impl.Safe != 2 {
		t.Error("the constants of packets are not the document's")
	}
}

func TestItemOkEdges(t *testing.T) {
	base := impl.Item{Seq: 7, From: 3, Level: 2, Text: "hi"}
	wantItemOk(t, base, true)
	wantItemOk(t, impl.Item{}, false)
	for _, n := range []int{math.MinInt, -1, 0, 61, math.MaxInt} {
		wantItemOk(t, impl.Item{Seq: n, From: 3, Level: 2, Text: "hi"}, false)
	}
	for _, n := range []int{math.MinInt, -1, 0, 6, math.MaxInt} {
		wantItemOk(t, impl.Item{Seq: 7, From: n, Level: 2, Text: "hi"}, false)
	}
	for _, n := range []int{math.MinInt, -2, -1, 0, 3, 4, 257, 258, math.MaxInt} {
		wantItemOk(t, impl.Item{Seq: 7, From: 3, Level: n, Text: "hi"}, false)
	}
	for _, seq := range []int{1, 60} {
		for _, from := range []int{1, 5} {
			for _, level := range []int{1, 2} {
				wantItemOk(t, impl.Item{Seq: seq, From: from, Level: level}, true)
				wantItemOk(t, impl.Item{Seq: seq, From: from, Level: level, Text: longText(60)}, true)
				wantItemOk(t, impl.Item{Seq: seq, From: from, Level: level, Text: longText(61)}, false)
				wantItemOk(t, impl.Item{Seq: seq, From: from, Level: level, Text: longText(impl.MaxText + 1)}, false)
			}
		}
	}
	// Bytes count, not runes.
	wantItemOk(t, impl.Item{Seq: 7, From: 3, Level: 2, Text: strings.Repeat("ü", 30)}, true)
	wantItemOk(t, impl.Item{Seq: 7, From: 3, Level: 2, Text: strings.Repeat("ü", 31)}, false)
}

func TestItemOkAround(t *testing.T) {
	for _, m := range itemsAround() {
		wantItemOk(t, m, itemRightByHand(m))
	}
	for _, m := range rightItems() {
		wantItemOk(t, m, true)
	}
}

func TestItemsOk(t *testing.T) {
	item := func(seq int) impl.Item { return impl.Item{Seq: seq, From: 1 + seq%5, Level: 1 + seq%2, Text: "x"} }
	wantItemsOk(t, "nil", true)
	wantItemsOk(t, "the empty list", true, []impl.Item{}...)
	for seq := 1; seq <= 60; seq++ {
		wantItemsOk(t, "one item", true, item(seq))
	}
	wantItemsOk(t, "items that ascend", true, item(1), item(2), item(3))
	wantItemsOk(t, "items that ascend, some missing", true, item(2), item(9), item(60))
	wantItemsOk(t, "two of one Seq", false, item(4), item(4))
	wantItemsOk(t, "two of one Seq, else not alike", false, item(4), impl.Item{Seq: 4, From: 1, Level: 1, Text: "other"})
	wantItemsOk(t, "two of one Seq behind others", false, item(1), item(2), item(2))
	wantItemsOk(t, "two of one Seq ahead of others", false, item(1), item(1), item(2))
	wantItemsOk(t, "items that descend", false, item(2), item(1))
	wantItemsOk(t, "items that descend at the end", false, item(1), item(3), item(2))
	wantItemsOk(t, "items that go back to the first", false, item(1), item(2), item(1))
	wantItemsOk(t, "items that descend by From", true, impl.Item{Seq: 1, From: 5, Level: 2, Text: "b"}, impl.Item{Seq: 2, From: 1, Level: 1, Text: "a"})
	var all []impl.Item
	for seq := 1; seq <= 60; seq++ {
		all = append(all, item(seq))
	}
	wantItemsOk(t, "all numbers", true, all...)
	wantItemsOk(t, "all numbers and one more", false, append(slices.Clone(all), item(61))...)
	wantItemsOk(t, "all numbers behind 0", false, append([]impl.Item{item(0)}, all...)...)
}

func TestItemsOkWithAWrongItem(t *testing.T) {
	right := impl.Item{Seq: 20, From: 1, Level: 1, Text: "x"}
	for _, wrong := range []impl.Item{
		{}, {Seq: 0, From: 1, Level: 1}, {Seq: 61, From: 1, Level: 1}, {Seq: 20, From: 0, Level: 1}, {Seq: 20, From: 6, Level: 1},
		{Seq: 20, From: 1, Level: 0}, {Seq: 20, From: 1, Level: 3}, {Seq: 20, From: 1, Level: -1}, {Seq: 20, From: 1, Level: 1, Text: longText(61)},
		{Seq: math.MinInt, From: 1, Level: 1}, {Seq: math.MaxInt, From: 1, Level: 1},
	} {
		first, last := right, right
		first.Seq, last.Seq = 10, 30
		wantItemsOk(t, "a wrong item alone", false, wrong)
		wantItemsOk(t, "a wrong item first", false, wrong, last)
		wantItemsOk(t, "a wrong item last", false, first, wrong)
		wantItemsOk(t, "a wrong item in between", false, first, wrong, last)
		wantItemsOk(t, "the items around it", true, first, right, last)
	}
}

func TestTokenOkEdges(t *testing.T) {
	wantTokenOk(t, impl.Token{}, false)
	wantTokenOk(t, impl.Token{Conf: 1, Round: 1}, true)
	wantTokenOk(t, impl.Token{Conf: 9, Round: 1000000000, Seq: 60, Aru: 60, By: 5, Wants: fromTo(41, 60)}, true)
	for _, n := range []int{math.MinInt, -1, 0, 10, math.MaxInt} {
		wantTokenOk(t, impl.Token{Conf: n, Round: 1, Seq: 5}, false)
	}
	for _, n := range []int{math.MinInt, -1, 0, 1000000001, math.MaxInt} {
		wantTokenOk(t, impl.Token{Conf: 1, Round: n, Seq: 5}, false)
	}
	for _, n := range []int{math.MinInt, -1, 61, math.MaxInt} {
		wantTokenOk(t, impl.Token{Conf: 1, Round: 1, Seq: n}, false)
		wantTokenOk(t, impl.Token{Conf: 1, Round: 1, Seq: n, Aru: n}, false)
	}
	for _, n := range []int{math.MinInt, -1, 6, 60, math.MaxInt} {
		wantTokenOk(t, impl.Token{Conf: 1, Round: 1, Seq: 5, Aru: n}, false)
	}
	for aru := range 6 {
		wantTokenOk(t, impl.Token{Conf: 1, Round: 1, Seq: 5, Aru: aru}, true)
	}
	for _, n := range []int{math.MinInt, -1, 6, math.MaxInt} {
		wantTokenOk(t, impl.Token{Conf: 1, Round: 1, Seq: 5, By: n}, false)
	}
	for by := range 6 {
		wantTokenOk(t, impl.Token{Conf: 1, Round: 1, Seq: 5, By: by}, true)
	}
}

func TestTokenOkWants(t *testing.T) {
	token := func(seq int, wants ...int) impl.Token { return impl.Token{Conf: 1, Round: 1, Seq: seq, Wants: wants} }
	for _, k := range []impl.Token{
		token(5), token(5, []int{}...), token(5, 1), token(5, 5), token(5, 1, 5), token(5, 1, 2, 3, 4, 5),
		token(60, upTo(20)...), token(20, upTo(20)...), token(60, fromTo(41, 60)...), token(0), token(0, []int{}...), token(1, 1),
	} {
		wantTokenOk(t, k, true)
	}
	for _, k := range []impl.Token{
		token(5, 0), token(5, 6), token(5, -1), token(5, 1, 1), token(5, 5, 5), token(5, 2, 1), token(5, 5, 4, 3, 2, 1), token(5, 0, 1), token(5, 4, 5, 6),
		token(5, 1, 3, 2), token(60, upTo(21)...), token(60, upTo(60)...), token(19, upTo(20)...), token(60, fromTo(42, 61)...),
		token(0, 0), token(0, 1), token(0, -1), token(1, 2), token(5, math.MinInt), token(5, math.MaxInt),
	} {
		wantTokenOk(t, k, false)
	}
}

func TestTokenOkAround(t *testing.T) {
	seqs := []int{math.MinInt, -1, 0, 1, 2, 20, 59, 60, 61, 257, math.MaxInt}
	for _, conf := range []int{math.MinInt, -1, 0, 1, 9, 10, 257, math.MaxInt} {
		for _, round := range []int{math.MinInt, -1, 0, 1, 1000000000, 1000000001, 1<<32 + 1, math.MaxInt} {
			for _, seq := range seqs {
				for _, aru := range seqs {
					for _, by := range []int{math.MinInt, -1, 0, 1, 5, 6, 257, math.MaxInt} {
						for _, wants := range [][]int{nil, {1}, {20}, {60}, {0}, {61}, {2, 1}, upTo(20), upTo(21)} {
							k := impl.Token{Conf: conf, Round: round, Seq: seq, Aru: aru, By: by, Wants: wants}
							wantTokenOk(t, k, tokenRightByHand(k))
						}
					}
				}
			}
		}
	}
	for seq := -1; seq <= 61; seq++ {
		for _, wants := range wantsAround() {
			k := impl.Token{Conf: 1, Round: 1, Seq: seq, Wants: wants}
			wantTokenOk(t, k, tokenRightByHand(k))
		}
	}
}

func TestItemTextKnown(t *testing.T) {
	sixty := strings.Repeat("\xff\x00z", 20)
	for _, c := range []struct {
		item impl.Item
		want string
	}{
		{impl.Item{Seq: 1, From: 1, Level: impl.Agreed}, "\x01\x01\x01\x00"},
		{impl.Item{Seq: 3, From: 1, Level: impl.Safe, Text: "x"}, "\x03\x01\x02\x01x"},
		{impl.Item{Seq: 60, From: 5, Level: impl.Safe, Text: "hi"}, "\x3c\x05\x02\x02hi"},
		{impl.Item{Seq: 4, From: 5, Level: impl.Agreed, Text: "\xff\x80"}, "\x04\x05\x01\x02\xff\x80"},
		{impl.Item{Seq: 10, From: 2, Level: impl.Agreed, Text: "ü"}, "\x0a\x02\x01\x02\xc3\xbc"},
		{impl.Item{Seq: 60, From: 5, Level: impl.Safe, Text: sixty}, "\x3c\x05\x02\x3c" + sixty},
	} {
		got, ok := impl.ItemText(c.item)
		wantText(t, fmt.Sprintf("ItemText(%s)", shownItem(c.item)), got, ok, c.want, true)
		wantItem(t, "known bytes", c.want, c.item, true)
	}
}

// Written out as bytes with their sums, so that the reckoning the other tests lean on is itself held to something.
func TestTokenTextKnown(t *testing.T) {
	for _, c := range []struct {
		token impl.Token
		want  string
	}{
		{impl.Token{Conf: 1, Round: 1}, "\x01\x01\x00\x00\x00\x00\x73\x33\x37\x1c"},
		{impl.Token{Conf: 1, Round: 2, Seq: 3, Aru: 1, By: 2, Wants: []int{2}}, "\x01\x02\x03\x01\x02\x01\x02\xff\x1d\x71\x1e"},
		{impl.Token{Conf: 9, Round: 1000000000, Seq: 60, Aru: 60, By: 5, Wants: []int{60}}, "\x09\x80\x94\xeb\xdc\x03\x3c\x3c\x05\x01\x3c\xd0\xdb\x3f\x3b"},
		{impl.Token{Conf: 2, Round: 127, Seq: 1, Aru: 1, By: 1}, "\x02\x7f\x01\x01\x01\x00\x17\xa4\xc2\x04"},
		{impl.Token{Conf: 2, Round: 128, Seq: 1, By: 1, Wants: []int{1}}, "\x02\x80\x01\x01\x00\x01\x01\x01\x54\x51\x39\xec"},
		{impl.Token{Conf: 3, Round: 16383, Seq: 60, Wants: []int{1, 60}}, "\x03\xff\x7f\x3c\x00\x00\x02\x01\x3c\xd3\x75\xb0\x20"},
		{impl.Token{Conf: 3, Round: 16384, Seq: 5, Aru: 4, By: 3, Wants: upTo(5)}, "\x03\x80\x80\x01\x05\x04\x03\x05\x01\x02\x03\x04\x05\x48\x78\xdf\xf9"},
		{impl.Token{Conf: 4, Round: 300, Seq: 60, Aru: 30, By: 4, Wants: fromTo(41, 60)}, "\x04\xac\x02\x3c\x1e\x04\x14\x29\x2a\x2b\x2c\x2d\x2e\x2f\x30\x31\x32\x33\x34\x35\x36\x37\x38\x39\x3a\x3b\x3c\x8a\x0b\x9f\x2e"},
	} {
		got, ok := impl.TokenText(c.token)
		wantText(t, fmt.Sprintf("TokenText(%+v)", c.token), got, ok, c.want, true)
		wantToken(t, "known bytes", c.want, c.token, true)
	}
}

func TestItemsComeBack(t *testing.T) {
	for _, m := range rightItems() {
		want := itemByHand(m)
		got, ok := impl.ItemText(m)
		wantText(t, fmt.Sprintf("ItemText(%s)", shownItem(m)), got, ok, want, true)
		wantItem(t, "a right item", got, m, true)
	}
}

func TestItemTextRefuses(t *testing.T) {
	for _, m := range append(itemsAround(), impl.Item{}, impl.Item{Seq: 1, From: 1, Level: 1, Text: longText(impl.MaxText + 1)}) {
		if itemRightByHand(m) {
			continue
		}
		got, ok := impl.ItemText(m)
		wantText(t, fmt.Sprintf("ItemText(%s)", shownItem(m)), got, ok, "", false)
	}
}

func TestTokensComeBack(t *testing.T) {
	list := rightTokens()
	if len(list) < 3000 {
		t.Fatalf("only %d tokens to try", len(list))
	}
	for _, k := range list {
		want := sealedByHand(bareTokenByHand(k))
		got, ok := impl.TokenText(k)
		wantText(t, fmt.Sprintf("TokenText(%+v)", k), got, ok, want, true)
		wantToken(t, "a right token", got, k, true)
	}
}

// wrongTokens differ from right ones in one thing each.
func wrongTokens() []impl.Token {
	list := []impl.Token{{}}
	for _, n := range append(numbersBeside(), 10) {
		list = append(list, impl.Token{Conf: n, Round: 1, Seq: 60})
		list = append(list, impl.Token{Conf: 1, Round: 1, Seq: 60, By: n})
		list = append(list, impl.Token{Conf: 1, Round: 1, Seq: n}, impl.Token{Conf: 1, Round: 1, Seq: n, Aru: n})
		list = append(list, impl.Token{Conf: 1, Round: 1, Seq: 60, Aru: n}, impl.Token{Conf: 1, Round: 1, Seq: 9, Aru: n})
	}
	for _, n := range []int{math.MinInt, -1, 0, 1000000001, 1 << 32, 1<<32 + 1, math.MaxInt} {
		list = append(list, impl.Token{Conf: 1, Round: n, Seq: 60})
	}
	for _, wants := range wantsAround() {
		for _, seq := range []int{0, 1, 19, 20, 60} {
			list = append(list, impl.Token{Conf: 1, Round: 1, Seq: seq, Wants: wants})
		}
	}
	return slices.DeleteFunc(list, tokenRightByHand)
}

func TestTokenTextRefuses(t *testing.T) {
	for _, k := range wrongTokens() {
		got, ok := impl.TokenText(k)
		wantText(t, fmt.Sprintf("TokenText(%+v)", k), got, ok, "", false)
	}
}

func TestReadItemOfOtherLengths(t *testing.T) {
	wantNoItem(t, "nothing", "")
	for _, m := range someItems() {
		text := itemByHand(m)
		for size := range len(text) {
			wantNoItem(t, "a beginning", text[:size])
			for b := range 256 {
				wantItemAsByHand(t, "a beginning and a byte", text[:size]+string([]byte{byte(b)}))
			}
		}
		for b := range 256 {
			wantNoItem(t, "an item and a byte", text+string([]byte{byte(b)}))
			wantItemAsByHand(t, "a byte and an item", string([]byte{byte(b)})+text)
		}
		wantNoItem(t, "an item twice", text+text)
		wantNoItem(t, "an item, sealed", sealedByHand(text))
		wantNoItem(t, "an item and much more", text+longText(impl.MaxText))
	}
}

func TestReadItemOfLongerNumbers(t *testing.T) {
	for _, seq := range []int{1, 3, 59, 60} {
		wantNoItem(t, "a longer Seq", longerVar(seq)+"\x01\x02\x01x")
		wantNoItem(t, "a much longer Seq", turned(longerVar(seq), 1, 128)+"\x00\x01\x02\x01x")
	}
	for _, size := range []int{0, 1, 2, 59, 60} {
		wantNoItem(t, "a longer length", "\x03\x01\x02"+longerVar(size)+longText(size))
		wantNoItem(t, "a much longer length", "\x03\x01\x02"+turned(longerVar(size), 1, 128)+"\x00"+longText(size))
		wantItem(t, "a length", "\x03\x01\x02"+varByHand(size)+longText(size), impl.Item{Seq: 3, From: 1, Level: 2, Text: longText(size)}, true)
	}
	// One byte each: a From and a Level that VarText would write in one byte, but in a longer form.
	wantNoItem(t, "a longer From", "\x03\x81\x00\x02\x01x")
	wantNoItem(t, "a longer Level", "\x03\x01\x82\x00\x01x")
}

func TestReadItemOfOtherSizes(t *testing.T) {
	for told := range 64 {
		for size := range 64 {
			text := "\x03\x01\x02" + varByHand(told) + longText(size)
			if wantItemAsByHand(t, "a length told", text) != (told == size && told <= 60) {
				t.Errorf("a length of %d ahead of %d bytes", told, size)
			}
		}
	}
	for _, told := range []int{127, 128, 255, 256, impl.MaxText, impl.MaxText + 1, 999999999, 1000000000, 1000000001, 1 << 33} {
		for _, size := range []int{0, 1, 60, told % 256} {
			wantNoItem(t, "a great length told", "\x03\x01\x02"+varByHand(told)+longText(size))
		}
	}
	for _, size := range []int{61, 62, 127, 128, 255, 256, impl.MaxText, impl.MaxText + 1} {
		wantNoItem(t, "a text that is too long", itemByHand(impl.Item{Seq: 3, From: 1, Level: 2, Text: longText(size)}))
	}
	wantNoItem(t, "a length without an end", "\x03\x01\x02\x80\x80\x80\x80\x80\x80\x80\x80\x80\x80\x80\x80")
	wantNoItem(t, "a Seq without an end", strings.Repeat("\xff", 100))
}

func TestReadItemOfWrongItems(t *testing.T) {
	for b := range 256 {
		for _, text := range []string{"", "x", longText(60)} {
			wantItemAsByHand(t, "any Seq", itemByHand(impl.Item{Seq: b, From: 1, Level: 2, Text: text}))
			wantItemAsByHand(t, "any From", itemByHand(impl.Item{Seq: 3, From: b, Level: 2, Text: text}))
			wantItemAsByHand(t, "any Level", itemByHand(impl.Item{Seq: 3, From: 1, Level: b, Text: text}))
		}
	}
	for _, seq := range []int{0, 61, 127, 128, 129, 257, 16384, 1000000000, 1000000001} {
		wantNoItem(t, "a Seq that is none", itemByHand(impl.Item{Seq: seq, From: 1, Level: 2, Text: "x"}))
	}
	wantNoItem(t, "a Seq of 0", "\x00\x01\x02\x01x")
	wantNoItem(t, "a Seq of MaxSeq and 1", "\x3d\x01\x02\x01x")
	wantNoItem(t, "a From of 0", "\x03\x00\x02\x01x")
	wantNoItem(t, "a From of MaxDaemons and 1", "\x03\x06\x02\x01x")
	wantNoItem(t, "a level of 0", "\x03\x01\x00\x01x")
	wantNoItem(t, "a level of 3", "\x03\x01\x03\x01x")
	wantNoItem(t, "a level of 255", "\x03\x01\xff\x01x")
	wantNoItem(t, "zeros", "\x00\x00\x00\x00")
}

func TestReadItemTurned(t *testing.T) {
	for _, m := range someItems() {
		text := itemByHand(m)
		for place := range len(text) {
			for turn := range 256 {
				wantItemAsByHand(t, fmt.Sprintf("an item turned by %d at %d", turn, place), turned(text, place, turn))
			}
		}
	}
}

// everyText hands on all texts of the size that have only the bytes of letters.
func everyText(size int, letters string, hand func(string)) {
	if size == 0 {
		hand("")
		return
	}
	everyText(size-1, letters, func(text string) {
		for i := range len(letters) {
			hand(text + letters[i:i+1])
		}
	})
}

func TestReadItemOfEveryShortText(t *testing.T) {
	items := 0
	for size := range 7 {
		everyText(size, "\x00\x01\x02\x03\x06\x3c\x3d\x80\x81", func(text string) {
			if wantItemAsByHand(t, "a short text", text) {
				items++
			}
		})
	}
	// Seq 1 2 3 6 60, From 1 2 3, two levels; texts of none, one and two bytes of the nine.
	if want := 5 * 3 * 2 * (1 + 9 + 81); items != want {
		t.Errorf("%d short texts are items; want %d", items, want)
	}
}

func TestReadTokenOfOtherLengths(t *testing.T) {
	wantNoToken(t, "nothing", "")
	wantNoToken(t, "nothing, sealed", sealedByHand(""))
	for _, k := range someTokens() {
		bare := bareTokenByHand(k)
		text := sealedByHand(bare)
		for size := range len(text) {
			wantNoToken(t, "a beginning", text[:size])
			wantNoToken(t, "an end", text[size+1:])
		}
		for size := range len(bare) {
			wantNoToken(t, "a beginning, sealed", sealedByHand(bare[:size]))
		}
		for b := range 256 {
			one := string([]byte{byte(b)})
			wantNoToken(t, "a token and a byte", text+one)
			wantNoToken(t, "a token and a byte, sealed", sealedByHand(bare+one))
			wantTokenAsByHand(t, "a byte and a token, sealed", sealedByHand(one+bare))
			for size := range len(bare) {
				wantTokenAsByHand(t, "a beginning and a byte, sealed", sealedByHand(bare[:size]+one))
			}
		}
		wantNoToken(t, "a token that is not sealed", bare)
		wantNoToken(t, "a token that is sealed twice", sealedByHand(text))
		wantNoToken(t, "a token twice", text+text)
		wantNoToken(t, "a token twice, sealed", sealedByHand(bare+bare))
		wantNoToken(t, "a token and much more, sealed", sealedByHand(bare+longText(impl.MaxText-len(bare))))
		wantNoToken(t, "a token and too much more, sealed", sealedByHand(bare+longText(impl.MaxText+1-len(bare))))
	}
}

func TestReadTokenTurned(t *testing.T) {
	for _, k := range someTokens() {
		bare := bareTokenByHand(k)
		text := sealedByHand(bare)
		for turn := 1; turn < 256; turn++ {
			for place := range len(text) {
				wantNoToken(t, fmt.Sprintf("a token turned by %d at %d", turn, place), turned(text, place, turn))
			}
			for place := range len(bare) {
				wantTokenAsByHand(t, fmt.Sprintf("a token turned by %d at %d, sealed", turn, place), sealedByHand(turned(bare, place, turn)))
			}
		}
	}
}

func TestReadTokenOfWrongTokens(t *testing.T) {
	for _, k := range wrongTokens() {
		// What is below 0 or above a byte has no bytes of its own.
		if min(k.Conf, k.Round, k.Seq, k.Aru, k.By) < 0 || max(k.Conf, k.By) > 255 || len(k.Wants) > 0 && slices.Min(k.Wants) < 0 {
			continue
		}
		wantNoToken(t, fmt.Sprintf("%+v", k), sealedByHand(bareTokenByHand(k)))
	}
	for b := range 256 {
		for _, k := range []impl.Token{{Conf: b, Round: 1}, {Conf: 1, Round: b}, {Conf: 1, Round: 1, Seq: b}, {Conf: 1, Round: 1, Seq: 60, Aru: b}, {Conf: 1, Round: 1, By: b}, {Conf: 1, Round: 1, Seq: 60, Wants: []int{b}}} {
			text := sealedByHand(bareTokenByHand(k))
			if wantTokenAsByHand(t, "any number", text) != tokenRightByHand(k) {
				t.Errorf("the token %+v is not read by hand", k)
			}
		}
	}
	wantNoToken(t, "zeros", sealedByHand("\x00\x00\x00\x00\x00\x00"))
}

func TestReadTokenOfLongerNumbers(t *testing.T) {
	whole := []string{"\x01", "\x02", "\x03", "\x01", "\x02", "\x02", "\x01", "\x03"}
	wantToken(t, "no longer number", sealedByHand(strings.Join(whole, "")), impl.Token{Conf: 1, Round: 2, Seq: 3, Aru: 1, By: 2, Wants: []int{1, 3}}, true)
	for place, short := range whole {
		n := int(short[0])
		for _, longer := range []string{longerVar(n), turned(longerVar(n), 1, 128) + "\x00", longerVar(n)[:1] + "\x80\x80\x80\x80\x80\x80\x80\x00"} {
			parts := slices.Clone(whole)
			parts[place] = longer
			wantNoToken(t, fmt.Sprintf("a longer number at %d", place), sealedByHand(strings.Join(parts, "")))
		}
	}
	for _, round := range []int{1, 127, 128, 300, 16384, 2097152, 268435456, 1000000000} {
		wantToken(t, "a Round", sealedByHand("\x01"+varByHand(round)+"\x00\x00\x00\x00"), impl.Token{Conf: 1, Round: round}, true)
		wantNoToken(t, "a longer Round", sealedByHand("\x01"+longerVar(round)+"\x00\x00\x00\x00"))
	}
	for _, round := range []int{1000000001, 1 << 32, 1<<35 - 1, 1 << 35, math.MaxInt} {
		wantNoToken(t, "a Round that is too great", sealedByHand("\x01"+varByHand(round)+"\x00\x00\x00\x00"))
	}
	wantNoToken(t, "a Round without an end", sealedByHand("\x01"+strings.Repeat("\x80", 100)))
}

func TestReadTokenOfOtherCounts(t *testing.T) {
	const ahead = "\x01\x02\x3c\x01\x02"
	wantsText := func(count int) string {
		text := ""
		for n := 1; n <= count; n++ {
			text += varByHand(n)
		}
		return text
	}
	for told := range 64 {
		for count := range 64 {
			text := sealedByHand(ahead + varByHand(told) + wantsText(count))
			if told != count || told > 20 {
				wantNoToken(t, fmt.Sprintf("%d Wants told of %d", told, count), text)
				continue
			}
			wantToken(t, fmt.Sprintf("%d Wants", told), text, impl.Token{Conf: 1, Round: 2, Seq: 60, Aru: 1, By: 2, Wants: upTo(told)}, true)
		}
	}
	for _, told := range []int{127, 128, 148, 255, 256, 276, impl.MaxText, 999999999, 1000000000, 1000000001, 1 << 32, math.MaxInt} {
		for _, count := range []int{0, 1, 20, 21, 60, told % 300} {
			wantNoToken(t, fmt.Sprintf("%d Wants told of %d", told, count), sealedByHand(ahead+varByHand(told)+wantsText(count)))
		}
	}
	many := strings.Repeat("\x01", impl.MaxText-len(ahead)-3)
	wantNoToken(t, "as many Wants as can be sealed", sealedByHand(ahead+varByHand(len(many))+many))
	wantNoToken(t, "a count without an end", sealedByHand(ahead+strings.Repeat("\xff", 100)))
}

func TestReadTokenOfEveryShortText(t *testing.T) {
	tokens := 0
	for size := range 9 {
		everyText(size, "\x00\x01\x02\x80\x81", func(text string) {
			if wantTokenAsByHand(t, "a short text, sealed", sealedByHand(text)) {
				tokens++
			}
		})
	}
	if tokens < 500 {
		t.Errorf("only %d short texts are tokens", tokens)
	}
}

func TestPacketsLeaveTextsAlone(t *testing.T) {
	for _, m := range append(someItems(), impl.Item{}, impl.Item{Seq: 1, From: 1, Level: 1, Text: longText(61)}) {
		a := newArgument(m.Text)
		m.Text = a.text
		impl.ItemOk(m)
		impl.ItemsOk([]impl.Item{m})
		got, _ := impl.ItemText(m)
		a.untouched(t, "ItemText", got)
		for _, text := range []string{itemByHand(m), itemByHand(m) + "x", itemByHand(m)[:3]} {
			b := newArgument(text)
			back, _ := impl.ReadItem(b.text)
			b.untouched(t, "ReadItem", back.Text)
		}
	}
	for _, k := range someTokens() {
		text := sealedByHand(bareTokenByHand(k))
		for _, text := range []string{text, text + "x", text[1:]} {
			a := newArgument(text)
			impl.ReadToken(a.text)
			a.untouched(t, "ReadToken")
		}
	}
}

func TestPacketsLeaveListsAlone(t *testing.T) {
	for _, wants := range wantsAround() {
		whole := slices.Concat([]int{99}, wants, []int{98, -97, 96})
		before := slices.Clone(whole)
		for _, seq := range []int{0, 20, 60} {
			k := impl.Token{Conf: 1, Round: 1, Seq: seq, Wants: whole[1 : 1+len(wants)]}
			impl.TokenOk(k)
			text, _ := impl.TokenText(k)
			back, ok := impl.ReadToken(text)
			if ok && len(back.Wants) > 0 {
				back.Wants[0] = -5
			}
			if !slices.Equal(whole, before) {
				t.Fatalf("the Wants %s are changed", shown(wants))
			}
		}
	}
	for _, list := range [][]impl.Item{{}, {{Seq: 1, From: 1, Level: 1}}, {{Seq: 2, From: 1, Level: 1}, {Seq: 1, From: 2, Level: 2}}, {{Seq: 3}, {}, {Seq: 1}}, someItems(), itemsAround()[:50]} {
		whole := slices.Concat([]impl.Item{{Text: "ahead"}}, list, []impl.Item{{Text: "behind"}, {Seq: 1}})
		before := slices.Clone(whole)
		impl.ItemsOk(whole[1 : 1+len(list)])
		if !slices.Equal(whole, before) {
			t.Errorf("ItemsOk wrote into %s", shown(list))
		}
	}
}

func TestPacketsKeepNothing(t *testing.T) {
	k := impl.Token{Conf: 1, Round: 2, Seq: 60, Aru: 1, By: 2, Wants: []int{2, 9}}
	text := sealedByHand(bareTokenByHand(k))
	first, _ := impl.ReadToken(text)
	for range 3 {
		wantNoToken(t, "a wrong text", sealedByHand("\x01\x02\x03"))
		wantNoItem(t, "a wrong text", "\x01\x02")
		next, _ := impl.ReadToken(text)
		next.Wants[0] = 1
		wantToken(t, "a token read again", text, k, true)
		wantItem(t, "an item read again", "\x03\x01\x02\x01x", impl.Item{Seq: 3, From: 1, Level: 2, Text: "x"}, true)
	}
	if !sameToken(first, k) {
		t.Errorf("the first token became %+v", first)
	}
}
