package tests

import (
	"cmp"
	"fmt"
	"math"
	"slices"
	"strconv"
	"strings"
	"testing"

	"loop.example/g00183/impl"
)

// itemOf is right when its Seq is.
func itemOf(seq int) impl.Item {
	return impl.Item{Seq: seq, From: 1 + (seq%5+5)%5, Level: 1 + (seq%2+2)%2, Text: "said " + strconv.Itoa(seq)}
}

func itemsOf(seqs ...int) []impl.Item {
	list := []impl.Item{}
	for _, seq := range seqs {
		list = append(list, itemOf(seq))
	}
	return list
}

// otherOf has the Seq of itemOf, and else nothing of it.
func otherOf(seq int) impl.Item {
	return impl.Item{Seq: seq, From: 1 + (seq%5+6)%5, Level: 2 - (seq%2+2)%2, Text: "another " + strconv.Itoa(seq)}
}

func seqsOf(list []impl.Item) []int {
	seqs := []int{}
	for _, m := range list {
		seqs = append(seqs, m.Seq)
	}
	return seqs
}

func shownItems(list []impl.Item) string {
	var told []string
	for _, m := range list[:min(len(list), 70)] {
		told = append(told, shownItem(m))
	}
	return fmt.Sprintf("%d of [%s]", len(list), strings.Join(told, " "))
}

func hasSeq(list []impl.Item, seq int) bool {
	return slices.Contains(seqsOf(list), seq)
}

func itemsRightByHand(list []impl.Item) bool {
	seqs := seqsOf(list)
	sorted := slices.Compact(slices.Sorted(slices.Values(seqs)))
	return slices.Equal(seqs, sorted) && !slices.ContainsFunc(list, func(m impl.Item) bool { return !itemRightByHand(m) })
}

func putByHand(list []impl.Item, m impl.Item) []impl.Item {
	if !itemsRightByHand(list) || !itemRightByHand(m) || hasSeq(list, m.Seq) {
		return list
	}
	after := append(slices.Clone(list), m)
	slices.SortFunc(after, func(a, b impl.Item) int { return cmp.Compare(a.Seq, b.Seq) })
	return after
}

func itemAtByHand(list []impl.Item, seq int) (impl.Item, bool) {
	at := slices.Index(seqsOf(list), seq)
	if at == -1 {
		return impl.Item{}, false
	}
	return list[at], true
}

// aruByHand tries the greatest number first: of n items none reaches further than n.
func aruByHand(list []impl.Item) int {
	seqs := seqsOf(list)
	for aru := len(list); aru > 0; aru-- {
		if !slices.ContainsFunc(upTo(aru), func(n int) bool { return !slices.Contains(seqs, n) }) {
			return aru
		}
	}
	return 0
}

func missingByHand(list []impl.Item, upto int) []int {
	aru := aruByHand(list)
	gone := slices.DeleteFunc(upTo(60), func(n int) bool { return n <= aru || n > upto || hasSeq(list, n) })
	return gone[:min(len(gone), 20)]
}

func unionByHand(lists [][]impl.Item) []impl.Item {
	right := slices.DeleteFunc(slices.Clone(lists), func(list []impl.Item) bool { return !itemsRightByHand(list) })
	all := slices.Concat(right...)
	union := []impl.Item{}
	for seq := 1; seq <= 60; seq++ {
		if m, there := itemAtByHand(all, seq); there {
			union = append(union, m)
		}
	}
	return union
}

func wholeByHand(list []impl.Item) []impl.Item {
	aru := aruByHand(list)
	return slices.DeleteFunc(slices.Clone(list), func(m impl.Item) bool { return m.Seq > aru })
}

func wantPut(t *testing.T, list []impl.Item, m impl.Item, want []impl.Item) {
	t.Helper()
	if got := impl.PutItem(list, m); !slices.Equal(got, want) {
		t.Errorf("PutItem of %s, %s: %s; want %s", shownItems(list), shownItem(m), shownItems(got), shownItems(want))
	}
}

func wantItemAt(t *testing.T, list []impl.Item, seq int, want impl.Item, wantOk bool) {
	t.Helper()
	got, ok := impl.ItemAt(list, seq)
	if got != want || ok != wantOk {
		t.Errorf("ItemAt of %s, %d: %s, %t; want %s, %t", shownItems(list), seq, shownItem(got), ok, shownItem(want), wantOk)
	}
}

func wantAru(t *testing.T, list []impl.Item, want int) {
	t.Helper()
	if got := impl.AruOf(list); got != want {
		t.Errorf("AruOf of %s: %d; want %d", shownItems(list), got, want)
	}
}

func wantMissing(t *testing.T, list []impl.Item, upto int, want ...int) {
	t.Helper()
	if got := impl.Missing(list, upto); !slices.Equal(got, want) {
		t.Errorf("Missing of %s, %d: %v; want %v", shownItems(list), upto, got, want)
	}
}

func wantUnion(t *testing.T, lists [][]impl.Item, want ...impl.Item) {
	t.Helper()
	if got := impl.Union(lists); !slices.Equal(got, want) {
		var told []string
		for _, list := range lists {
			told = append(told, shownItems(list))
		}
		t.Errorf("Union of %d: %s: %s; want %s", len(lists), strings.Join(told, ", "), shownItems(got), shownItems(want))
	}
}

func wantWhole(t *testing.T, list []impl.Item, want ...impl.Item) {
	t.Helper()
	if got := impl.Whole(list); !slices.Equal(got, want) {
		t.Errorf("Whole of %s: %s; want %s", shownItems(list), shownItems(got), shownItems(want))
	}
}

// seqsToAsk are numbers for a Seq and an upto alike.
func seqsToAsk() []int {
	return append(append(numbersBeside(), 63), upTo(60)...)
}

// wantStoreAsByHand holds what needs no more than a list and a number.
func wantStoreAsByHand(t *testing.T, list []impl.Item) {
	t.Helper()
	wantAru(t, list, aruByHand(list))
	wantWhole(t, list, wholeByHand(list)...)
	for _, n := range seqsToAsk() {
		m, there := itemAtByHand(list, n)
		wantItemAt(t, list, n, m, there)
		wantMissing(t, list, n, missingByHand(list, n)...)
	}
}

// wrongItems are right but for one thing each.
func wrongItems() []impl.Item {
	list := []impl.Item{{}}
	for _, n := range []int{math.MinInt, -1, 0, 61, 62, 1 << 32, math.MaxInt} {
		list = append(list, impl.Item{Seq: n, From: 3, Level: 2, Text: "x"})
	}
	for _, n := range []int{math.MinInt, -1, 0, 6, 1<<32 + 1, math.MaxInt} {
		list = append(list, impl.Item{Seq: 30, From: n, Level: 2, Text: "x"})
	}
	for _, n := range []int{math.MinInt, -1, 0, 3, 1<<32 + 1, math.MaxInt} {
		list = append(list, impl.Item{Seq: 30, From: 3, Level: n, Text: "x"})
	}
	for _, size := range []int{61, 62, impl.MaxText + 1} {
		list = append(list, impl.Item{Seq: 30, From: 3, Level: 2, Text: longText(size)})
	}
	return list
}

func rightStores() [][]impl.Item {
	lists := [][]impl.Item{
		nil, {}, itemsOf(1), itemsOf(2), itemsOf(60), itemsOf(1, 2), itemsOf(1, 3), itemsOf(2, 3), itemsOf(1, 60), itemsOf(1, 2, 3, 5, 8, 13),
		itemsOf(upTo(59)...), itemsOf(fromTo(2, 60)...), itemsOf(upTo(60)...), itemsOf(fromTo(31, 60)...), itemsOf(29, 31), itemsOf(1, 2, 29, 31, 60),
		{{Seq: 1, From: 5, Level: 2, Text: "b"}, {Seq: 2, From: 1, Level: 1}, {Seq: 4, From: 1, Level: 1, Text: longText(60)}},
	}
	for hole := 1; hole <= 60; hole++ {
		lists = append(lists, storeWithout(hole))
	}
	return lists
}

// storeWithout has all numbers but these.
func storeWithout(holes ...int) []impl.Item {
	return itemsOf(slices.DeleteFunc(upTo(60), func(n int) bool { return slices.Contains(holes, n) })...)
}

func wrongStores() [][]impl.Item {
	backwards := upTo(60)
	slices.Reverse(backwards)
	lists := [][]impl.Item{
		itemsOf(1, 1), itemsOf(4, 4), {itemOf(1), otherOf(1)}, {otherOf(1), itemOf(1)}, itemsOf(1, 1, 2), itemsOf(1, 2, 2), itemsOf(1, 2, 3, 3), itemsOf(60, 60), itemsOf(1, 2, 1),
		{itemOf(1), itemOf(2), otherOf(2), itemOf(3)}, {itemOf(1), itemOf(3), otherOf(1), otherOf(3)},
		itemsOf(2, 1), itemsOf(3, 2, 1), itemsOf(1, 3, 2), itemsOf(2, 1, 3), itemsOf(60, 1), itemsOf(5, 3, 1), itemsOf(3, 4, 1), itemsOf(backwards...),
		itemsOf(upTo(61)...), itemsOf(upTo(62)...), itemsOf(fromTo(0, 60)...), itemsOf(fromTo(0, 59)...), itemsOf(fromTo(2, 61)...), append(itemsOf(upTo(60)...), itemOf(60)), append(itemsOf(upTo(60)...), itemOf(1)),
		itemsOf(61), itemsOf(0), itemsOf(-1), itemsOf(0, 1), itemsOf(-1, 1), itemsOf(-1, 0, 1, 2, 4), itemsOf(1, 2, 61), itemsOf(1, 2, math.MaxInt), itemsOf(math.MinInt, 1, 2), itemsOf(0, 0), itemsOf(-3, -2), make([]impl.Item, 61),
		itemsOf(fromTo(61, 121)...), itemsOf(fromTo(-60, 3)...), itemsOf(upTo(130)...),
	}
	for _, wrong := range wrongItems() {
		lists = append(lists,
			[]impl.Item{wrong}, append([]impl.Item{wrong}, itemsOf(40, 50)...), append(itemsOf(1, 2), wrong), slices.Concat(itemsOf(1, 2), []impl.Item{wrong}, itemsOf(40)),
		)
		first := wrong
		first.Seq = min(wrong.Seq, 1)
		lists = append(lists, append([]impl.Item{first}, itemsOf(2, 3)...))
	}
	return slices.DeleteFunc(lists, itemsRightByHand)
}

func storesAround() [][]impl.Item { return append(rightStores(), wrongStores()...) }

// everyOrder hands out each order of the list; what it hands out is its own, and changes behind.
func everyOrder(list []int, hand func(order []int)) {
	var goOn func(at int)
	goOn = func(at int) {
		if at == len(list) {
			hand(list)
			return
		}
		for other := at; other < len(list); other++ {
			list[at], list[other] = list[other], list[at]
			goOn(at + 1)
			list[at], list[other] = list[other], list[at]
		}
	}
	goOn(0)
}

func shuffled(l *lot, list []int) []int {
	order := slices.Clone(list)
	for at := range order {
		other := at + l.below(len(order)-at)
		order[at], order[other] = order[other], order[at]
	}
	return order
}

// wantPromiseOfStores puts the numbers one by one, and holds promise 8 at each of them.
func wantPromiseOfStores(t *testing.T, order []int) {
	t.Helper()
	var list []impl.Item
	put := map[int]bool{}
	for _, seq := range order {
		m := itemOf(seq)
		if put[seq] {
			m = otherOf(seq)
		}
		list = impl.PutItem(list, m)
		put[seq] = true
		var want []impl.Item
		for _, n := range upTo(60) {
			if put[n] {
				want = append(want, itemOf(n))
			}
		}
		if !slices.Equal(list, want) {
			t.Fatalf("%v put, up to %d: %s", order, seq, shownItems(list))
		}
		aru := impl.AruOf(list)
		for n := range aru {
			if !put[n+1] {
				t.Fatalf("%v put, up to %d: AruOf %d, and %d is missing", order, seq, aru, n+1)
			}
		}
		if put[aru+1] {
			t.Fatalf("%v put, up to %d: AruOf %d, and the next one is there", order, seq, aru)
		}
	}
}

func wantFilledUp(t *testing.T, list []impl.Item, upto int) {
	t.Helper()
	full := list
	for range 4 {
		for _, n := range impl.Missing(full, upto) {
			full = impl.PutItem(full, itemOf(n))
		}
	}
	if impl.AruOf(full) < min(upto, 60) || len(impl.Missing(full, upto)) > 0 {
		t.Errorf("%s, filled up to %d: %s", shownItems(list), upto, shownItems(full))
	}
	if len(impl.Whole(full)) < min(upto, 60) || !itemsRightByHand(full) {
		t.Errorf("%s, filled up to %d, is whole only as %s", shownItems(list), upto, shownItems(impl.Whole(full)))
	}
	for _, m := range list {
		wantItemAt(t, full, m.Seq, m, true)
	}
}

func TestStoresHaveWhatWasPutInEveryOrder(t *testing.T) {
	for _, seqs := range [][]int{{1, 2, 3, 4, 5, 6}, {1, 2, 4, 5, 7}, {2, 3, 9, 60}, {1, 58, 59, 60}, {1, 1, 2, 2, 3}, {5, 5, 5, 1}, {60}} {
		everyOrder(seqs, func(order []int) { wantPromiseOfStores(t, order) })
	}
}

func TestStoresHaveWhatWasPutInDrawnOrders(t *testing.T) {
	l := &lot{8}
	for range 60 {
		wantPromiseOfStores(t, shuffled(l, upTo(60)))
	}
	for range 400 {
		var order []int
		most := 1 + l.below(60)
		for range l.below(80) {
			order = append(order, 1+l.below(most))
		}
		wantPromiseOfStores(t, order)
	}
}

func TestStoresOfEveryFewNumbers(t *testing.T) {
	for bits := range 1 << 9 {
		seqs := slices.DeleteFunc(upTo(9), func(n int) bool { return bits>>(n-1)&1 == 0 })
		list := itemsOf(seqs...)
		wantStoreAsByHand(t, list)
		for n := 1; n <= 10; n++ {
			wantPut(t, list, itemOf(n), putByHand(list, itemOf(n)))
			wantPut(t, list, otherOf(n), putByHand(list, otherOf(n)))
			wantFilledUp(t, list, n)
		}
		wantFilledUp(t, list, 60)
	}
}

func TestStoresAreFilledUp(t *testing.T) {
	for _, list := range rightStores() {
		for _, upto := range append(upTo(60), -1, 0, 61, math.MinInt, math.MaxInt) {
			wantFilledUp(t, list, upto)
		}
	}
}

func TestPutItemKnown(t *testing.T) {
	a := impl.Item{Seq: 2, From: 1, Level: 1, Text: "a"}
	b := impl.Item{Seq: 4, From: 5, Level: 2, Text: "b"}
	ahead := impl.Item{Seq: 1, From: 2, Level: 2}
	between := impl.Item{Seq: 3, From: 3, Level: 1, Text: longText(60)}
	behind := impl.Item{Seq: 60, From: 4, Level: 2, Text: "\x00\xff"}
	wantPut(t, nil, a, []impl.Item{a})
	wantPut(t, []impl.Item{}, a, []impl.Item{a})
	wantPut(t, []impl.Item{a}, b, []impl.Item{a, b})
	wantPut(t, []impl.Item{b}, a, []impl.Item{a, b})
	wantPut(t, []impl.Item{a, b}, ahead, []impl.Item{ahead, a, b})
	wantPut(t, []impl.Item{a, b}, between, []impl.Item{a, between, b})
	wantPut(t, []impl.Item{a, b}, behind, []impl.Item{a, b, behind})
	for seq := 1; seq <= 60; seq++ {
		wantPut(t, nil, itemOf(seq), itemsOf(seq))
		wantPut(t, storeWithout(seq), itemOf(seq), itemsOf(upTo(60)...))
	}
}

func TestPutItemThatIsThere(t *testing.T) {
	for _, list := range rightStores() {
		for _, m := range list {
			wantPut(t, list, m, list)
			text, from, level := m, m, m
			text.Text = "z"
			from.From = m.From%5 + 1
			level.Level = 3 - m.Level
			wantPut(t, list, text, list)
			wantPut(t, list, from, list)
			wantPut(t, list, level, list)
			wantPut(t, list, otherOf(m.Seq), list)
		}
	}
}

func TestPutItemOfWrongItems(t *testing.T) {
	for _, m := range wrongItems() {
		for _, list := range rightStores() {
			wantPut(t, list, m, list)
		}
	}
	full := itemsOf(upTo(60)...)
	wantPut(t, full, itemOf(61), full)
	wantPut(t, full, itemOf(0), full)
}

func TestPutItemIntoWrongStores(t *testing.T) {
	for _, list := range wrongStores() {
		for _, seq := range []int{1, 2, 3, 29, 30, 31, 59, 60} {
			wantPut(t, list, itemOf(seq), list)
		}
		for _, m := range wrongItems() {
			wantPut(t, list, m, list)
		}
	}
}

func TestItemAtKnown(t *testing.T) {
	list := []impl.Item{{Seq: 2, From: 1, Level: 1, Text: "a"}, {Seq: 3, From: 5, Level: 2}, {Seq: 9, From: 3, Level: 1, Text: "c"}}
	for _, m := range list {
		wantItemAt(t, list, m.Seq, m, true)
	}
	for _, seq := range []int{1, 4, 8, 10, 60, 0, -1, -2, 61, math.MinInt, math.MaxInt, 1<<32 + 2} {
		wantItemAt(t, list, seq, impl.Item{}, false)
		wantItemAt(t, nil, seq, impl.Item{}, false)
		wantItemAt(t, []impl.Item{}, seq, impl.Item{}, false)
	}
	wantItemAt(t, itemsOf(upTo(60)...), 1, itemOf(1), true)
	wantItemAt(t, itemsOf(upTo(60)...), 60, itemOf(60), true)
	wantItemAt(t, itemsOf(upTo(60)...), 61, impl.Item{}, false)
}

// ItemAt asks for a Seq alone: whether the list is right is not asked.
func TestItemAtOfWrongStores(t *testing.T) {
	wantItemAt(t, itemsOf(3, 1, 2), 1, itemOf(1), true)
	wantItemAt(t, itemsOf(3, 1, 2), 3, itemOf(3), true)
	wantItemAt(t, itemsOf(3, 1, 2), 4, impl.Item{}, false)
	wantItemAt(t, []impl.Item{itemOf(1), otherOf(1)}, 1, itemOf(1), true)
	wantItemAt(t, []impl.Item{otherOf(1), itemOf(1)}, 1, otherOf(1), true)
	for _, seq := range []int{-1, 0, 61, math.MinInt, math.MaxInt} {
		wantItemAt(t, []impl.Item{itemOf(1), {Seq: seq, Text: "x"}}, seq, impl.Item{Seq: seq, Text: "x"}, true)
	}
	wantItemAt(t, []impl.Item{{}}, 0, impl.Item{}, true)
}

func TestAruOfKnown(t *testing.T) {
	wantAru(t, nil, 0)
	wantAru(t, []impl.Item{}, 0)
	wantAru(t, itemsOf(2), 0)
	wantAru(t, itemsOf(fromTo(2, 60)...), 0)
	for n := 1; n <= 60; n++ {
		wantAru(t, itemsOf(upTo(n)...), n)
		wantAru(t, storeWithout(n), n-1)
	}
	wantAru(t, storeWithout(30, 20), 19)
	wantAru(t, storeWithout(59, 60), 58)
}

// AruOf asks for numbers alone: in whatever order they are there, and of what they are the numbers.
func TestAruOfWrongStores(t *testing.T) {
	wantAru(t, itemsOf(2, 1), 2)
	wantAru(t, itemsOf(3, 1), 1)
	wantAru(t, itemsOf(3, 2), 0)
	wantAru(t, itemsOf(1, 1), 1)
	wantAru(t, itemsOf(1, 1, 2), 2)
	wantAru(t, itemsOf(1, 1, 3), 1)
	wantAru(t, itemsOf(-1, 0, 1, 2, 4), 2)
	wantAru(t, itemsOf(0), 0)
	wantAru(t, itemsOf(math.MinInt, math.MaxInt), 0)
	wantAru(t, itemsOf(1, math.MaxInt), 1)
	wantAru(t, []impl.Item{{Seq: 1}, {Seq: 2, Text: longText(61)}}, 2)
	wantAru(t, itemsOf(upTo(61)...), 61)
	wantAru(t, make([]impl.Item, 1000), 0)
	long := itemsOf(upTo(100000)...)
	slices.Reverse(long)
	wantAru(t, long, 100000)
}

func TestMissingKnown(t *testing.T) {
	list := itemsOf(1, 2, 4, 7)
	for _, upto := range []int{math.MinInt, -1, 0, 1, 2} {
		wantMissing(t, list, upto)
	}
	wantMissing(t, list, 3, 3)
	wantMissing(t, list, 4, 3)
	wantMissing(t, list, 5, 3, 5)
	wantMissing(t, list, 7, 3, 5, 6)
	wantMissing(t, list, 8, 3, 5, 6, 8)
	wantMissing(t, storeWithout(2, 60), 59, 2)
	wantMissing(t, storeWithout(2, 60), 60, 2, 60)
	for _, upto := range []int{60, 61, 62, 1 << 32, math.MaxInt - 1, math.MaxInt} {
		wantMissing(t, storeWithout(60), upto, 60)
		wantMissing(t, storeWithout(1), upto, 1)
		wantMissing(t, storeWithout(), upto)
		wantMissing(t, itemsOf(upTo(57)...), upto, 58, 59, 60)
	}
	for _, none := range [][]impl.Item{nil, {}} {
		wantMissing(t, none, math.MinInt)
		wantMissing(t, none, -1)
		wantMissing(t, none, 0)
		wantMissing(t, none, 1, 1)
		wantMissing(t, none, 2, 1, 2)
		wantMissing(t, none, 19, upTo(19)...)
		wantMissing(t, none, 20, upTo(20)...)
		wantMissing(t, none, 21, upTo(20)...)
		wantMissing(t, none, math.MaxInt, upTo(20)...)
	}
}

func TestMissingIsAtMostTwenty(t *testing.T) {
	wantMissing(t, itemsOf(upTo(41)...), 60, fromTo(42, 60)...)
	wantMissing(t, itemsOf(upTo(40)...), 60, fromTo(41, 60)...)
	wantMissing(t, itemsOf(upTo(39)...), 60, fromTo(40, 59)...)
	wantMissing(t, itemsOf(upTo(39)...), 59, fromTo(40, 59)...)
	wantMissing(t, itemsOf(upTo(39)...), math.MaxInt, fromTo(40, 59)...)
	var even, odd []int
	for n := 1; n <= 30; n++ {
		odd = append(odd, 2*n-1)
		even = append(even, 2*n)
	}
	wantMissing(t, itemsOf(odd...), 39, even[:19]...)
	wantMissing(t, itemsOf(odd...), 40, even[:20]...)
	wantMissing(t, itemsOf(odd...), 42, even[:20]...)
	wantMissing(t, itemsOf(even...), 37, odd[:19]...)
	wantMissing(t, itemsOf(even...), 39, odd[:20]...)
	wantMissing(t, itemsOf(even...), 41, odd[:20]...)
	wantMissing(t, itemsOf(even...), 60, odd[:20]...)
}

func TestMissingOfWrongStores(t *testing.T) {
	wantMissing(t, itemsOf(2, 1), 3, 3)
	wantMissing(t, itemsOf(4, 2, 2), 5, 1, 3, 5)
	wantMissing(t, itemsOf(-1, 0), 2, 1, 2)
	wantMissing(t, itemsOf(upTo(61)...), math.MaxInt)
	wantMissing(t, itemsOf(fromTo(2, 61)...), math.MaxInt, 1)
	wantMissing(t, []impl.Item{{Seq: 2}}, 3, 1, 3)
	wantMissing(t, itemsOf(upTo(5000)...), math.MaxInt)
}

func TestUnionKnown(t *testing.T) {
	wantUnion(t, nil)
	wantUnion(t, [][]impl.Item{})
	wantUnion(t, [][]impl.Item{nil})
	wantUnion(t, [][]impl.Item{{}, nil, {}})
	for _, list := range rightStores() {
		wantUnion(t, [][]impl.Item{list}, list...)
		wantUnion(t, [][]impl.Item{list, list}, list...)
		wantUnion(t, [][]impl.Item{nil, list, {}, nil}, list...)
	}
	wantUnion(t, [][]impl.Item{itemsOf(1, 4), itemsOf(2, 3, 60)}, itemsOf(1, 2, 3, 4, 60)...)
	wantUnion(t, [][]impl.Item{itemsOf(2, 3, 60), nil, itemsOf(1, 4)}, itemsOf(1, 2, 3, 4, 60)...)
	wantUnion(t, [][]impl.Item{itemsOf(3), itemsOf(2), itemsOf(1), itemsOf(2, 3)}, itemsOf(1, 2, 3)...)
	wantUnion(t, [][]impl.Item{storeWithout(7), itemsOf(7)}, itemsOf(upTo(60)...)...)
}

func TestUnionTakesTheFirst(t *testing.T) {
	wantUnion(t, [][]impl.Item{{itemOf(2)}, {otherOf(2)}}, itemOf(2))
	wantUnion(t, [][]impl.Item{{otherOf(2)}, {itemOf(2)}}, otherOf(2))
	wantUnion(t, [][]impl.Item{itemsOf(1, 3), {otherOf(1), otherOf(2), otherOf(3), otherOf(4)}}, itemOf(1), otherOf(2), itemOf(3), otherOf(4))
	wantUnion(t, [][]impl.Item{{otherOf(1), otherOf(2), otherOf(3), otherOf(4)}, itemsOf(1, 3)}, otherOf(1), otherOf(2), otherOf(3), otherOf(4))
	third := impl.Item{Seq: 2, From: 5, Level: 2, Text: ""}
	wantUnion(t, [][]impl.Item{nil, {third}, {otherOf(2)}, {itemOf(2)}}, third)
}

func TestUnionPassesOverWrongStores(t *testing.T) {
	for _, wrong := range wrongStores() {
		wantUnion(t, [][]impl.Item{wrong})
		wantUnion(t, [][]impl.Item{wrong, wrong, nil})
		right := []impl.Item{otherOf(1), otherOf(5), otherOf(30)}
		wantUnion(t, [][]impl.Item{wrong, right}, right...)
		wantUnion(t, [][]impl.Item{right, wrong}, right...)
		wantUnion(t, [][]impl.Item{right, wrong, itemsOf(1, 2)}, otherOf(1), itemOf(2), otherOf(5), otherOf(30))
	}
}

func TestUnionOfTwoAround(t *testing.T) {
	// Of the many that lack one number a few are enough.
	lists := slices.Concat(rightStores()[:25], wrongStores())
	for _, first := range lists {
		for _, list := range lists {
			second := slices.Clone(list)
			for i := range second {
				second[i].Text = "second"
			}
			wantUnion(t, [][]impl.Item{first, second}, unionByHand([][]impl.Item{first, second})...)
		}
	}
}

func TestWholeKnown(t *testing.T) {
	wantWhole(t, nil)
	wantWhole(t, []impl.Item{})
	wantWhole(t, itemsOf(2))
	wantWhole(t, itemsOf(fromTo(2, 60)...))
	wantWhole(t, itemsOf(1), itemOf(1))
	wantWhole(t, itemsOf(1, 2, 4, 5), itemsOf(1, 2)...)
	wantWhole(t, itemsOf(upTo(60)...), itemsOf(upTo(60)...)...)
	for n := 1; n <= 60; n++ {
		wantWhole(t, storeWithout(n), itemsOf(upTo(n-1)...)...)
		wantWhole(t, itemsOf(upTo(n)...), itemsOf(upTo(n)...)...)
	}
}

// Whole asks for numbers alone: those up to AruOf stay as they stand.
func TestWholeOfWrongStores(t *testing.T) {
	wantWhole(t, itemsOf(2, 1), itemsOf(2, 1)...)
	wantWhole(t, itemsOf(4, 2, 1), itemsOf(2, 1)...)
	wantWhole(t, []impl.Item{itemOf(1), otherOf(1), itemOf(3)}, itemOf(1), otherOf(1))
	wantWhole(t, itemsOf(-1, 0, 1, 3), itemsOf(-1, 0, 1)...)
	wantWhole(t, itemsOf(upTo(61)...), itemsOf(upTo(61)...)...)
	wantWhole(t, []impl.Item{{Seq: 1}, {Seq: 3}}, impl.Item{Seq: 1})
	wantWhole(t, itemsOf(61, 62))
}

func TestStoresAround(t *testing.T) {
	for _, list := range storesAround() {
		wantStoreAsByHand(t, list)
		for _, seq := range seqsToAsk() {
			wantPut(t, list, otherOf(seq), putByHand(list, otherOf(seq)))
		}
	}
}

// drawnItem is right mostly, with few numbers to be had, so that many are there already.
func drawnItem(l *lot) impl.Item {
	m := impl.Item{Seq: 1 + l.below(8), From: 1 + l.below(5), Level: 1 + l.below(2), Text: strings.Repeat("x", l.below(3))}
	switch l.below(25) {
	case 0:
		m.Seq = numbersBeside()[l.below(len(numbersBeside()))]
	case 1:
		m.From = []int{0, 6, -1}[l.below(3)]
	case 2:
		m.Level = []int{0, 3, -1}[l.below(3)]
	case 3:
		m.Text = longText(60 + l.below(2))
	}
	return m
}

func drawnItems(l *lot) []impl.Item {
	var list []impl.Item
	for range l.below(7) {
		list = append(list, drawnItem(l))
	}
	if l.below(4) > 0 {
		slices.SortFunc(list, func(a, b impl.Item) int { return cmp.Compare(a.Seq, b.Seq) })
		list = slices.CompactFunc(list, func(a, b impl.Item) bool { return a.Seq == b.Seq })
	}
	return list
}

func TestStoresInDrawnLists(t *testing.T) {
	l := &lot{88}
	right, wrong := 0, 0
	for range 3000 {
		list := drawnItems(l)
		if itemsRightByHand(list) {
			right++
		} else {
			wrong++
		}
		wantStoreAsByHand(t, list)
		m := drawnItem(l)
		wantPut(t, list, m, putByHand(list, m))
		lists := [][]impl.Item{list}
		for range l.below(4) {
			lists = append(lists, drawnItems(l))
		}
		wantUnion(t, lists, unionByHand(lists)...)
		slices.Reverse(lists)
		wantUnion(t, lists, unionByHand(lists)...)
	}
	if right < 500 || wrong < 500 {
		t.Errorf("%d lists were right, %d wrong: too few to tell", right, wrong)
	}
}

// A union is what comes of putting all items of its lists, one by one.
func TestUnionIsPutItemOverAndOver(t *testing.T) {
	l := &lot{888}
	for range 500 {
		var lists [][]impl.Item
		var all []impl.Item
		for range l.below(6) {
			order := shuffled(l, upTo(60))[:l.below(60)]
			list := itemsOf(slices.Sorted(slices.Values(order))...)
			for i := range list {
				list[i].From = 1 + l.below(5)
			}
			lists = append(lists, list)
			for _, m := range list {
				all = impl.PutItem(all, m)
			}
		}
		wantUnion(t, lists, all...)
	}
}

// itemArguments are a list with spare room on both sides, whose texts lie in memory that the test can look at.
type itemArguments struct {
	roomy[impl.Item]
	texts []argument
}

func newItemArguments(list []impl.Item) itemArguments {
	var a itemArguments
	own := slices.Clone(list)
	for i := range own {
		text := newArgument(own[i].Text)
		own[i].Text = text.text
		a.texts = append(a.texts, text)
	}
	spare := newArgument("spare")
	a.texts = append(a.texts, spare)
	a.roomy = newRoomy(own, impl.Item{Seq: 5, From: 1, Level: 1, Text: spare.text})
	return a
}

func sameItem(a, b impl.Item) bool { return a == b }

// untouched fails when the list or a text was written to, or an answer lies in the memory of one of them.
func (a itemArguments) untouched(t *testing.T, call string, answer ...impl.Item) {
	t.Helper()
	a.unchanged(t, call, sameItem)
	if overlap(answer, a.whole) {
		t.Errorf("%s: the answer %s shares memory with its argument", call, shownItems(answer))
	}
	var told []string
	for _, m := range answer {
		told = append(told, m.Text)
	}
	for _, text := range a.texts {
		text.untouched(t, call, told...)
	}
}

func TestStoresLeaveListsAlone(t *testing.T) {
	lists := append(wrongStores(), nil, itemsOf(1), itemsOf(2, 4, 6), itemsOf(1, 2, 4), itemsOf(1, 2, 3), storeWithout(), storeWithout(60), storeWithout(1), storeWithout(30))
	for _, list := range lists {
		a := newItemArguments(list)
		for _, seq := range []int{0, 1, 2, 3, 5, 30, 60, 61} {
			said := newArgument("said anew")
			m := itemOf(seq)
			m.Text = said.text
			put := impl.PutItem(a.list, m)
			a.untouched(t, "PutItem", put...)
			for _, x := range put {
				said.untouched(t, "PutItem", x.Text)
			}
			if overlap(put, impl.PutItem(a.list, m)) {
				t.Errorf("PutItem of %s: two answers share memory", shownItems(list))
			}
			found, _ := impl.ItemAt(a.list, seq)
			a.untouched(t, "ItemAt", found)
			gone := impl.Missing(a.list, seq)
			aliased(t, "Missing", gone, impl.Missing(a.list, seq))
		}
		impl.AruOf(a.list)
		whole := impl.Whole(a.list)
		a.untouched(t, "Whole", whole...)
		if overlap(whole, impl.Whole(a.list)) {
			t.Errorf("Whole of %s: two answers share memory", shownItems(list))
		}
	}
}

func TestUnionLeavesListsAlone(t *testing.T) {
	for _, lists := range [][][]impl.Item{
		{itemsOf(1, 3)}, {itemsOf(1, 3), itemsOf(2)}, {itemsOf(2), itemsOf(1, 2, 3), nil}, {nil, storeWithout(5), itemsOf(5)}, {itemsOf(2, 1), itemsOf(1, 2), itemsOf(0)}, {itemsOf(1, 1), nil}, {storeWithout(), storeWithout()},
	} {
		var inner []itemArguments
		var handed [][]impl.Item
		for _, list := range lists {
			inner = append(inner, newItemArguments(list))
			handed = append(handed, inner[len(inner)-1].list)
		}
		spare := newItemArguments(itemsOf(7, 8))
		outer := newRoomy(handed, spare.list)
		union := impl.Union(outer.list)
		sameList := func(a, b []impl.Item) bool {
			return slices.Equal(a, b) && cap(a) == cap(b) && (cap(a) == 0 || overlap(a, b))
		}
		outer.unchanged(t, "Union", sameList)
		for _, list := range append(inner, spare) {
			list.untouched(t, "Union", union...)
		}
		if overlap(union, impl.Union(outer.list)) {
			t.Errorf("Union of %d lists: two answers share memory", len(lists))
		}
	}
}

func TestStoresDoNotLookIntoSpareRoom(t *testing.T) {
	all := itemsOf(1, 2, 3)
	wantAru(t, all[:1], 1)
	wantMissing(t, all[:1], 3, 2, 3)
	wantItemAt(t, all[:1], 2, impl.Item{}, false)
	wantWhole(t, all[:2], itemsOf(1, 2)...)
	wantPut(t, all[:1], otherOf(2), []impl.Item{itemOf(1), otherOf(2)})
	wantUnion(t, [][]impl.Item{all[:1], all[2:]}, itemsOf(1, 3)...)
	wantUnion(t, [][]impl.Item{all[:1], all}[:1], itemOf(1))
}

func TestTwoFromOneStore(t *testing.T) {
	first := impl.PutItem(itemsOf(1, 2), itemOf(3))
	left := impl.PutItem(first, itemOf(5))
	right := impl.PutItem(first, itemOf(4))
	if !slices.Equal(left, itemsOf(1, 2, 3, 5)) || !slices.Equal(right, itemsOf(1, 2, 3, 4)) || !slices.Equal(first, itemsOf(1, 2, 3)) {
		t.Errorf("two put to %s: %s and %s", shownItems(first), shownItems(left), shownItems(right))
	}
}

func TestStoresKeepNothing(t *testing.T) {
	list := itemsOf(1, 2, 4)
	first := impl.PutItem(list, itemOf(3))
	for range 3 {
		wantPut(t, list, itemOf(3), itemsOf(1, 2, 3, 4))
		wantPut(t, list, itemOf(61), list)
		wantUnion(t, [][]impl.Item{list, itemsOf(3)}, itemsOf(1, 2, 3, 4)...)
		wantMissing(t, list, 5, 3, 5)
		wantWhole(t, list, itemsOf(1, 2)...)
		wantAru(t, list, 2)
		wantItemAt(t, list, 3, impl.Item{}, false)
		impl.PutItem(list, itemOf(3))[0] = impl.Item{}
		impl.Union([][]impl.Item{list})[0] = impl.Item{}
		impl.Missing(list, 5)[0] = 99
		impl.Whole(list)[0] = impl.Item{}
	}
	if !slices.Equal(first, itemsOf(1, 2, 3, 4)) {
		t.Errorf("what was put first became %s", shownItems(first))
	}
}
