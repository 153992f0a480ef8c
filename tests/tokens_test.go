package tests

import (
	"fmt"
	"math"
	"slices"
	"strings"
	"testing"

	"loop.example/g00183/impl"
)

func ringRightByHand(r impl.Ring) bool {
	there := slices.DeleteFunc(upTo(5), func(d int) bool { return !slices.Contains(r.Members, d) })
	return slices.Contains(upTo(9), r.Id) && len(there) > 0 && slices.Equal(r.Members, there)
}

// nextByHand goes around over all daemons, of which some are no members.
func nextByHand(r impl.Ring, d int) int {
	if !ringRightByHand(r) || !slices.Contains(r.Members, d) {
		return 0
	}
	next := d%5 + 1
	for !slices.Contains(r.Members, next) {
		next = next%5 + 1
	}
	return next
}

// numberByHand says the texts one by one, each as if it were the last.
func numberByHand(k impl.Token, from int, level []int, texts []string) (impl.Token, []impl.Item) {
	items := []impl.Item{}
	if !tokenRightByHand(k) || from < 1 || from > 5 {
		return k, items
	}
	for i := range min(3, len(texts)) {
		if len(texts[i]) > 60 || k.Seq >= 60 {
			return k, items
		}
		m := impl.Item{Seq: k.Seq + 1, From: from, Level: 1, Text: texts[i]}
		if i < len(level) && level[i] == 2 {
			m.Level = 2
		}
		items = append(items, m)
		if k.Aru == k.Seq && k.By == 0 {
			k.Aru = m.Seq
		}
		k.Seq = m.Seq
	}
	return k, items
}

func markByHand(k impl.Token, d, aru int) impl.Token {
	switch {
	case !tokenRightByHand(k), d < 1, d > 5, aru < 0:
	case aru < k.Aru:
		k.Aru, k.By = aru, d
	case k.By == d && aru < k.Seq:
		k.Aru = aru
	case k.By == d:
		k.Aru, k.By = k.Seq, 0
	}
	return k
}

func lacksByHand(k impl.Token, list []impl.Item) impl.Token {
	lacking := map[int]int{}
	for _, want := range k.Wants {
		if !hasSeq(list, want) {
			lacking[want]++
		}
	}
	for _, seq := range missingByHand(list, k.Seq) {
		lacking[seq]++
	}
	var wants []int
	for want := range lacking {
		wants = append(wants, want)
	}
	slices.Sort(wants)
	k.Wants = wants[:min(len(wants), 20)]
	return k
}

func giveByHand(k impl.Token, list []impl.Item) []impl.Item {
	return slices.DeleteFunc(slices.Clone(list), func(m impl.Item) bool { return !slices.Contains(k.Wants, m.Seq) })
}

func wantRingOk(t *testing.T, r impl.Ring, want bool) {
	t.Helper()
	if got := impl.RingOk(r); got != want {
		t.Errorf("RingOk(%v): %t; want %t", r, got, want)
	}
}

func wantNext(t *testing.T, r impl.Ring, d, want int) {
	t.Helper()
	if got := impl.NextOf(r, d); got != want {
		t.Errorf("NextOf(%v, %d): %d; want %d", r, d, got, want)
	}
}

func wantFirst(t *testing.T, r impl.Ring, want impl.Token) {
	t.Helper()
	if got := impl.FirstToken(r); !sameToken(got, want) {
		t.Errorf("FirstToken(%v): %+v; want %+v", r, got, want)
	}
}

func wantNumbered(t *testing.T, k impl.Token, from int, level []int, texts []string, want impl.Token, wantItems ...impl.Item) {
	t.Helper()
	got, items := impl.Number(k, from, level, texts)
	if !sameToken(got, want) || !slices.Equal(items, wantItems) {
		t.Errorf("Number(%+v, %d, %v, %.200q): %+v, %s; want %+v, %s", k, from, level, texts, got, shownItems(items), want, shownItems(wantItems))
	}
}

func wantNumberedAsByHand(t *testing.T, k impl.Token, from int, level []int, texts []string) {
	t.Helper()
	want, items := numberByHand(k, from, level, texts)
	wantNumbered(t, k, from, level, texts, want, items...)
}

func wantMarked(t *testing.T, k impl.Token, d, aru int, want impl.Token) {
	t.Helper()
	if got := impl.Mark(k, d, aru); !sameToken(got, want) {
		t.Errorf("Mark(%+v, %d, %d): %+v; want %+v", k, d, aru, got, want)
	}
}

func wantLacks(t *testing.T, k impl.Token, list []impl.Item, want impl.Token) {
	t.Helper()
	if got := impl.Lacks(k, list); !sameToken(got, want) {
		t.Errorf("Lacks(%+v, %v): %+v; want %+v", k, seqsOf(list), got, want)
	}
}

func wantGiven(t *testing.T, k impl.Token, list []impl.Item, want ...impl.Item) {
	t.Helper()
	if got := impl.Give(k, list); !slices.Equal(got, want) {
		t.Errorf("Give(%+v, %v): %s; want %s", k, seqsOf(list), shownItems(got), shownItems(want))
	}
}

// rightRings are all that there are.
func rightRings() []impl.Ring {
	var list []impl.Ring
	for id := 1; id <= 9; id++ {
		for set := 1; set < 32; set++ {
			list = append(list, impl.Ring{Id: id, Members: slices.DeleteFunc(upTo(5), func(d int) bool { return set>>(d-1)%2 == 0 })})
		}
	}
	return list
}

func wrongMembers() [][]int {
	return [][]int{
		nil, {}, {0}, {6}, {-1}, {math.MinInt}, {math.MaxInt}, {257}, {1<<32 + 1}, {0, 1}, {0, 0}, {1, 6}, {5, 6}, {-1, 1}, {1, 2, 3, 4, 5, 6}, {0, 1, 2, 3, 4}, {0, 1, 2, 3, 4, 5}, {2, 3, 4, 5, 6},
		{1, 1}, {5, 5}, {1, 2, 2}, {1, 1, 2}, {1, 2, 3, 4, 5, 5}, {1, 1, 2, 3, 4, 5}, {1, 2, 3, 4, 4}, {1, 2, 1}, {3, 3, 3, 3, 3},
		{2, 1}, {5, 4, 3, 2, 1}, {1, 3, 2}, {2, 1, 3}, {1, 2, 3, 5, 4}, {5, 1}, {1, math.MaxInt}, {math.MinInt, 1}, make([]int, 5), make([]int, 5000), upTo(5000),
	}
}

func wrongRings() []impl.Ring {
	list := []impl.Ring{{}}
	for _, members := range wrongMembers() {
		for _, id := range []int{0, 1, 9, 10} {
			list = append(list, impl.Ring{Id: id, Members: members})
		}
	}
	for _, id := range append(numbersBeside(), 10, 11, 60) {
		for _, members := range [][]int{{1}, {5}, {1, 3}, upTo(5)} {
			list = append(list, impl.Ring{Id: id, Members: members})
		}
	}
	return list
}

func TestTokenConstants(t *testing.T) {
	if impl.MaxBurst != 3 {
		t.Error("the constant of tokens is not the document's")
	}
}

func TestRingOkEdges(t *testing.T) {
	for _, id := range []int{1, 2, 8, 9} {
		for _, members := range [][]int{{1}, {2}, {5}, {1, 2}, {1, 5}, {2, 4, 5}, {1, 2, 3, 4}, {1, 2, 3, 4, 5}} {
			wantRingOk(t, impl.Ring{Id: id, Members: members}, true)
		}
	}
	for _, id := range []int{0, 10, -1, math.MinInt, math.MaxInt} {
		wantRingOk(t, impl.Ring{Id: id, Members: []int{1, 3}}, false)
	}
	for _, r := range wrongRings() {
		wantRingOk(t, r, false)
	}
	for _, r := range rightRings() {
		wantRingOk(t, r, true)
	}
}

// Every list of at most six numbers in 0 .. 6 is tried, but the longest ones only where they begin in order.
func TestRingOkOfEveryShortList(t *testing.T) {
	var try func(members []int)
	try = func(members []int) {
		r := impl.Ring{Id: 1 + len(members), Members: members}
		wantRingOk(t, r, ringRightByHand(r))
		for _, d := range members {
			wantNext(t, r, d, nextByHand(r, d))
		}
		if len(members) == 6 || len(members) == 4 && !slices.IsSorted(members) {
			return
		}
		for d := 0; d <= 6; d++ {
			try(append(slices.Clone(members), d))
		}
	}
	try(nil)
}

func TestRingsDoNotLookIntoSpareRoom(t *testing.T) {
	members := []int{1, 3, 4, 2}
	wantRingOk(t, impl.Ring{Id: 1, Members: members}, false)
	wantRingOk(t, impl.Ring{Id: 1, Members: members[:3]}, true)
	wantRingOk(t, impl.Ring{Id: 1, Members: members[:0]}, false)
	wantNext(t, impl.Ring{Id: 1, Members: members[:2]}, 3, 1)
	wantNext(t, impl.Ring{Id: 1, Members: members[:2]}, 4, 0)
	wantNext(t, impl.Ring{Id: 1, Members: members[1:3]}, 4, 3)
	wantNext(t, impl.Ring{Id: 1, Members: members[1:3]}, 1, 0)
}

func TestNextOfKnown(t *testing.T) {
	r := impl.Ring{Id: 3, Members: []int{1, 3, 4}}
	wantNext(t, r, 1, 3)
	wantNext(t, r, 3, 4)
	wantNext(t, r, 4, 1)
	for _, d := range []int{2, 5, 6, 0, -1, -3, math.MinInt, math.MaxInt, 257, 1<<32 + 1} {
		wantNext(t, r, d, 0)
	}
	wantNext(t, impl.Ring{Id: 1, Members: []int{1}}, 1, 1)
	wantNext(t, impl.Ring{Id: 9, Members: []int{5}}, 5, 5)
	wantNext(t, impl.Ring{Id: 9, Members: []int{5}}, 1, 0)
	all := impl.Ring{Id: 2, Members: upTo(5)}
	for d := 1; d <= 5; d++ {
		wantNext(t, all, d, d%5+1)
	}
}

func TestNextOfWrongRings(t *testing.T) {
	for _, r := range wrongRings() {
		for _, d := range append(wildNumbers(), upTo(6)...) {
			wantNext(t, r, d, 0)
		}
		for _, d := range r.Members[:min(len(r.Members), 8)] {
			wantNext(t, r, d, 0)
		}
	}
}

// A token that is passed on comes to every member once, and then to the first again.
func TestNextOfGoesAround(t *testing.T) {
	for _, r := range rightRings() {
		for place, first := range r.Members {
			var passed []int
			d := first
			for range r.Members {
				passed = append(passed, d)
				d = impl.NextOf(r, d)
			}
			want := append(slices.Clone(r.Members[place:]), r.Members[:place]...)
			if d != first || !slices.Equal(passed, want) {
				t.Errorf("around %v from %d: %v, then %d; want %v, then %d", r, first, passed, d, want, first)
			}
		}
		for _, d := range append(numbersBeside(), upTo(7)...) {
			wantNext(t, r, d, nextByHand(r, d))
		}
	}
}

func TestFirstToken(t *testing.T) {
	wantFirst(t, impl.Ring{Id: 1, Members: []int{1, 3}}, impl.Token{Conf: 1, Round: 1})
	for _, r := range rightRings() {
		wantFirst(t, r, impl.Token{Conf: r.Id, Round: 1})
		wantTokenOk(t, impl.FirstToken(r), true)
	}
	for _, r := range wrongRings() {
		wantFirst(t, r, impl.Token{})
	}
}

func TestNumberKnown(t *testing.T) {
	first := impl.Token{Conf: 4, Round: 7}
	wantNumbered(t, first, 2, nil, nil, first)
	wantNumbered(t, first, 2, []int{}, []string{}, first)
	wantNumbered(t, first, 2, []int{2, 2}, nil, first)
	one := impl.Item{Seq: 1, From: 2, Level: 2, Text: "a"}
	wantNumbered(t, first, 2, []int{2}, []string{"a"}, impl.Token{Conf: 4, Round: 7, Seq: 1, Aru: 1}, one)
	two, three := impl.Item{Seq: 2, From: 2, Level: 1}, impl.Item{Seq: 3, From: 2, Level: 2, Text: "a"}
	wantNumbered(t, first, 2, []int{2, 1}, []string{"a", ""}, impl.Token{Conf: 4, Round: 7, Seq: 2, Aru: 2}, one, two)
	wantNumbered(t, first, 2, []int{2, 1, 2}, []string{"a", "", "a"}, impl.Token{Conf: 4, Round: 7, Seq: 3, Aru: 3}, one, two, three)
	wantNumbered(t, first, 2, []int{2, 1, 2, 2}, []string{"a", "", "a", "b"}, impl.Token{Conf: 4, Round: 7, Seq: 3, Aru: 3}, one, two, three)
	wantNumbered(t, first, 2, []int{2, 1, 2}, append([]string{"a", "", "a"}, saidTexts(100)...), impl.Token{Conf: 4, Round: 7, Seq: 3, Aru: 3}, one, two, three)

	later := impl.Token{Conf: 9, Round: 1000000000, Seq: 41, Aru: 30, By: 5, Wants: []int{31, 41}}
	then := later
	then.Seq = 43
	wantNumbered(t, later, 5, nil, []string{"x", "y"}, then, impl.Item{Seq: 42, From: 5, Level: 1, Text: "x"}, impl.Item{Seq: 43, From: 5, Level: 1, Text: "y"})
}

func TestNumberLevels(t *testing.T) {
	texts := []string{"a", "b", "c"}
	wantLevels := func(level []int, want ...int) {
		t.Helper()
		_, items := impl.Number(impl.Token{Conf: 1, Round: 1}, 1, level, texts)
		var got []int
		for _, m := range items {
			got = append(got, m.Level)
		}
		if !slices.Equal(got, want) {
			t.Errorf("Number by %v: levels %v; want %v", level, got, want)
		}
	}
	wantLevels(nil, 1, 1, 1)
	wantLevels([]int{}, 1, 1, 1)
	wantLevels([]int{2}, 2, 1, 1)
	wantLevels([]int{1, 2}, 1, 2, 1)
	wantLevels([]int{2, 1, 2}, 2, 1, 2)
	wantLevels([]int{1, 1, 1, 2}, 1, 1, 1)
	wantLevels([]int{2, 2, 2, 2, 2}, 2, 2, 2)
	for _, n := range append(wildNumbers(), -2, 3, 4, 258, 1<<32+2) {
		if n != 2 {
			wantLevels([]int{n, 2, n}, 1, 2, 1)
			wantLevels([]int{2, n, 2}, 2, 1, 2)
		}
	}
	spare := []int{1, 2, 2}
	wantLevels(spare[:1], 1, 1, 1)
}

func TestNumberAtTheLastSeq(t *testing.T) {
	texts := saidTexts(4)
	for seq := 56; seq <= 60; seq++ {
		k := impl.Token{Conf: 1, Round: 1, Seq: seq, Aru: seq}
		given := min(3, 60-seq)
		want := impl.Token{Conf: 1, Round: 1, Seq: seq + given, Aru: seq + given}
		var items []impl.Item
		for i := range given {
			items = append(items, impl.Item{Seq: seq + 1 + i, From: 3, Level: 1, Text: texts[i]})
		}
		wantNumbered(t, k, 3, nil, texts, want, items...)
		low := impl.Token{Conf: 1, Round: 1, Seq: seq, Aru: 5, By: 3}
		want = impl.Token{Conf: 1, Round: 1, Seq: seq + given, Aru: 5, By: 3}
		wantNumbered(t, low, 3, nil, texts, want, items...)
	}
}

// A text that is too long ends what is said: those behind it must not come ahead of it.
func TestNumberLongTexts(t *testing.T) {
	k := impl.Token{Conf: 1, Round: 1}
	for place := range 4 {
		for _, size := range []int{0, 1, 59, 60, 61, 62, 128, 60 + 256, impl.MaxText + 1} {
			texts := []string{"a", "b", "c", "d"}
			texts[place] = longText(size)
			given := 3
			if size > 60 {
				given = min(3, place)
			}
			var items []impl.Item
			for i := range given {
				items = append(items, impl.Item{Seq: i + 1, From: 1, Level: 2, Text: texts[i]})
			}
			wantNumbered(t, k, 1, []int{2, 2, 2, 2}, texts, impl.Token{Conf: 1, Round: 1, Seq: given, Aru: given}, items...)
		}
	}
	// Bytes count, not runes.
	wide := strings.Repeat("ü", 30)
	wantNumbered(t, k, 1, nil, []string{wide, wide + "ü"}, impl.Token{Conf: 1, Round: 1, Seq: 1, Aru: 1}, impl.Item{Seq: 1, From: 1, Level: 1, Text: wide})
}

// Only while nobody lacks anything do the new numbers count as had by all.
func TestNumberAru(t *testing.T) {
	for aru := 0; aru <= 5; aru++ {
		for by := 0; by <= 5; by++ {
			k := impl.Token{Conf: 1, Round: 1, Seq: 5, Aru: aru, By: by}
			want := k
			want.Seq = 6
			if aru == 5 && by == 0 {
				want.Aru = 6
			}
			wantNumbered(t, k, 3, nil, []string{"x"}, want, impl.Item{Seq: 6, From: 3, Level: 1, Text: "x"})
			wantNumbered(t, k, 3, nil, nil, k)
			wantNumbered(t, k, 3, nil, []string{longText(61)}, k)
		}
	}
}

func TestNumberRefuses(t *testing.T) {
	for _, k := range wrongTokens() {
		for _, from := range []int{0, 1, 5, 6} {
			wantNumbered(t, k, from, []int{2}, []string{"a", "b"}, k)
			wantNumbered(t, k, from, nil, nil, k)
		}
	}
	k := impl.Token{Conf: 1, Round: 1, Seq: 5, Aru: 5, Wants: []int{2, 4}}
	for _, from := range append(wildNumbers(), 0, 6, -1, 7, 257) {
		if from < 1 || from > 5 {
			wantNumbered(t, k, from, []int{2}, []string{"a", "b"}, k)
		}
	}
	for from := 1; from <= 5; from++ {
		want := impl.Token{Conf: 1, Round: 1, Seq: 6, Aru: 6, Wants: []int{2, 4}}
		wantNumbered(t, k, from, nil, []string{"a"}, want, impl.Item{Seq: 6, From: from, Level: 1, Text: "a"})
	}
}

func textsToNumber() [][]string {
	return [][]string{nil, {""}, {"a", "b"}, {"a", longText(61), "b"}, {longText(61), "a"}, {longText(60), "\xff", ""}, {"a", "b", "c", "d"}, {"a", "b", "c", longText(61)}}
}

// What a token numbers has the next numbers, one behind the other, and the token stays right.
func TestNumberAround(t *testing.T) {
	levels := [][]int{nil, {2}, {1, 2, 2}, {2, 0, 3, 2}}
	for i, k := range rightTokens() {
		for j, texts := range textsToNumber() {
			from, level := 1+(i+j)%5, levels[(i+j)%len(levels)]
			wantNumberedAsByHand(t, k, from, level, texts)
			next, items := impl.Number(k, from, level, texts)
			wantTokenOk(t, next, true)
			wantItemsOk(t, "what was numbered", true, items...)
			if !slices.Equal(seqsOf(items), fromTo(k.Seq+1, next.Seq)) || len(items) > 3 {
				t.Errorf("Number(%+v) gave the numbers %v", k, seqsOf(items))
			}
			for i, m := range items {
				if m.From != from || m.Text != texts[i] {
					t.Errorf("Number(%+v, %d, %.80q) said %s", k, from, texts, shownItem(m))
				}
			}
		}
	}
}

// Over many that speak in turn no number is given twice, and none is left out.
func TestNumbersAscend(t *testing.T) {
	l := &lot{9}
	for range 200 {
		r := rightRings()[l.below(len(rightRings()))]
		k, d := impl.FirstToken(r), r.Members[0]
		var all []impl.Item
		for range 60 {
			var texts []string
			for range l.below(5) {
				texts = append(texts, longText(l.below(62)))
			}
			next, items := impl.Number(k, d, []int{l.below(4), l.below(4)}, texts)
			wantNumberedAsByHand(t, k, d, []int{}, texts)
			all = append(all, items...)
			if next.Seq < k.Seq || next.Seq != len(all) || next.Aru != next.Seq {
				t.Errorf("Number(%+v) made %+v, with %d numbered in all", k, next, len(all))
			}
			k, d = next, impl.NextOf(r, d)
		}
		wantItemsOk(t, "all that was numbered", true, all...)
		if !slices.Equal(seqsOf(all), upTo(k.Seq)) {
			t.Errorf("all that was numbered has the numbers %v", seqsOf(all))
		}
	}
}

func TestMarkKnown(t *testing.T) {
	whole := impl.Token{Conf: 1, Round: 2, Seq: 9, Aru: 9, Wants: []int{3}}
	token := func(aru, by int) impl.Token {
		return impl.Token{Conf: 1, Round: 2, Seq: 9, Aru: aru, By: by, Wants: []int{3}}
	}
	wantMarked(t, whole, 2, 4, token(4, 2))
	wantMarked(t, whole, 2, 8, token(8, 2))
	wantMarked(t, whole, 2, 0, token(0, 2))
	for _, aru := range []int{9, 10, 61, math.MaxInt} {
		wantMarked(t, whole, 2, aru, whole)
		wantMarked(t, token(4, 2), 2, aru, whole)
		wantMarked(t, token(9, 2), 2, aru, whole)
		wantMarked(t, token(4, 2), 3, aru, token(4, 2))
		wantMarked(t, token(4, 0), 3, aru, token(4, 0))
	}
	wantMarked(t, token(4, 2), 2, 4, token(4, 2))
	wantMarked(t, token(4, 2), 2, 5, token(5, 2))
	wantMarked(t, token(4, 2), 2, 8, token(8, 2))
	wantMarked(t, token(4, 2), 2, 3, token(3, 2))
	wantMarked(t, token(4, 2), 3, 3, token(3, 3))
	wantMarked(t, token(4, 2), 3, 4, token(4, 2))
	wantMarked(t, token(4, 2), 3, 5, token(4, 2))
	wantMarked(t, token(4, 0), 3, 4, token(4, 0))
	wantMarked(t, token(4, 0), 3, 3, token(3, 3))
	wantMarked(t, token(0, 2), 2, 0, token(0, 2))
	wantMarked(t, token(0, 2), 3, 0, token(0, 2))
	empty := impl.Token{Conf: 1, Round: 1}
	wantMarked(t, empty, 1, 0, empty)
	wantMarked(t, empty, 1, 5, empty)
	wantMarked(t, impl.Token{Conf: 1, Round: 1, By: 1}, 1, 0, empty)
	wantMarked(t, impl.Token{Conf: 1, Round: 1, By: 1}, 1, 7, empty)
	wantMarked(t, impl.Token{Conf: 1, Round: 1, By: 1}, 2, 7, impl.Token{Conf: 1, Round: 1, By: 1})
}

func TestMarkRefuses(t *testing.T) {
	for _, k := range wrongTokens() {
		for _, d := range []int{0, 1, 5, 6, k.By} {
			for _, aru := range []int{0, 1, 60, k.Aru, k.Seq, math.MinInt, math.MaxInt} {
				wantMarked(t, k, d, aru, k)
			}
		}
	}
	for by := 0; by <= 5; by++ {
		k := impl.Token{Conf: 1, Round: 1, Seq: 5, Aru: 3, By: by}
		for _, d := range append(wildNumbers(), 0, 6, -1, 257) {
			if d >= 1 && d <= 5 {
				continue
			}
			for _, aru := range []int{-1, 0, 2, 3, 4, 5, 6} {
				wantMarked(t, k, d, aru, k)
			}
		}
		for d := 1; d <= 5; d++ {
			for _, aru := range []int{-1, -2, math.MinInt, math.MinInt + 1, -1 << 32} {
				wantMarked(t, k, d, aru, k)
			}
		}
	}
}

// A token that is marked is never above what it was told, and only who lowered it raises it.
func TestMarkAround(t *testing.T) {
	for _, k := range rightTokens() {
		for d := 0; d <= 6; d++ {
			for _, aru := range []int{math.MinInt, -1, 0, 1, k.Aru - 1, k.Aru, k.Aru + 1, k.Seq - 1, k.Seq, k.Seq + 1, math.MaxInt} {
				want := markByHand(k, d, aru)
				wantMarked(t, k, d, aru, want)
				got := impl.Mark(k, d, aru)
				wantTokenOk(t, got, true)
				if d >= 1 && d <= 5 && aru >= 0 && got.Aru > aru {
					t.Errorf("Mark(%+v, %d, %d) is above what it was told: %+v", k, d, aru, got)
				}
				if got.Aru > k.Aru && k.By != d {
					t.Errorf("Mark(%+v, %d, %d) was raised by another one: %+v", k, d, aru, got)
				}
				if got.Aru < k.Aru && got.By != d {
					t.Errorf("Mark(%+v, %d, %d) does not tell who lowered it: %+v", k, d, aru, got)
				}
			}
		}
	}
}

func TestMarkOfEverySmallToken(t *testing.T) {
	for seq := 0; seq <= 4; seq++ {
		for aru := 0; aru <= seq; aru++ {
			for by := 0; by <= 5; by++ {
				k := impl.Token{Conf: 2, Round: 3, Seq: seq, Aru: aru, By: by}
				for d := -1; d <= 7; d++ {
					for told := -1; told <= 6; told++ {
						wantMarked(t, k, d, told, markByHand(k, d, told))
					}
				}
			}
		}
	}
}

func TestLacksKnown(t *testing.T) {
	token := func(seq int, wants ...int) impl.Token {
		return impl.Token{Conf: 3, Round: 4, Seq: seq, Aru: min(seq, 1), By: 2, Wants: wants}
	}
	for _, none := range [][]impl.Item{nil, {}} {
		wantLacks(t, token(0), none, token(0))
		wantLacks(t, token(1), none, token(1, 1))
		wantLacks(t, token(3), none, token(3, 1, 2, 3))
		wantLacks(t, token(3, 2), none, token(3, 1, 2, 3))
		wantLacks(t, token(3, []int{}...), none, token(3, 1, 2, 3))
	}
	list := itemsOf(1, 2, 4, 7)
	wantLacks(t, token(0), list, token(0))
	wantLacks(t, token(1), list, token(1))
	wantLacks(t, token(2), list, token(2))
	wantLacks(t, token(2, 1, 2), list, token(2))
	wantLacks(t, token(3), list, token(3, 3))
	wantLacks(t, token(3, 3), list, token(3, 3))
	wantLacks(t, token(7), list, token(7, 3, 5, 6))
	wantLacks(t, token(7, 1, 2, 4, 7), list, token(7, 3, 5, 6))
	wantLacks(t, token(7, 1, 5, 7), list, token(7, 3, 5, 6))
	wantLacks(t, token(8, 2, 6), list, token(8, 3, 5, 6, 8))
	wantLacks(t, token(60, upTo(20)...), itemsOf(upTo(60)...), token(60))
	wantLacks(t, token(60), itemsOf(upTo(58)...), token(60, 59, 60))
	wantLacks(t, token(60, 60), storeWithout(31), token(60, 31))
}

func TestLacksWantsAtMostTwenty(t *testing.T) {
	token := func(seq int, wants ...int) impl.Token {
		return impl.Token{Conf: 1, Round: 1, Seq: seq, Wants: wants}
	}
	for _, wants := range [][]int{nil, {1}, {5, 9, 19}} {
		wantLacks(t, token(19, wants...), nil, token(19, upTo(19)...))
		wantLacks(t, token(20, wants...), nil, token(20, upTo(20)...))
		wantLacks(t, token(21, wants...), nil, token(21, upTo(20)...))
		wantLacks(t, token(60, wants...), nil, token(60, upTo(20)...))
	}
	wantLacks(t, token(60, fromTo(41, 60)...), nil, token(60, upTo(20)...))
	wantLacks(t, token(60, 60), itemsOf(upTo(40)...), token(60, fromTo(41, 60)...))
	wantLacks(t, token(60, 60), itemsOf(upTo(39)...), token(60, fromTo(40, 59)...))
	wantLacks(t, token(60, fromTo(41, 60)...), storeWithout(7), token(60, 7))
	even := []int{}
	for n := 2; n <= 60; n += 2 {
		even = append(even, n)
	}
	odd := slices.DeleteFunc(upTo(60), func(n int) bool { return n%2 == 0 })
	wantLacks(t, token(38), itemsOf(odd...), token(38, even[:19]...))
	wantLacks(t, token(40), itemsOf(odd...), token(40, even[:20]...))
	wantLacks(t, token(42), itemsOf(odd...), token(42, even[:20]...))
	wantLacks(t, token(42, fromTo(23, 42)...), itemsOf(odd...), token(42, even[:20]...))
	// Wants that Missing does not tell of stand with what it tells: its twenty are cut once more.
	wantLacks(t, token(10, -5, 0), nil, token(10, append([]int{-5, 0}, upTo(10)...)...))
	wantLacks(t, token(17, -5, 0), nil, token(17, append([]int{-5, 0}, upTo(17)...)...))
	wantLacks(t, token(18, -5, 0), nil, token(18, append([]int{-5, 0}, upTo(18)...)...))
	wantLacks(t, token(19, -5, 0), nil, token(19, append([]int{-5, 0}, upTo(18)...)...))
	wantLacks(t, token(0, upTo(19)...), nil, token(0, upTo(19)...))
	wantLacks(t, token(0, upTo(20)...), nil, token(0, upTo(20)...))
	wantLacks(t, token(0, upTo(21)...), nil, token(0, upTo(20)...))
}

// Lacks asks for Wants, Seq and numbers alone: whether the token or the list is right is not asked.
func TestLacksOfWrongArguments(t *testing.T) {
	wantLacks(t, impl.Token{}, nil, impl.Token{})
	wantLacks(t, impl.Token{Seq: 2}, nil, impl.Token{Seq: 2, Wants: []int{1, 2}})
	wantLacks(t, impl.Token{Seq: -1, Wants: []int{4}}, itemsOf(1), impl.Token{Seq: -1, Wants: []int{4}})
	wantLacks(t, impl.Token{Seq: math.MinInt}, nil, impl.Token{Seq: math.MinInt})
	wantLacks(t, impl.Token{Seq: 61}, storeWithout(60), impl.Token{Seq: 61, Wants: []int{60}})
	wantLacks(t, impl.Token{Seq: math.MaxInt, Conf: -3}, storeWithout(2), impl.Token{Seq: math.MaxInt, Conf: -3, Wants: []int{2}})
	wantLacks(t, impl.Token{Seq: 3, Wants: []int{9, 2, 9, 0, 2}}, itemsOf(1), impl.Token{Seq: 3, Wants: []int{0, 2, 3, 9}})
	wantLacks(t, impl.Token{Seq: 3, Wants: []int{3, 2, 1}}, itemsOf(1, 3), impl.Token{Seq: 3, Wants: []int{2}})
	wantLacks(t, impl.Token{Wants: []int{math.MaxInt, math.MinInt}}, nil, impl.Token{Wants: []int{math.MinInt, math.MaxInt}})
	wantLacks(t, impl.Token{Wants: []int{math.MaxInt, math.MinInt}}, itemsOf(math.MaxInt), impl.Token{Wants: []int{math.MinInt}})
	wantLacks(t, impl.Token{Wants: make([]int, 5000)}, nil, impl.Token{Wants: []int{0}})
	wantLacks(t, impl.Token{Wants: make([]int, 5000)}, itemsOf(0), impl.Token{})
	wantLacks(t, impl.Token{Seq: 4}, itemsOf(3, 1), impl.Token{Seq: 4, Wants: []int{2, 4}})
	wantLacks(t, impl.Token{Seq: 4}, itemsOf(1, 1), impl.Token{Seq: 4, Wants: []int{2, 3, 4}})
	wantLacks(t, impl.Token{Seq: 2, Wants: []int{1, 2}}, []impl.Item{{Seq: 1}, {Seq: 2, Text: longText(61)}}, impl.Token{Seq: 2})
}

func TestGiveKnown(t *testing.T) {
	token := func(wants ...int) impl.Token {
		return impl.Token{Conf: 3, Round: 4, Seq: 9, Wants: wants}
	}
	list := []impl.Item{itemOf(1), otherOf(3), itemOf(4), otherOf(9)}
	wantGiven(t, token(), list)
	wantGiven(t, token([]int{}...), list)
	for _, none := range [][]impl.Item{nil, {}} {
		wantGiven(t, token(), none)
		wantGiven(t, token(1, 2), none)
	}
	wantGiven(t, token(2), list)
	wantGiven(t, token(1), list, itemOf(1))
	wantGiven(t, token(2, 3, 5), list, otherOf(3))
	wantGiven(t, token(1, 2, 3, 8, 9), list, itemOf(1), otherOf(3), otherOf(9))
	wantGiven(t, token(1, 3, 4, 9), list, list...)
	wantGiven(t, token(fromTo(41, 60)...), itemsOf(upTo(60)...), itemsOf(fromTo(41, 60)...)...)
	wantGiven(t, token(upTo(20)...), itemsOf(fromTo(20, 60)...), itemOf(20))
}

// Give asks for Wants and numbers alone: those of the list stand as they stood there.
func TestGiveOfWrongArguments(t *testing.T) {
	wantGiven(t, impl.Token{Wants: []int{3, 1}}, itemsOf(1, 2, 3), itemsOf(1, 3)...)
	wantGiven(t, impl.Token{Wants: []int{1, 1}}, itemsOf(1, 2), itemOf(1))
	wantGiven(t, impl.Token{Wants: []int{1, 2}}, itemsOf(3, 2, 1), itemsOf(2, 1)...)
	wantGiven(t, impl.Token{Wants: []int{1}}, []impl.Item{itemOf(1), otherOf(1), itemOf(2)}, itemOf(1), otherOf(1))
	wantGiven(t, impl.Token{Wants: []int{0}}, make([]impl.Item, 3), make([]impl.Item, 3)...)
	wantGiven(t, impl.Token{Wants: upTo(70)}, itemsOf(upTo(70)...), itemsOf(upTo(70)...)...)
	wantGiven(t, impl.Token{Seq: 1, Wants: []int{61, math.MaxInt, math.MinInt}}, itemsOf(61, 1, math.MinInt, math.MaxInt), itemsOf(61, math.MinInt, math.MaxInt)...)
	long := impl.Item{Seq: 2, From: 9, Level: -1, Text: longText(61)}
	wantGiven(t, impl.Token{Conf: -1, Wants: []int{2}}, []impl.Item{{Seq: 1}, long}, long)
}

// A token wants what one lacks, and no more what one has; what is given is what was wanted.
func wantPromiseOfWants(t *testing.T, k impl.Token, list []impl.Item) {
	t.Helper()
	wantLacks(t, k, list, lacksByHand(k, list))
	wantGiven(t, k, list, giveByHand(k, list)...)
	lacks := impl.Lacks(k, list)
	wantGiven(t, lacks, list)
	for _, m := range impl.Give(k, list) {
		if !slices.Contains(k.Wants, m.Seq) || !slices.Contains(list, m) {
			t.Errorf("Give(%+v, %v) gave %s", k, seqsOf(list), shownItem(m))
		}
	}
	if !tokenRightByHand(k) || !itemsRightByHand(list) {
		return
	}
	wantTokenOk(t, lacks, true)
	for seq := 1; seq <= k.Seq && len(lacks.Wants) < 20; seq++ {
		if hasSeq(list, seq) == slices.Contains(lacks.Wants, seq) {
			t.Errorf("Lacks(%+v, %v) wants %v", k, seqsOf(list), lacks.Wants)
		}
	}
}

func TestWantsAround(t *testing.T) {
	// Of the many that lack one number a few are enough.
	lists := slices.Concat(rightStores()[:25], wrongStores())
	tokens := append(someTokens(), wrongTokens()...)
	for _, wants := range wantsAround() {
		tokens = append(tokens, impl.Token{Conf: 1, Round: 1, Seq: 60, Aru: 3, By: 1, Wants: wants}, impl.Token{Conf: 1, Round: 1, Seq: 29, Wants: wants})
	}
	tokens = slices.DeleteFunc(tokens, func(k impl.Token) bool { return len(k.Wants) > 100 })
	for _, k := range tokens {
		for _, list := range lists {
			wantPromiseOfWants(t, k, list)
		}
	}
}

func drawnToken(l *lot) impl.Token {
	k := impl.Token{Conf: 1 + l.below(9), Round: 1 + l.below(300), Seq: l.below(12), By: l.below(6)}
	k.Aru = l.below(k.Seq + 1)
	for n := 1; n <= k.Seq; n++ {
		if l.below(3) == 0 {
			k.Wants = append(k.Wants, n)
		}
	}
	switch wild := numbersBeside()[l.below(len(numbersBeside()))]; l.below(20) {
	case 0:
		k.Conf = wild
	case 1:
		k.Round = []int{0, -1, 1000000001}[l.below(3)]
	case 2:
		k.Seq = wild
	case 3:
		k.Aru = wild
	case 4:
		k.By = wild
	case 5:
		k.Wants = append(k.Wants, l.below(12))
	case 6:
		k.Wants = append(k.Wants, wild)
	case 7:
		k.Wants = upTo(18 + l.below(5))
	}
	return k
}

func TestTokensInDrawnArguments(t *testing.T) {
	l := &lot{99}
	right, wrong := 0, 0
	for range 6000 {
		k, list := drawnToken(l), drawnItems(l)
		if tokenRightByHand(k) {
			right++
		} else {
			wrong++
		}
		wantPromiseOfWants(t, k, list)
		d := l.below(7)
		aru := l.below(14) - 1
		wantMarked(t, k, d, aru, markByHand(k, d, aru))
		wantNumberedAsByHand(t, k, d, []int{l.below(4), l.below(4), l.below(4)}[:l.below(4)], textsToNumber()[l.below(len(textsToNumber()))])
	}
	if right < 1000 || wrong < 1000 {
		t.Errorf("%d tokens were right, %d wrong: too few to tell", right, wrong)
	}
}

// ringLife is a ring whose members say things, some of which are lost on their way.
type ringLife struct {
	ring  impl.Ring
	token impl.Token
	has   map[int][]impl.Item
	said  []impl.Item
}

func newRingLife(r impl.Ring) *ringLife {
	return &ringLife{ring: r, token: impl.FirstToken(r), has: map[int][]impl.Item{}}
}

func (w *ringLife) tell(from int, items []impl.Item, lost func() bool) {
	for _, d := range w.ring.Members {
		for _, m := range items {
			if d == from || !lost() {
				w.has[d] = impl.PutItem(w.has[d], m)
			}
		}
	}
}

func (w *ringLife) hold(t *testing.T, d int, texts []string, lost func() bool) {
	t.Helper()
	came := w.token
	w.tell(d, impl.Give(came, w.has[d]), lost)
	numbered, items := impl.Number(came, d, nil, texts)
	w.said = append(w.said, items...)
	w.tell(d, items, lost)
	aru := impl.AruOf(w.has[d])
	marked := impl.Mark(numbered, d, aru)
	w.token = impl.Lacks(marked, w.has[d])
	wantTokenOk(t, w.token, true)
	if w.token.Seq != len(w.said) || w.token.Aru > aru || w.token.Aru > numbered.Aru && came.By != d {
		t.Errorf("%d has all up to %d, of %d: the token %+v became %+v", d, aru, len(w.said), came, w.token)
	}
	if w.token.By == 0 && w.token.Aru != w.token.Seq {
		t.Errorf("nobody lowered %+v", w.token)
	}
}

// What a token told twice, a round apart, everybody has: who lowered it said so in between.
func (w *ringLife) wantHadByAll(t *testing.T, upto int) {
	t.Helper()
	for _, d := range w.ring.Members {
		if has := impl.AruOf(w.has[d]); has < upto {
			t.Errorf("ring %v: the token told of %d, but %d has all up to %d alone", w.ring, upto, d, has)
		}
	}
}

func TestTokensInDrawnLives(t *testing.T) {
	l := &lot{999}
	lowered := 0
	for life := range 300 {
		w := newRingLife(rightRings()[l.below(len(rightRings()))])
		d, told, share := w.ring.Members[0], map[int]int{}, 2+life%4
		for range 40 {
			before := w.token.Aru
			w.hold(t, d, saidTexts(l.below(5)), func() bool { return l.below(share) == 0 })
			w.wantHadByAll(t, min(told[d], before))
			if w.token.By != 0 {
				lowered++
			}
			told[d], d = before, impl.NextOf(w.ring, d)
		}
		for range 10 * len(w.ring.Members) {
			w.hold(t, d, nil, func() bool { return false })
			d = impl.NextOf(w.ring, d)
		}
		w.wantHadByAll(t, len(w.said))
		if w.token.Aru != w.token.Seq || w.token.By != 0 || len(w.token.Wants) > 0 || !slices.Equal(seqsOf(w.said), upTo(w.token.Seq)) {
			t.Errorf("ring %v: nothing is lost any more, and the token is %+v", w.ring, w.token)
		}
	}
	if lowered < 1000 {
		t.Errorf("a token was lowered %d times: too few to tell", lowered)
	}
}

func TestRingsLeaveMembersAlone(t *testing.T) {
	for _, r := range append(wrongRings(), rightRings()...) {
		members := newRoomy(r.Members, 3)
		handed := impl.Ring{Id: r.Id, Members: members.list}
		call := fmt.Sprintf("ring %d, %d members", r.Id, len(r.Members))
		impl.RingOk(handed)
		for d := 0; d <= 6; d++ {
			impl.NextOf(handed, d)
		}
		token := impl.FirstToken(handed)
		members.unchanged(t, call, sameNumber)
		aliased(t, call, token.Wants, members.whole)
	}
}

func sameText(a, b string) bool { return a == b }

// tokensToLookAt have Wants of several sizes, and are wrong in some ways.
func tokensToLookAt() []impl.Token {
	list := append(someTokens(), wrongTokens()[:40]...)
	for _, wants := range wantsAround() {
		list = append(list, impl.Token{Conf: 1, Round: 1, Seq: 57, Aru: 57, Wants: wants}, impl.Token{Conf: 1, Round: 1, Seq: 60, Aru: 20, By: 3, Wants: wants})
	}
	return list
}

func TestNumberLeavesArgumentsAlone(t *testing.T) {
	for _, k := range tokensToLookAt() {
		for _, texts := range textsToNumber() {
			for _, from := range []int{0, 2} {
				wants, level := newRoomy(k.Wants, 7), newRoomy([]int{2, 1, 2, 2}, 2)
				var said []argument
				var handed []string
				for _, text := range append(slices.Clone(texts), "spare") {
					said = append(said, newArgument(text))
					handed = append(handed, said[len(said)-1].text)
				}
				all := newRoomy(handed[:len(texts)], handed[len(texts)])
				given := k
				given.Wants = wants.list
				next, items := impl.Number(given, from, level.list, all.list)
				again, others := impl.Number(given, from, level.list, all.list)
				wants.unchanged(t, "Number", sameNumber)
				level.unchanged(t, "Number", sameNumber)
				all.unchanged(t, "Number", sameText)
				aliased(t, "Number", next.Wants, wants.whole, level.whole, again.Wants)
				for _, m := range items {
					for _, text := range said {
						text.untouched(t, "Number", m.Text)
					}
				}
				if overlap(items, others) || overlap(memoryOf(next.Wants), memoryOf(items)) {
					t.Errorf("Number(%+v, %d, %.60q): two lists share memory", k, from, texts)
				}
			}
		}
	}
}

func TestMarkLeavesWantsAlone(t *testing.T) {
	for _, k := range tokensToLookAt() {
		for d := 0; d <= 6; d++ {
			for _, aru := range []int{-1, 0, 19, 20, 21, 57, 60, math.MaxInt} {
				wants := newRoomy(k.Wants, 7)
				given := k
				given.Wants = wants.list
				first, second := impl.Mark(given, d, aru), impl.Mark(given, d, aru)
				wants.unchanged(t, "Mark", sameNumber)
				aliased(t, "Mark", first.Wants, wants.whole, second.Wants)
			}
		}
	}
}

func TestWantsAndListsAreLeftAlone(t *testing.T) {
	lists := [][]impl.Item{nil, itemsOf(1), itemsOf(2, 4, 6), itemsOf(6, 4, 2), itemsOf(1, 1), itemsOf(0, 61), storeWithout(), storeWithout(1), storeWithout(30, 60)}
	for _, k := range tokensToLookAt() {
		for _, list := range lists {
			wants, a := newRoomy(k.Wants, 7), newItemArguments(list)
			given := k
			given.Wants = wants.list
			lacks, again := impl.Lacks(given, a.list), impl.Lacks(given, a.list)
			a.untouched(t, "Lacks")
			wants.unchanged(t, "Lacks", sameNumber)
			aliased(t, "Lacks", lacks.Wants, wants.whole, again.Wants)
			items, others := impl.Give(given, a.list), impl.Give(given, a.list)
			a.untouched(t, "Give", items...)
			wants.unchanged(t, "Give", sameNumber)
			if overlap(items, others) {
				t.Errorf("Give(%+v, %v): two answers share memory", k, seqsOf(list))
			}
		}
	}
}

func TestTokensDoNotLookIntoSpareRoom(t *testing.T) {
	wants, list, texts := []int{1, 2, 3}, itemsOf(1, 2, 3), []string{"a", "b", "c"}
	k := impl.Token{Conf: 1, Round: 1, Seq: 3, Wants: wants[:1]}
	wantLacks(t, k, list[1:2], impl.Token{Conf: 1, Round: 1, Seq: 3, Wants: []int{1, 3}})
	wantLacks(t, k, list[:2], impl.Token{Conf: 1, Round: 1, Seq: 3, Wants: []int{3}})
	wantGiven(t, k, list, itemOf(1))
	wantGiven(t, k, list[:0])
	wantMarked(t, k, 1, 0, k)
	wantNumbered(t, k, 1, nil, texts[:1], impl.Token{Conf: 1, Round: 1, Seq: 4, Wants: []int{1}}, impl.Item{Seq: 4, From: 1, Level: 1, Text: "a"})
}

func TestTwoFromOneToken(t *testing.T) {
	k := impl.Token{Conf: 1, Round: 1, Seq: 5, Aru: 5, Wants: []int{2}}
	first, items := impl.Number(k, 1, nil, []string{"a"})
	left, lefts := impl.Number(first, 2, nil, []string{"b"})
	right, rights := impl.Number(first, 3, nil, []string{"c"})
	if lefts[0].Text != "b" || rights[0].Text != "c" || lefts[0].Seq != 7 || rights[0].Seq != 7 || items[0].Seq != 6 || left.Seq != 7 || right.Seq != 7 || first.Seq != 6 {
		t.Errorf("two numbered by %+v: %s and %s", first, shownItems(lefts), shownItems(rights))
	}
	low, high := impl.Lacks(first, itemsOf(1, 2, 3)), impl.Lacks(first, itemsOf(1, 2, 4))
	if !slices.Equal(low.Wants, fromTo(4, 6)) || !slices.Equal(high.Wants, []int{3, 5, 6}) || !slices.Equal(first.Wants, []int{2}) {
		t.Errorf("two lack of %+v: %v and %v", first, low.Wants, high.Wants)
	}
}

func TestTokensKeepNothing(t *testing.T) {
	r := impl.Ring{Id: 2, Members: []int{1, 4}}
	k := impl.Token{Conf: 2, Round: 3, Seq: 4, Aru: 2, By: 4, Wants: []int{3}}
	first, _ := impl.Number(k, 1, []int{2}, []string{"a"})
	for range 3 {
		wantNext(t, r, 1, 4)
		wantNext(t, impl.Ring{}, 1, 0)
		wantFirst(t, r, impl.Token{Conf: 2, Round: 1})
		wantNumbered(t, k, 1, []int{2}, []string{"a"}, impl.Token{Conf: 2, Round: 3, Seq: 5, Aru: 2, By: 4, Wants: []int{3}}, impl.Item{Seq: 5, From: 1, Level: 2, Text: "a"})
		wantNumbered(t, k, 6, []int{2}, []string{"a"}, k)
		wantMarked(t, k, 4, 9, impl.Token{Conf: 2, Round: 3, Seq: 4, Aru: 4, Wants: []int{3}})
		wantMarked(t, k, 1, 1, impl.Token{Conf: 2, Round: 3, Seq: 4, Aru: 1, By: 1, Wants: []int{3}})
		wantLacks(t, k, itemsOf(1, 3), impl.Token{Conf: 2, Round: 3, Seq: 4, Aru: 2, By: 4, Wants: []int{2, 4}})
		wantGiven(t, k, itemsOf(1, 3), itemOf(3))
		impl.Mark(k, 1, 1).Wants[0] = 99
		impl.Lacks(k, nil).Wants[0] = 99
		impl.Give(k, itemsOf(1, 3))[0] = impl.Item{}
	}
	if !sameToken(first, impl.Token{Conf: 2, Round: 3, Seq: 5, Aru: 2, By: 4, Wants: []int{3}}) {
		t.Errorf("what was numbered first became %+v", first)
	}
}
