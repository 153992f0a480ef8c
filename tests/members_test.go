package tests

import (
	"fmt"
	"math"
	"slices"
	"strings"
	"testing"

	"loop.example/g00183/impl"
)

func mateRightByHand(m impl.Mate) bool {
	if !ringRightByHand(m.Ring) || !slices.Contains(m.Ring.Members, m.Id) || !itemsRightByHand(m.Items) {
		return false
	}
	if len(m.Texts) > 20 || len(m.Level) != len(m.Texts) {
		return false
	}
	for i := range m.Texts {
		if len(m.Texts[i]) > 60 || m.Level[i] != 1 && m.Level[i] != 2 {
			return false
		}
	}
	aru := aruByHand(m.Items)
	if m.Round < 0 || m.Round > 1000000000 || m.Seen < 0 || m.Seen > 60 || m.Line < 0 || m.Line > aru || m.Heard < 0 || m.Heard > aru {
		return false
	}
	return sameToken(m.Last, impl.Token{}) || tokenRightByHand(m.Last)
}

func sayByHand(m impl.Mate, level int, text string) (impl.Mate, bool) {
	m.Level = append(slices.Clone(m.Level), level)
	m.Texts = append(slices.Clone(m.Texts), text)
	ahead := m
	ahead.Level, ahead.Texts = m.Level[:len(m.Level)-1], m.Texts[:len(m.Texts)-1]
	if !mateRightByHand(ahead) || !mateRightByHand(m) {
		return impl.Mate{}, false
	}
	return m, true
}

// holdByHand takes the chapter's sentence word by word.
func holdByHand(m impl.Mate, k impl.Token) (impl.Mate, []impl.Item, impl.Token, bool) {
	if !mateRightByHand(m) || !tokenRightByHand(k) || k.Conf != m.Ring.Id || k.Round <= m.Round || k.Round >= 1000000000 {
		return m, nil, impl.Token{}, false
	}
	said := giveByHand(k, m.Items)
	next, fresh := numberByHand(k, m.Id, m.Level, m.Texts)
	m.Level, m.Texts = m.Level[min(3, len(m.Level)):], m.Texts[min(3, len(m.Texts)):]
	for _, x := range fresh {
		said = append(said, x)
		m.Items = putByHand(m.Items, x)
	}
	aru := aruByHand(m.Items)
	next = markByHand(next, m.Id, aru)
	if safe := slices.Min([]int{m.Seen, k.Aru, aru}); safe > m.Line {
		m.Line = safe
	}
	m.Seen = k.Aru
	next = lacksByHand(next, m.Items)
	m.Round = k.Round
	next.Round = k.Round + 1
	m.Last = next
	return m, said, next, true
}

func catchByHand(m impl.Mate, x impl.Item) impl.Mate {
	if mateRightByHand(m) {
		m.Items = putByHand(m.Items, x)
	}
	return m
}

// hearByHand is for right members: the items of these stand in order.
func hearByHand(m impl.Mate) (impl.Mate, []impl.Item) {
	rest := wholeByHand(m.Items)[m.Heard:]
	wait := slices.IndexFunc(rest, func(x impl.Item) bool { return x.Level == 2 && x.Seq > m.Line })
	if wait >= 0 {
		rest = rest[:wait]
	}
	m.Heard += len(rest)
	return m, rest
}

func sameMate(a, b impl.Mate) bool {
	return a.Id == b.Id && a.Ring.Id == b.Ring.Id && slices.Equal(a.Ring.Members, b.Ring.Members) &&
		slices.Equal(a.Items, b.Items) && slices.Equal(a.Level, b.Level) && slices.Equal(a.Texts, b.Texts) &&
		a.Round == b.Round && a.Seen == b.Seen && a.Line == b.Line && a.Heard == b.Heard && sameToken(a.Last, b.Last)
}

func shownMate(m impl.Mate) string {
	return fmt.Sprintf("{Id %d, Ring %.80s, Items %.200s, Level %.80s, Texts %.120s, Round %d, Seen %d, Line %d, Heard %d, Last %.120s}",
		m.Id, fmt.Sprint(m.Ring), shown(seqsOf(m.Items)), shown(m.Level), fmt.Sprintf("%.20q", m.Texts), m.Round, m.Seen, m.Line, m.Heard, fmt.Sprintf("%+v", m.Last))
}

func wantMateOk(t *testing.T, m impl.Mate, want bool) {
	t.Helper()
	if got := impl.MateOk(m); got != want {
		t.Errorf("MateOk(%s): %t; want %t", shownMate(m), got, want)
	}
}

func wantMateNew(t *testing.T, id int, r impl.Ring, want impl.Mate, wantOk bool) {
	t.Helper()
	if got, ok := impl.MateNew(id, r); !sameMate(got, want) || ok != wantOk {
		t.Errorf("MateNew(%d, %.80s): %s, %t; want %s, %t", id, fmt.Sprint(r), shownMate(got), ok, shownMate(want), wantOk)
	}
}

func wantSaid(t *testing.T, m impl.Mate, level int, text string, want impl.Mate, wantOk bool) {
	t.Helper()
	if got, ok := impl.Say(m, level, text); !sameMate(got, want) || ok != wantOk {
		t.Errorf("Say(%s, %d, %.40q): %s, %t; want %s, %t", shownMate(m), level, text, shownMate(got), ok, shownMate(want), wantOk)
	}
}

func wantSaidAsByHand(t *testing.T, m impl.Mate, level int, text string) {
	t.Helper()
	want, ok := sayByHand(m, level, text)
	wantSaid(t, m, level, text, want, ok)
}

func wantHeld(t *testing.T, m impl.Mate, k impl.Token, want impl.Mate, wantSaid []impl.Item, wantNext impl.Token, wantOk bool) {
	t.Helper()
	got, said, next, ok := impl.Hold(m, k)
	if !sameMate(got, want) || !slices.Equal(said, wantSaid) || !sameToken(next, wantNext) || ok != wantOk {
		t.Errorf("Hold(%s, %+v):\n%s, %s, %+v, %t; want\n%s, %s, %+v, %t", shownMate(m), k,
			shownMate(got), shownItems(said), next, ok, shownMate(want), shownItems(wantSaid), wantNext, wantOk)
	}
}

func wantNotHeld(t *testing.T, m impl.Mate, k impl.Token) {
	t.Helper()
	wantHeld(t, m, k, m, nil, impl.Token{}, false)
}

func wantCaught(t *testing.T, m impl.Mate, x impl.Item, want impl.Mate) {
	t.Helper()
	if got := impl.Catch(m, x); !sameMate(got, want) {
		t.Errorf("Catch(%s, %s): %s; want %s", shownMate(m), shownItem(x), shownMate(got), shownMate(want))
	}
}

func wantHeard(t *testing.T, m impl.Mate, want impl.Mate, wantItems ...impl.Item) {
	t.Helper()
	if got, items := impl.Hear(m); !sameMate(got, want) || !slices.Equal(items, wantItems) {
		t.Errorf("Hear(%s): %s, %s; want %s, %s", shownMate(m), shownMate(got), shownItems(items), shownMate(want), shownItems(wantItems))
	}
}

// wantGoesOn holds what must be so of a right member, whatever it did.
func wantGoesOn(t *testing.T, call string, before, after impl.Mate) {
	t.Helper()
	wantMateOk(t, after, true)
	if after.Id != before.Id || after.Ring.Id != before.Ring.Id || !slices.Equal(after.Ring.Members, before.Ring.Members) {
		t.Errorf("%s of %s: another member: %s", call, shownMate(before), shownMate(after))
	}
	if after.Round < before.Round || after.Line < before.Line || after.Heard < before.Heard || impl.AruOf(after.Items) < impl.AruOf(before.Items) {
		t.Errorf("%s of %s: a number fell: %s", call, shownMate(before), shownMate(after))
	}
	for _, x := range before.Items {
		if !slices.Contains(after.Items, x) {
			t.Errorf("%s of %s: %s is gone or another one: %s", call, shownMate(before), shownItem(x), shownMate(after))
		}
	}
}

// wantPromiseOfHold holds a token, against the reckoning by hand and the promise itself.
func wantPromiseOfHold(t *testing.T, m impl.Mate, k impl.Token) (impl.Mate, []impl.Item, impl.Token, bool) {
	t.Helper()
	want, wantSaid, wantNext, wantOk := holdByHand(m, k)
	wantHeld(t, m, k, want, wantSaid, wantNext, wantOk)
	after, said, next, ok := impl.Hold(m, k)
	if !ok {
		return after, said, next, ok
	}
	wantGoesOn(t, "Hold", m, after)
	wantTokenOk(t, next, true)
	wantNotHeld(t, after, k)
	wantOrderOfSaid(t, m, k, after, said)
	if !sameToken(after.Last, next) || next.Round != k.Round+1 || after.Round != k.Round || after.Seen != k.Aru || after.Heard != m.Heard {
		t.Errorf("Hold(%s, %+v): %s, %+v", shownMate(m), k, shownMate(after), next)
	}
	if after.Line > max(m.Line, min(m.Seen, k.Aru)) || next.Aru > impl.AruOf(after.Items) {
		t.Errorf("Hold(%s, %+v) tells of more than it may: %s, %+v", shownMate(m), k, shownMate(after), next)
	}
	return after, said, next, ok
}

// wantOrderOfSaid: first what was wanted, out of its items, then the first texts that it had to say, in their order.
func wantOrderOfSaid(t *testing.T, m impl.Mate, k impl.Token, after impl.Mate, said []impl.Item) {
	t.Helper()
	again := 0
	for again < len(said) && said[again].Seq <= k.Seq {
		if x := said[again]; !slices.Contains(k.Wants, x.Seq) || !slices.Contains(m.Items, x) {
			t.Errorf("Hold(%s, %+v) says %s again", shownMate(m), k, shownItem(x))
		}
		again++
	}
	fresh := said[again:]
	if len(fresh) != min(3, len(m.Texts), 60-k.Seq) || !slices.Equal(seqsOf(fresh), fromTo(k.Seq+1, k.Seq+len(fresh))) {
		t.Errorf("Hold(%s, %+v) says anew %s", shownMate(m), k, shownItems(fresh))
	}
	for i, x := range fresh {
		if x.From != m.Id || x.Text != m.Texts[i] || x.Level != m.Level[i] {
			t.Errorf("Hold(%s, %+v) says %s of %q", shownMate(m), k, shownItem(x), m.Texts[i])
		}
		if !hasSeq(m.Items, x.Seq) && !slices.Contains(after.Items, x) {
			t.Errorf("Hold(%s, %+v) says %s, and has it not", shownMate(m), k, shownItem(x))
		}
	}
	gone := min(3, len(m.Texts))
	if !slices.Equal(after.Texts, m.Texts[gone:]) || !slices.Equal(after.Level, m.Level[gone:]) {
		t.Errorf("Hold(%s, %+v) has yet to say %q", shownMate(m), k, after.Texts)
	}
}

func wantPromiseOfHear(t *testing.T, m impl.Mate) (impl.Mate, []impl.Item) {
	t.Helper()
	want, wantItems := hearByHand(m)
	wantHeard(t, m, want, wantItems...)
	after, items := impl.Hear(m)
	wantGoesOn(t, "Hear", m, after)
	if !slices.Equal(seqsOf(items), fromTo(m.Heard+1, m.Heard+len(items))) || after.Heard != m.Heard+len(items) {
		t.Errorf("Hear(%s) heard %s, and goes on to %d", shownMate(m), shownItems(items), after.Heard)
	}
	for _, x := range items {
		if x.Level == impl.Safe && x.Seq > m.Line || !slices.Contains(m.Items, x) {
			t.Errorf("Hear(%s) heard %s", shownMate(m), shownItem(x))
		}
	}
	wantHeard(t, after, after)
	return after, items
}

func wantPromiseOfCatch(t *testing.T, m impl.Mate, x impl.Item) impl.Mate {
	t.Helper()
	wantCaught(t, m, x, catchByHand(m, x))
	after := impl.Catch(m, x)
	wantCaught(t, after, x, after)
	if mateRightByHand(m) {
		wantGoesOn(t, "Catch", m, after)
		other := x
		other.Text = "other"
		wantCaught(t, after, other, catchByHand(after, other))
	}
	return after
}

// someMate has something in every field, and a hole at 4.
func someMate() impl.Mate {
	return impl.Mate{
		Id: 3, Ring: impl.Ring{Id: 2, Members: []int{1, 3, 4}}, Items: itemsOf(1, 2, 3, 5), Level: []int{1, 2}, Texts: []string{"a", "b"},
		Round: 7, Seen: 4, Line: 2, Heard: 1, Last: impl.Token{Conf: 2, Round: 8, Seq: 5, Aru: 3, By: 3, Wants: []int{4}},
	}
}

func bareMate() impl.Mate {
	return impl.Mate{Id: 1, Ring: impl.Ring{Id: 1, Members: []int{1}}}
}

// fullMate has every list as long as it may be, and every number as great.
func fullMate() impl.Mate {
	return impl.Mate{
		Id: 5, Ring: impl.Ring{Id: 9, Members: upTo(5)}, Items: itemsOf(upTo(60)...), Level: slices.Repeat([]int{2, 1}, 10), Texts: slices.Repeat([]string{longText(60), ""}, 10),
		Round: 1000000000, Seen: 60, Line: 60, Heard: 60, Last: impl.Token{Conf: 9, Round: 1000000000, Seq: 60, Aru: 60, By: 5, Wants: fromTo(41, 60)},
	}
}

func someMates() []impl.Mate { return []impl.Mate{bareMate(), someMate(), fullMate()} }

// wrongSayings are what one may not have to say, of level and texts.
func wrongSayings() []impl.Mate {
	list := []impl.Mate{
		{Level: slices.Repeat([]int{1}, 21), Texts: saidTexts(21)}, {Level: slices.Repeat([]int{2}, 20), Texts: saidTexts(21)}, {Level: slices.Repeat([]int{1}, 5000), Texts: saidTexts(5000)},
		{Level: []int{1}}, {Texts: []string{""}}, {Level: []int{1, 2}, Texts: []string{"a"}}, {Level: []int{1}, Texts: []string{"a", "b"}},
		{Level: slices.Repeat([]int{1}, 21), Texts: saidTexts(20)}, {Level: slices.Repeat([]int{1}, 19), Texts: saidTexts(20)},
	}
	for _, count := range []int{1, 3, 20} {
		for _, place := range []int{0, count / 2, count - 1} {
			for _, n := range []int{math.MinInt, -2, -1, 0, 3, 4, 257, 258, 1<<32 + 1, math.MaxInt} {
				level := slices.Repeat([]int{1}, count)
				level[place] = n
				list = append(list, impl.Mate{Level: level, Texts: saidTexts(count)})
			}
			for _, size := range []int{61, 62, 256, impl.MaxText + 1} {
				texts := saidTexts(count)
				texts[place] = longText(size)
				list = append(list, impl.Mate{Level: slices.Repeat([]int{2}, count), Texts: texts})
			}
		}
	}
	return append(list, impl.Mate{Level: []int{1}, Texts: []string{strings.Repeat("ü", 31)}})
}

// wrongNumbers are the fields of numbers, each of them past an edge.
func wrongNumbers(base impl.Mate) []impl.Mate {
	var list []impl.Mate
	aru := aruByHand(base.Items)
	for _, n := range []int{math.MinInt, math.MinInt + 1, -1 << 32, -1, 61, 62, 1 << 32, 1<<32 + 1, 1000000001, math.MaxInt - 1, math.MaxInt} {
		round, seen, line, heard := base, base, base, base
		round.Round, seen.Seen, line.Line, heard.Heard = n, n, n, n
		list = append(list, round, seen, line, heard)
	}
	for _, n := range []int{aru + 1, 60, 61} {
		line, heard := base, base
		line.Line, heard.Heard = n, n
		list = append(list, line, heard)
	}
	return list
}

// wrongLasts are neither all zero nor right.
func wrongLasts() []impl.Token {
	list := []impl.Token{{Conf: 1}, {Round: 1}, {Seq: 1}, {Aru: 1}, {By: 1}, {Wants: []int{1}}, {Wants: []int{0}}, {Seq: 1, Wants: []int{1}}, {Round: -1}, {Conf: 2, Round: 8, Seq: 5, Aru: 6}}
	return append(list, slices.DeleteFunc(wrongTokens(), func(k impl.Token) bool { return sameToken(k, impl.Token{}) })...)
}

// wrongMates are not right in one thing each.
func wrongMates() []impl.Mate {
	list := []impl.Mate{{}}
	for _, base := range someMates() {
		for _, r := range wrongRings() {
			m := base
			m.Ring = r
			list = append(list, m)
		}
		for _, id := range append(numbersBeside(), 1, 2, 5, 6) {
			m := base
			m.Id = id
			list = append(list, m)
		}
		for _, items := range wrongStores() {
			m := base
			m.Items, m.Line, m.Heard = items, 0, 0
			list = append(list, m)
		}
		for _, saying := range wrongSayings() {
			m := base
			m.Level, m.Texts = saying.Level, saying.Texts
			list = append(list, m)
		}
		for _, last := range wrongLasts() {
			m := base
			m.Last = last
			list = append(list, m)
		}
		list = append(list, wrongNumbers(base)...)
	}
	return slices.DeleteFunc(list, mateRightByHand)
}

func TestMateNewOfEveryRing(t *testing.T) {
	for _, r := range rightRings() {
		for _, id := range slices.Concat(wildNumbers(), numbersBeside(), upTo(6)) {
			if slices.Contains(r.Members, id) {
				wantMateNew(t, id, r, impl.Mate{Id: id, Ring: r}, true)
				m, _ := impl.MateNew(id, r)
				wantMateOk(t, m, true)
			} else {
				wantMateNew(t, id, r, impl.Mate{}, false)
			}
		}
	}
}

func TestMateNewRefuses(t *testing.T) {
	for _, r := range wrongRings() {
		for _, id := range slices.Concat(numbersBeside(), upTo(6), r.Members[:min(len(r.Members), 8)]) {
			wantMateNew(t, id, r, impl.Mate{}, false)
		}
	}
	members := []int{1, 3, 4}
	wantMateNew(t, 4, impl.Ring{Id: 1, Members: members[:2]}, impl.Mate{}, false)
	wantMateNew(t, 3, impl.Ring{Id: 1, Members: members[:2]}, impl.Mate{Id: 3, Ring: impl.Ring{Id: 1, Members: []int{1, 3}}}, true)
	wantMateNew(t, 4, impl.Ring{Id: 1, Members: members[:0]}, impl.Mate{}, false)
}

func TestMateOkKnown(t *testing.T) {
	for _, m := range someMates() {
		wantMateOk(t, m, true)
		empty := m
		empty.Items, empty.Level, empty.Texts, empty.Last = []impl.Item{}, []int{}, []string{}, impl.Token{Wants: []int{}}
		empty.Line, empty.Heard = 0, 0
		wantMateOk(t, empty, true)
		empty.Items, empty.Level, empty.Texts, empty.Last = nil, nil, nil, impl.Token{}
		wantMateOk(t, empty, true)
		empty.Ring.Members = nil
		wantMateOk(t, empty, false)
		empty.Ring.Members = []int{}
		wantMateOk(t, empty, false)
	}
	wantMateOk(t, impl.Mate{}, false)
	for _, m := range wrongMates() {
		wantMateOk(t, m, false)
	}
	if len(wrongMates()) < 1500 {
		t.Errorf("%d wrong members: too few to tell", len(wrongMates()))
	}
}

func TestMateOkRings(t *testing.T) {
	for _, base := range someMates() {
		for _, r := range rightRings() {
			for id := -1; id <= 7; id++ {
				m := base
				m.Ring, m.Id = r, id
				wantMateOk(t, m, slices.Contains(r.Members, id))
			}
		}
		for _, r := range wrongRings() {
			for id := 0; id <= 6; id++ {
				m := base
				m.Ring, m.Id = r, id
				wantMateOk(t, m, false)
			}
		}
	}
}

func TestMateOkItems(t *testing.T) {
	for _, base := range someMates() {
		base.Line, base.Heard = 0, 0
		for _, list := range storesAround() {
			m := base
			m.Items = list
			wantMateOk(t, m, itemsRightByHand(list))
		}
	}
}

func TestMateOkSayings(t *testing.T) {
	for _, base := range someMates() {
		for count := range 24 {
			for levels := max(0, count-2); levels <= count+2; levels++ {
				for _, level := range []int{0, 1, 2, 3, -1} {
					m := base
					m.Texts, m.Level = saidTexts(count), slices.Repeat([]int{level}, levels)
					wantMateOk(t, m, levels == count && count <= 20 && (level == 1 || level == 2 || count == 0))
				}
			}
			for _, size := range []int{0, 1, 59, 60, 61, 62, 316} {
				for place := range count {
					m := base
					m.Texts, m.Level = saidTexts(count), slices.Repeat([]int{1}, count)
					m.Texts[place] = longText(size)
					wantMateOk(t, m, size <= 60 && count <= 20)
				}
			}
		}
		m := base
		m.Level, m.Texts = []int{1}, []string{strings.Repeat("ü", 30)}
		wantMateOk(t, m, true)
	}
}

func TestMateOkNumbers(t *testing.T) {
	for _, base := range someMates() {
		for _, n := range append(numbersBeside(), 1, 2, 59, 60, 999999999, 1000000000, 1000000001) {
			round, seen := base, base
			round.Round, seen.Seen = n, n
			wantMateOk(t, round, n >= 0 && n <= 1000000000)
			wantMateOk(t, seen, n >= 0 && n <= 60)
		}
	}
	for aru := 0; aru <= 60; aru++ {
		// What lies behind the hole must not count.
		m := bareMate()
		m.Items = storeWithout(aru + 1)
		for _, n := range append(numbersBeside(), aru-1, aru, aru+1, aru+2, 60) {
			line, heard := m, m
			line.Line, heard.Heard = n, n
			wantMateOk(t, line, n >= 0 && n <= aru)
			wantMateOk(t, heard, n >= 0 && n <= aru)
			// Neither hangs on the other, nor on Seen.
			line.Heard, line.Seen, heard.Line, heard.Seen = aru, 60, aru, 60
			wantMateOk(t, line, n >= 0 && n <= aru)
			wantMateOk(t, heard, n >= 0 && n <= aru)
		}
	}
}

func TestMateOkLast(t *testing.T) {
	for _, base := range someMates() {
		for _, last := range append(rightTokens(), impl.Token{}, impl.Token{Wants: []int{}}) {
			m := base
			m.Last = last
			wantMateOk(t, m, true)
		}
		for _, last := range wrongLasts() {
			m := base
			m.Last = last
			wantMateOk(t, m, false)
		}
	}
}

func TestSayKnown(t *testing.T) {
	m := bareMate()
	wantSaid(t, m, 1, "a", impl.Mate{Id: 1, Ring: m.Ring, Level: []int{1}, Texts: []string{"a"}}, true)
	wantSaid(t, m, 2, "", impl.Mate{Id: 1, Ring: m.Ring, Level: []int{2}, Texts: []string{""}}, true)
	m = someMate()
	for _, level := range []int{1, 2} {
		for _, text := range []string{"", "c", "a", longText(59), longText(60), "\xff\x00", strings.Repeat("ü", 30)} {
			want := someMate()
			want.Level, want.Texts = []int{1, 2, level}, []string{"a", "b", text}
			wantSaid(t, m, level, text, want, true)
		}
		for _, text := range []string{longText(61), longText(62), longText(316), longText(impl.MaxText + 1), strings.Repeat("ü", 31)} {
			wantSaid(t, m, level, text, impl.Mate{}, false)
		}
	}
	for _, level := range append(numbersBeside(), 3, 4, -3) {
		wantSaid(t, m, level, "c", impl.Mate{}, false)
		wantSaid(t, m, level, longText(61), impl.Mate{}, false)
	}
}

func TestSayUpToTwenty(t *testing.T) {
	for _, base := range someMates() {
		for count := range 23 {
			m := base
			m.Level, m.Texts = slices.Repeat([]int{2}, count), saidTexts(count)
			want := base
			want.Level, want.Texts = append(slices.Repeat([]int{2}, count), 1), append(saidTexts(count), "last")
			if count >= 20 {
				want = impl.Mate{}
			}
			wantSaid(t, m, 1, "last", want, count < 20)
		}
	}
}

func TestSayOfWrongMates(t *testing.T) {
	for _, m := range wrongMates() {
		wantSaid(t, m, 1, "a", impl.Mate{}, false)
		wantSaid(t, m, 2, "", impl.Mate{}, false)
		wantSaid(t, m, 0, "", impl.Mate{}, false)
	}
}

func TestHoldKnown(t *testing.T) {
	m := someMate()
	k := impl.Token{Conf: 2, Round: 12, Seq: 6, Aru: 5, By: 0, Wants: []int{2, 4, 5}}
	seven := impl.Item{Seq: 7, From: 3, Level: 1, Text: "a"}
	eight := impl.Item{Seq: 8, From: 3, Level: 2, Text: "b"}
	next := impl.Token{Conf: 2, Round: 13, Seq: 8, Aru: 3, By: 3, Wants: []int{4, 6}}
	want := impl.Mate{
		Id: 3, Ring: impl.Ring{Id: 2, Members: []int{1, 3, 4}}, Items: append(itemsOf(1, 2, 3, 5), seven, eight),
		Round: 12, Seen: 5, Line: 3, Heard: 1, Last: next,
	}
	wantHeld(t, m, k, want, []impl.Item{itemOf(2), itemOf(5), seven, eight}, next, true)

	first := impl.Token{Conf: 1, Round: 1}
	wantHeld(t, bareMate(), first, impl.Mate{Id: 1, Ring: bareMate().Ring, Round: 1, Last: impl.Token{Conf: 1, Round: 2}}, nil, impl.Token{Conf: 1, Round: 2}, true)
}

func TestHoldRounds(t *testing.T) {
	for _, own := range []int{0, 1, 6, 7, 127, 1 << 20, 999999997, 999999998, 999999999, 1000000000} {
		m := someMate()
		m.Round = own
		for _, round := range append(numbersBeside(), 1, 2, own-2, own-1, own, own+1, own+2, 999999998, 999999999, 1000000000, 1000000001) {
			k := impl.Token{Conf: 2, Round: round, Seq: 5, Aru: 5}
			after, _, next, ok := wantPromiseOfHold(t, m, k)
			if ok != (round > own && round < 1000000000) {
				t.Errorf("a member of Round %d, a token of Round %d: %t", own, round, ok)
			}
			if ok && (after.Round != round || next.Round != round+1 || after.Last.Round != round+1) {
				t.Errorf("a member of Round %d, a token of Round %d: %d, %d, %d", own, round, after.Round, next.Round, after.Last.Round)
			}
		}
	}
}

func TestHoldRefuses(t *testing.T) {
	for _, base := range someMates() {
		m := base
		m.Round = 0
		for conf := 1; conf <= 9; conf++ {
			k := impl.Token{Conf: conf, Round: 1, Seq: 60, Aru: 60, Wants: []int{1, 2}}
			if _, _, _, ok := wantPromiseOfHold(t, m, k); ok != (conf == m.Ring.Id) {
				t.Errorf("Hold(%s, %+v): %t", shownMate(m), k, ok)
			}
		}
		m.Ring.Id = 1
		for _, k := range wrongTokens() {
			wantNotHeld(t, m, k)
		}
	}
}

func TestHoldOfWrongMates(t *testing.T) {
	for _, m := range wrongMates() {
		for _, k := range []impl.Token{{Conf: m.Ring.Id, Round: 999999999, Seq: 5, Aru: 5, Wants: []int{1, 2}}, {Conf: 2, Round: 8}, {}} {
			wantNotHeld(t, m, k)
		}
	}
}

func TestHoldSaysTheFirstBurst(t *testing.T) {
	for count := range 21 {
		m := bareMate()
		m.Texts = saidTexts(count)
		for place := range count {
			m.Level = append(m.Level, 1+place%3%2)
		}
		texts, level := m.Texts, m.Level
		k := impl.FirstToken(m.Ring)
		var all []impl.Item
		for range 8 {
			after, said, next, ok := wantPromiseOfHold(t, m, k)
			if !ok || len(said) != min(3, len(m.Texts)) {
				t.Fatalf("Hold(%s, %+v): %t, %s", shownMate(m), k, ok, shownItems(said))
			}
			all = append(all, said...)
			m, k = after, next
		}
		if !slices.Equal(seqsOf(all), upTo(count)) || len(m.Texts) > 0 || !slices.Equal(all, m.Items) {
			t.Errorf("%d to say: %s, %s", count, shownItems(all), shownMate(m))
		}
		for i, x := range all {
			if x.Text != texts[i] || x.Level != level[i] {
				t.Errorf("%q was said as %s", texts[i], shownItem(x))
			}
		}
	}
}

// Where numbers run out, the first MaxBurst are gone all the same: so the chapter's sentence says.
func TestHoldAtTheLastSeq(t *testing.T) {
	for seq := 55; seq <= 60; seq++ {
		for count := range 6 {
			for _, has := range []int{0, seq - 1, seq} {
				m := bareMate()
				m.Items, m.Texts, m.Level = itemsOf(upTo(has)...), saidTexts(count), slices.Repeat([]int{2}, count)
				after, said, next, ok := wantPromiseOfHold(t, m, impl.Token{Conf: 1, Round: 1, Seq: seq, Aru: seq})
				given := min(3, count, 60-seq)
				if !ok || len(said) != given || next.Seq != seq+given || len(after.Texts) != count-min(3, count) {
					t.Errorf("%d to say at %d: %s, %+v, %s", count, seq, shownItems(said), next, shownMate(after))
				}
			}
		}
	}
}

func TestHoldDrawsTheLine(t *testing.T) {
	for aru := 0; aru <= 5; aru++ {
		for seen := 0; seen <= 7; seen++ {
			for came := 0; came <= 7; came++ {
				for line := 0; line <= aru; line++ {
					m := bareMate()
					m.Items = append(itemsOf(upTo(aru)...), itemOf(aru+2))
					m.Seen, m.Line = seen, line
					after, _, next, ok := wantPromiseOfHold(t, m, impl.Token{Conf: 1, Round: 1, Seq: 7, Aru: came, By: 2})
					if !ok || after.Line != max(line, min(seen, came, aru)) || after.Seen != came || next.Aru != min(came, aru) {
						t.Errorf("has %d, Seen %d, Line %d, and the token came with %d: %s, %+v", aru, seen, line, came, shownMate(after), next)
					}
				}
			}
		}
	}
}

// What is said anew counts as had at once; the Aru that counts for Line is that with which the token came.
func TestHoldMarksBehindWhatItSays(t *testing.T) {
	m := bareMate()
	m.Items, m.Seen, m.Level, m.Texts = itemsOf(1, 2), 60, []int{1, 1}, []string{"a", "b"}
	after, _, next, _ := wantPromiseOfHold(t, m, impl.Token{Conf: 1, Round: 1, Seq: 2, Aru: 2})
	if next.Aru != 4 || next.By != 0 || after.Seen != 2 || after.Line != 2 || len(next.Wants) != 0 {
		t.Errorf("%s, %+v", shownMate(after), next)
	}
	after, _, next, _ = wantPromiseOfHold(t, m, impl.Token{Conf: 1, Round: 1, Seq: 2, Aru: 1, By: 1})
	if next.Aru != 4 || next.By != 0 || after.Seen != 1 || after.Line != 1 {
		t.Errorf("%s, %+v", shownMate(after), next)
	}
	after, _, next, _ = wantPromiseOfHold(t, m, impl.Token{Conf: 1, Round: 1, Seq: 2, Aru: 1, By: 2})
	if next.Aru != 1 || next.By != 2 || after.Seen != 1 || after.Line != 1 {
		t.Errorf("%s, %+v", shownMate(after), next)
	}
	after, _, next, _ = wantPromiseOfHold(t, m, impl.Token{Conf: 1, Round: 1, Seq: 3, Aru: 3})
	if next.Aru != 2 || next.By != 1 || after.Seen != 3 || after.Line != 2 || !slices.Equal(next.Wants, []int{3}) {
		t.Errorf("%s, %+v", shownMate(after), next)
	}
}

func TestHoldSaysAgainAheadOfNew(t *testing.T) {
	m := bareMate()
	m.Items, m.Level, m.Texts = itemsOf(1, 2, 4, 6), []int{1, 2, 1, 2}, []string{"a", "b", "c", "d"}
	fresh := []impl.Item{{Seq: 8, From: 1, Level: 1, Text: "a"}, {Seq: 9, From: 1, Level: 2, Text: "b"}, {Seq: 10, From: 1, Level: 1, Text: "c"}}
	for _, wants := range [][]int{nil, {1}, {2, 6}, {3}, {3, 5, 7}, {1, 2, 3, 4, 5, 6, 7}} {
		_, said, next, ok := wantPromiseOfHold(t, m, impl.Token{Conf: 1, Round: 1, Seq: 7, Aru: 7, Wants: wants})
		again := slices.DeleteFunc(itemsOf(wants...), func(x impl.Item) bool { return !hasSeq(m.Items, x.Seq) })
		if !ok || !slices.Equal(said, append(again, fresh...)) || !slices.Equal(next.Wants, []int{3, 5, 7}) {
			t.Errorf("%v wanted: %s, then %v", wants, shownItems(said), next.Wants)
		}
	}
	m.Items = itemsOf(fromTo(20, 60)...)
	_, said, next, _ := wantPromiseOfHold(t, m, impl.Token{Conf: 1, Round: 1, Seq: 60, Wants: fromTo(41, 60)})
	if !slices.Equal(said, itemsOf(fromTo(41, 60)...)) || !slices.Equal(next.Wants, upTo(19)) {
		t.Errorf("the last twenty wanted: %s, then %v", shownItems(said), next.Wants)
	}
}

// A number that it has already, of somebody who gave it too, stays what it is.
func TestHoldKeepsWhatItHas(t *testing.T) {
	m := bareMate()
	m.Items, m.Level, m.Texts = []impl.Item{otherOf(1), otherOf(2)}, []int{1, 1, 1}, saidTexts(3)
	after, said, _, _ := wantPromiseOfHold(t, m, impl.Token{Conf: 1, Round: 1, Seq: 1, Aru: 1})
	if !slices.Equal(seqsOf(said), []int{2, 3, 4}) || !slices.Equal(after.Items, append([]impl.Item{otherOf(1), otherOf(2)}, said[1:]...)) {
		t.Errorf("%s, %s", shownItems(said), shownItems(after.Items))
	}
}

// everyToken hands out each token of a small Seq, of every Aru and By that counts for one of Id 3, and of all Wants.
func everyToken(mostSeq int, hand func(k impl.Token)) {
	for seq := range mostSeq + 1 {
		for aru := range seq + 1 {
			for _, by := range []int{0, 1, 3} {
				for bits := range 1 << seq {
					wants := slices.DeleteFunc(upTo(seq), func(n int) bool { return bits>>(n-1)&1 == 0 })
					hand(impl.Token{Conf: 2, Round: 9, Seq: seq, Aru: aru, By: by, Wants: wants})
				}
			}
		}
	}
}

func TestHoldOfEverySmallToken(t *testing.T) {
	m := someMate()
	for bits := range 1 << 4 {
		m.Items = itemsOf(slices.DeleteFunc(upTo(4), func(n int) bool { return bits>>(n-1)&1 == 0 })...)
		m.Heard = 0
		for _, count := range []int{0, 1, 4} {
			m.Texts, m.Level = saidTexts(count), []int{2, 1, 2, 1}[:count]
			for _, m.Seen = range []int{0, 2, 3} {
				for _, m.Line = range slices.Compact([]int{0, aruByHand(m.Items)}) {
					everyToken(3, func(k impl.Token) { wantPromiseOfHold(t, m, k) })
				}
			}
		}
	}
}

func TestCatchKnown(t *testing.T) {
	m := someMate()
	caught := func(items ...impl.Item) impl.Mate {
		m := someMate()
		m.Items = items
		return m
	}
	wantCaught(t, m, itemOf(4), caught(itemsOf(1, 2, 3, 4, 5)...))
	wantCaught(t, m, itemOf(6), caught(itemsOf(1, 2, 3, 5, 6)...))
	wantCaught(t, m, itemOf(60), caught(itemsOf(1, 2, 3, 5, 60)...))
	wantCaught(t, m, otherOf(4), caught(itemOf(1), itemOf(2), itemOf(3), otherOf(4), itemOf(5)))
	for _, seq := range []int{1, 2, 3, 5} {
		wantCaught(t, m, itemOf(seq), m)
		wantCaught(t, m, otherOf(seq), m)
	}
	for _, x := range wrongItems() {
		wantCaught(t, m, x, m)
	}
	wantCaught(t, bareMate(), itemOf(2), impl.Mate{Id: 1, Ring: bareMate().Ring, Items: itemsOf(2)})
	wantCaught(t, fullMate(), otherOf(30), fullMate())
	wantCaught(t, fullMate(), itemOf(61), fullMate())
}

func TestCatchOfWrongMates(t *testing.T) {
	for _, m := range wrongMates() {
		for _, x := range []impl.Item{itemOf(1), itemOf(4), itemOf(60), itemOf(61), {}} {
			wantCaught(t, m, x, m)
		}
	}
}

// Of items in every order, each caught twice, a member has them all, and hears them once.
func TestCatchInEveryOrder(t *testing.T) {
	everyOrder([]int{1, 2, 3, 4, 6}, func(order []int) {
		m := bareMate()
		m.Items, m.Heard = nil, 0
		var heard []impl.Item
		for _, seq := range order {
			x := itemOf(seq)
			x.Level = impl.Agreed
			m = wantPromiseOfCatch(t, m, x)
			after, items := wantPromiseOfHear(t, m)
			m, heard = after, append(heard, items...)
			wantCaught(t, m, x, m)
		}
		if !slices.Equal(seqsOf(heard), upTo(4)) || m.Heard != 4 {
			t.Errorf("%v caught: heard %v", order, seqsOf(heard))
		}
	})
}

// leveled are the items up to as many as there are levels, without the holes.
func leveled(levels []int, holes ...int) []impl.Item {
	list := []impl.Item{}
	for i, level := range levels {
		if !slices.Contains(holes, i+1) {
			list = append(list, impl.Item{Seq: i + 1, From: 2, Level: level, Text: fmt.Sprint("of ", i+1)})
		}
	}
	return list
}

func TestHearKnown(t *testing.T) {
	hear := func(items []impl.Item, line, heard int, want ...int) {
		t.Helper()
		m := bareMate()
		m.Items, m.Line, m.Heard = items, line, heard
		wantMateOk(t, m, true)
		after, got := wantPromiseOfHear(t, m)
		if !slices.Equal(seqsOf(got), want) || after.Heard != heard+len(want) {
			t.Errorf("Hear(%s): %v, %d; want %v", shownMate(m), seqsOf(got), after.Heard, want)
		}
	}
	hear(nil, 0, 0)
	hear([]impl.Item{}, 0, 0)
	agreed := []int{1, 1, 1, 1, 1}
	hear(leveled(agreed), 0, 0, 1, 2, 3, 4, 5)
	hear(leveled(agreed), 5, 0, 1, 2, 3, 4, 5)
	hear(leveled(agreed), 0, 2, 3, 4, 5)
	hear(leveled(agreed), 0, 4, 5)
	hear(leveled(agreed), 0, 5)
	hear(leveled(agreed, 1), 0, 0)
	hear(leveled(agreed, 3), 0, 0, 1, 2)
	hear(leveled(agreed, 3), 2, 1, 2)
	hear(leveled(agreed, 3), 2, 2)
	hear(leveled(agreed, 5), 2, 2, 3, 4)
	safe := []int{2, 2, 2, 2, 2}
	hear(leveled(safe), 0, 0)
	hear(leveled(safe), 1, 0, 1)
	hear(leveled(safe), 3, 0, 1, 2, 3)
	hear(leveled(safe), 3, 2, 3)
	hear(leveled(safe), 3, 3)
	hear(leveled(safe), 3, 4)
	hear(leveled(safe), 5, 0, 1, 2, 3, 4, 5)
	hear(leveled(safe, 4), 3, 0, 1, 2, 3)
	mixed := []int{1, 1, 2, 1, 1}
	hear(leveled(mixed), 0, 0, 1, 2)
	hear(leveled(mixed), 2, 0, 1, 2)
	hear(leveled(mixed), 2, 2)
	hear(leveled(mixed), 3, 0, 1, 2, 3, 4, 5)
	hear(leveled(mixed), 0, 3, 4, 5)
	hear(leveled([]int{1, 2, 1, 2, 1}), 2, 0, 1, 2, 3)
	hear(leveled([]int{1, 2, 1, 2, 1}), 4, 1, 2, 3, 4, 5)
	hear(itemsOf(upTo(60)...), 60, 0, upTo(60)...)
	hear(itemsOf(upTo(60)...), 60, 59, 60)
	hear(itemsOf(upTo(60)...), 60, 60)
}

func TestHearOfEverySmallMember(t *testing.T) {
	m := bareMate()
	for there := range 1 << 5 {
		holes := slices.DeleteFunc(upTo(5), func(n int) bool { return there>>(n-1)&1 == 1 })
		for bits := range 1 << 5 {
			levels := []int{}
			for n := range 5 {
				levels = append(levels, 1+bits>>n&1)
			}
			m.Items = leveled(levels, holes...)
			aru := aruByHand(m.Items)
			for m.Line = 0; m.Line <= aru; m.Line++ {
				for m.Heard = 0; m.Heard <= aru; m.Heard++ {
					wantPromiseOfHear(t, m)
				}
			}
		}
	}
}

// Hear asks for Heard, Line and numbers alone: the chapter wants nothing else of a member there.
func TestHearOfWrongMates(t *testing.T) {
	for _, m := range wrongMates() {
		after, items := impl.Hear(m)
		want := m
		want.Heard = after.Heard
		aru := aruByHand(m.Items)
		if !sameMate(after, want) || len(items) > 0 && after.Heard > aru || after.Heard-m.Heard != len(items) {
			t.Errorf("Hear(%s): %s, %s", shownMate(m), shownMate(after), shownItems(items))
		}
		for i, x := range items {
			if x.Seq != m.Heard+1+i || x.Level == 2 && x.Seq > m.Line || !slices.Contains(m.Items, x) {
				t.Errorf("Hear(%s): %s", shownMate(m), shownItems(items))
			}
		}
	}
	m := impl.Mate{Items: leveled([]int{1, 2, 1}), Line: 2, Round: -1}
	want := m
	want.Heard = 3
	wantHeard(t, m, want, m.Items...)
	for _, heard := range []int{math.MinInt, math.MinInt + 1, -2, -1, 4, 60, math.MaxInt - 1, math.MaxInt} {
		m.Heard = heard
		wantHeard(t, m, m)
	}
	// In order is by number, however they stand; what lies behind a hole is out of reach.
	mixed := leveled([]int{1, 1, 1})
	slices.Reverse(mixed)
	wantHeard(t, impl.Mate{Items: mixed}, impl.Mate{Items: mixed, Heard: 3}, leveled([]int{1, 1, 1})...)
	for heard := 1; heard <= 6; heard++ {
		m = impl.Mate{Items: leveled(slices.Repeat([]int{1}, 8), 2, 3), Heard: heard}
		wantHeard(t, m, m)
	}
	m = impl.Mate{Items: leveled([]int{2, 2, 1})}
	for _, line := range []int{math.MinInt, -1, 0} {
		m.Line = line
		wantHeard(t, m, m)
	}
	m.Line, want = math.MaxInt, m
	want.Line, want.Heard = math.MaxInt, 3
	wantHeard(t, m, want, m.Items...)
}

// drawnMate is right mostly.
func drawnMate(l *lot) impl.Mate {
	r := rightRings()[l.below(31)]
	r.Id = 1 + l.below(2)
	m := impl.Mate{Id: r.Members[l.below(len(r.Members))], Ring: r, Round: l.below(300), Seen: l.below(10), Last: drawnToken(l)}
	for m.Items = drawnItems(l); !itemsRightByHand(m.Items); {
		m.Items = drawnItems(l)
	}
	if !tokenRightByHand(m.Last) {
		m.Last = impl.Token{}
	}
	m.Line, m.Heard = l.below(aruByHand(m.Items)+1), l.below(aruByHand(m.Items)+1)
	m.Texts = saidTexts(l.below(7))
	for range m.Texts {
		m.Level = append(m.Level, 1+l.below(2))
	}
	if l.below(6) == 0 {
		wrong := wrongNumbers(m)
		m = wrong[l.below(len(wrong))]
	}
	return m
}

func TestMembersInDrawnArguments(t *testing.T) {
	l := &lot{10}
	held, refused := 0, 0
	for range 8000 {
		m, k, x := drawnMate(l), drawnToken(l), drawnItem(l)
		k.Conf = 1 + k.Conf%2
		wantMateOk(t, m, mateRightByHand(m))
		wantSaidAsByHand(t, m, l.below(4), longText(l.below(63)))
		wantPromiseOfCatch(t, m, x)
		if mateRightByHand(m) {
			wantPromiseOfHear(t, m)
		}
		if _, _, _, ok := wantPromiseOfHold(t, m, k); ok {
			held++
		} else {
			refused++
		}
	}
	if held < 1000 || refused < 1000 {
		t.Errorf("%d tokens were held, %d refused: too few to tell", held, refused)
	}
}

// onWay is what goes to a member: an item, or a token where it has a Conf.
type onWay struct {
	to    int
	item  impl.Item
	token impl.Token
}

// mateLife is a ring of members, between whom things are lost, come twice and late.
type mateLife struct {
	ring  impl.Ring
	mates map[int]impl.Mate
	toSay map[int][]string
	heard map[int][]impl.Item
	said  []impl.Item
	way   []onWay
}

func newMateLife(t *testing.T, r impl.Ring) *mateLife {
	t.Helper()
	w := &mateLife{ring: r, mates: map[int]impl.Mate{}, toSay: map[int][]string{}, heard: map[int][]impl.Item{}}
	for _, d := range r.Members {
		m, ok := impl.MateNew(d, r)
		if !ok {
			t.Fatalf("MateNew(%d, %v) is false", d, r)
		}
		w.mates[d] = m
	}
	w.way = []onWay{{to: r.Members[0], token: impl.FirstToken(r)}}
	return w
}

func (w *mateLife) send(from int, items []impl.Item, k impl.Token) {
	for _, x := range items {
		for _, d := range w.ring.Members {
			if d != from {
				w.way = append(w.way, onWay{to: d, item: x})
			}
		}
	}
	w.way = append(w.way, onWay{to: impl.NextOf(w.ring, from), token: k})
}

func (w *mateLife) say(t *testing.T, d, level int, text string) {
	t.Helper()
	before := w.mates[d]
	after, ok := impl.Say(before, level, text)
	if ok != (len(before.Texts) < 20) {
		t.Errorf("Say(%s, %d, %q): %t", shownMate(before), level, text, ok)
	}
	if ok {
		wantGoesOn(t, "Say", before, after)
		w.mates[d] = after
		w.toSay[d] = append(w.toSay[d], text)
	}
}

func (w *mateLife) come(t *testing.T, place int) {
	t.Helper()
	f := w.way[place]
	w.way = slices.Delete(w.way, place, place+1)
	if f.token.Conf == 0 {
		w.mates[f.to] = wantPromiseOfCatch(t, w.mates[f.to], f.item)
		return
	}
	after, said, next, ok := wantPromiseOfHold(t, w.mates[f.to], f.token)
	if !ok {
		return
	}
	w.mates[f.to] = after
	w.send(f.to, said, next)
	for _, x := range said {
		if x.Seq > f.token.Seq {
			w.said = append(w.said, x)
			if x.Text != w.toSay[f.to][0] {
				t.Errorf("%d said %s; its next was %q", f.to, shownItem(x), w.toSay[f.to][0])
			}
			w.toSay[f.to] = w.toSay[f.to][1:]
		}
	}
}

// again sends the first token once more, too, where it was lost ahead of all else.
func (w *mateLife) again(d int) {
	m := w.mates[d]
	if m.Last.Conf == 0 {
		if d == w.ring.Members[0] {
			w.way = append(w.way, onWay{to: d, token: impl.FirstToken(w.ring)})
		}
		return
	}
	own := slices.DeleteFunc(slices.Clone(m.Items), func(x impl.Item) bool { return x.From != d })
	w.send(d, own, m.Last)
}

func (w *mateLife) hear(t *testing.T, d int) {
	t.Helper()
	after, items := wantPromiseOfHear(t, w.mates[d])
	w.mates[d] = after
	w.heard[d] = append(w.heard[d], items...)
}

// hold: what is heard is a beginning of what was numbered, and what is safe has come to all before it is heard.
func (w *mateLife) hold(t *testing.T) {
	t.Helper()
	for d, heard := range w.heard {
		if len(heard) > len(w.said) || !slices.Equal(heard, w.said[:len(heard)]) {
			t.Errorf("ring %v: %d heard %s; said was %s", w.ring, d, shownItems(heard), shownItems(w.said))
		}
	}
	for d, m := range w.mates {
		for _, other := range w.mates {
			if aru := impl.AruOf(other.Items); aru < m.Line {
				t.Errorf("ring %v: to %d all is safe up to %d, and %d has it up to %d", w.ring, d, m.Line, other.Id, aru)
			}
		}
	}
}

func (w *mateLife) step(t *testing.T, l *lot) {
	t.Helper()
	d := w.ring.Members[l.below(len(w.ring.Members))]
	switch pick := l.below(20); {
	case pick < 3:
		w.say(t, d, 1+l.below(2), fmt.Sprintf("%d of %d", l.below(100), d))
	case pick < 5:
		w.hear(t, d)
	case pick == 5 || len(w.way) == 0:
		w.again(d)
	case pick < 8:
		place := l.below(len(w.way))
		w.way = slices.Delete(w.way, place, place+1)
	case pick == 8:
		w.way = append(w.way, w.way[l.below(len(w.way))])
	default:
		w.come(t, l.below(len(w.way)))
	}
}

// settle lets all that is on the way come, and then the token go around until all is safe.
func (w *mateLife) settle(t *testing.T) {
	t.Helper()
	for range 600 {
		if len(w.way) == 0 {
			for _, d := range w.ring.Members {
				w.again(d)
			}
		}
		w.come(t, 0)
	}
	for _, d := range w.ring.Members {
		w.hear(t, d)
	}
}

func TestMembersInDrawnLives(t *testing.T) {
	l := &lot{1010}
	numbers := 0
	for range 150 {
		w := newMateLife(t, rightRings()[l.below(len(rightRings()))])
		for range 120 {
			w.step(t, l)
			w.hold(t)
		}
		w.settle(t)
		w.hold(t)
		numbers += len(w.said)
		for _, d := range w.ring.Members {
			if !slices.Equal(w.heard[d], w.said) || len(w.toSay[d]) > 0 {
				t.Errorf("ring %v: at last %d heard %s; said was %s; %q it has yet to say", w.ring, d, shownItems(w.heard[d]), shownItems(w.said), w.toSay[d])
			}
		}
		if !slices.Equal(seqsOf(w.said), upTo(len(w.said))) {
			t.Errorf("ring %v: numbers %v were given", w.ring, seqsOf(w.said))
		}
	}
	if numbers < 1000 {
		t.Errorf("%d numbers were given: too few to tell", numbers)
	}
}

// mateArguments are a member whose lists have spare room on both sides, and whose texts lie in memory that the test can look at.
type mateArguments struct {
	mate    impl.Mate
	members roomy[int]
	items   itemArguments
	level   roomy[int]
	texts   roomy[string]
	said    []argument
	wants   roomy[int]
}

func newMateArguments(m impl.Mate) mateArguments {
	a := mateArguments{members: newRoomy(m.Ring.Members, 5), items: newItemArguments(m.Items), level: newRoomy(m.Level, 2), wants: newRoomy(m.Last.Wants, 7)}
	var texts []string
	for _, text := range append(slices.Clone(m.Texts), "spare") {
		a.said = append(a.said, newArgument(text))
		texts = append(texts, a.said[len(a.said)-1].text)
	}
	a.texts = newRoomy(texts[:len(m.Texts)], texts[len(m.Texts)])
	m.Ring.Members, m.Items, m.Level, m.Texts, m.Last.Wants = a.members.list, a.items.list, a.level.list, a.texts.list, a.wants.list
	a.mate = m
	return a
}

// untouched fails when the member was written to, or when an answer lies in its memory.
func (a mateArguments) untouched(t *testing.T, call string, m impl.Mate, said []impl.Item, next impl.Token) {
	t.Helper()
	a.members.unchanged(t, call, sameNumber)
	a.level.unchanged(t, call, sameNumber)
	a.wants.unchanged(t, call, sameNumber)
	a.texts.unchanged(t, call, sameText)
	a.items.untouched(t, call, m.Items...)
	a.items.untouched(t, call, said...)
	a.items.untouched(t, call, asItems(m.Texts)...)
	for _, text := range a.said {
		text.untouched(t, call, slices.Concat(m.Texts, asTexts(m.Items), asTexts(said))...)
	}
	given := [][]byte{memoryOf(a.members.whole), memoryOf(a.items.whole), memoryOf(a.level.whole), memoryOf(a.texts.whole), memoryOf(a.wants.whole)}
	for _, list := range roomsOf(m, said, next) {
		for _, other := range given {
			if overlap(list, other) {
				t.Errorf("%s: the answer shares a list with %s", call, shownMate(a.mate))
			}
		}
	}
}

func asTexts(list []impl.Item) []string {
	var texts []string
	for _, x := range list {
		texts = append(texts, x.Text)
	}
	return texts
}

func asItems(texts []string) []impl.Item {
	var list []impl.Item
	for _, text := range texts {
		list = append(list, impl.Item{Text: text})
	}
	return list
}

// roomsOf are the rooms of all lists of an answer.
func roomsOf(m impl.Mate, said []impl.Item, next impl.Token) [][]byte {
	return [][]byte{memoryOf(m.Ring.Members), memoryOf(m.Items), memoryOf(m.Level), memoryOf(m.Texts), memoryOf(m.Last.Wants), memoryOf(said), memoryOf(next.Wants)}
}

// apartWithin fails when two lists of one answer share memory.
func apartWithin(t *testing.T, call string, m impl.Mate, said []impl.Item, next impl.Token) {
	t.Helper()
	rooms := roomsOf(m, said, next)
	for i, list := range rooms {
		for _, other := range rooms[:i] {
			if overlap(list, other) {
				t.Errorf("%s: two lists of the answer %s, %s, %+v share memory", call, shownMate(m), shownItems(said), next)
			}
		}
	}
	apart(t, call+", Items and Texts", asTexts(m.Items), m.Texts)
	apart(t, call+", Items and what is said", asTexts(m.Items), asTexts(said))
	apart(t, call+", Texts and what is said", m.Texts, asTexts(said))
}

// matesToLookAt are right and wrong ones, with lists of several sizes.
func matesToLookAt() []impl.Mate {
	list := someMates()
	for _, count := range []int{1, 3, 4, 19} {
		m := someMate()
		m.Texts, m.Level = saidTexts(count), slices.Repeat([]int{2}, count)
		list = append(list, m)
	}
	full := fullMate()
	full.Round = 5
	list = append(list, full)
	for i, m := range wrongMates() {
		if i%9 == 0 {
			list = append(list, m)
		}
	}
	return list
}

func TestHoldLeavesArgumentsAlone(t *testing.T) {
	for _, m := range matesToLookAt() {
		for _, k := range []impl.Token{
			{Conf: m.Ring.Id, Round: 500, Seq: 60, Aru: 60, Wants: fromTo(1, 6)}, {Conf: m.Ring.Id, Round: 500, Seq: 5, Aru: 5}, {Conf: m.Ring.Id, Round: 500, Seq: 6, Aru: 2, By: m.Id, Wants: []int{2, 4, 5}},
			{Conf: m.Ring.Id, Round: 3, Seq: 6, Wants: []int{2, 4}}, {Conf: m.Ring.Id, Round: 500, Seq: 6, Wants: []int{4, 2}}, {},
		} {
			a, wants := newMateArguments(m), newRoomy(k.Wants, 7)
			given := k
			given.Wants = wants.list
			after, said, next, _ := impl.Hold(a.mate, given)
			wants.unchanged(t, "Hold", sameNumber)
			a.untouched(t, "Hold", after, said, next)
			apartWithin(t, "Hold", after, said, next)
			aliased(t, "Hold", after.Last.Wants, wants.whole)
			aliased(t, "Hold", next.Wants, wants.whole)
			again, saidAgain, nextAgain, _ := impl.Hold(a.mate, given)
			for _, list := range roomsOf(after, said, next) {
				for _, other := range roomsOf(again, saidAgain, nextAgain) {
					if overlap(list, other) {
						t.Errorf("Hold(%s, %+v): two answers share memory", shownMate(m), k)
					}
				}
			}
		}
	}
}

func TestMembersLeaveArgumentsAlone(t *testing.T) {
	none := impl.Token{}
	for _, m := range matesToLookAt() {
		a := newMateArguments(m)
		impl.MateOk(a.mate)
		a.untouched(t, "MateOk", impl.Mate{}, nil, none)
		made, _ := impl.MateNew(m.Id, a.mate.Ring)
		a.untouched(t, "MateNew", made, nil, none)
		for _, s := range []string{"", "new", longText(61)} {
			text := newArgument(s)
			after, _ := impl.Say(a.mate, 1, text.text)
			a.untouched(t, "Say", after, nil, none)
			text.untouched(t, "Say", after.Texts...)
			apartWithin(t, "Say", after, nil, none)
		}
		for _, seq := range []int{0, 1, 4, 6} {
			text := newArgument("caught")
			after := impl.Catch(a.mate, impl.Item{Seq: seq, From: 1, Level: 1, Text: text.text})
			a.untouched(t, "Catch", after, nil, none)
			text.untouched(t, "Catch", asTexts(after.Items)...)
			apartWithin(t, "Catch", after, nil, none)
		}
		after, heard := impl.Hear(a.mate)
		a.untouched(t, "Hear", after, heard, none)
		apartWithin(t, "Hear", after, heard, none)
	}
}

// One list may stand in several fields of a member, and in the token: the answer has one for each.
func TestMembersPartOneListInMany(t *testing.T) {
	one, texts := []int{1, 2}, []string{"a", "b"}
	for _, round := range []int{0, 9} {
		m := impl.Mate{
			Id: 1, Ring: impl.Ring{Id: 1, Members: one}, Items: []impl.Item{{Seq: 1, From: 1, Level: 1, Text: texts[0]}, {Seq: 2, From: 1, Level: 1, Text: texts[1]}},
			Level: one, Texts: texts, Round: round, Last: impl.Token{Conf: 1, Round: 1, Seq: 2, Wants: one},
		}
		after, said, next, _ := impl.Hold(m, impl.Token{Conf: 1, Round: 5, Seq: 4, Wants: one})
		apartWithin(t, "Hold", after, said, next)
		after, _ = impl.Say(m, 1, texts[0])
		apartWithin(t, "Say", after, nil, impl.Token{})
		after = impl.Catch(m, impl.Item{Seq: 3, From: 1, Level: 1, Text: texts[0]})
		apartWithin(t, "Catch", after, nil, impl.Token{})
		after, said = impl.Hear(m)
		apartWithin(t, "Hear", after, said, impl.Token{})
	}
}

func TestMembersDoNotLookIntoSpareRoom(t *testing.T) {
	members, items, level, texts, wants := []int{1, 3, 4}, itemsOf(1, 2, 3), []int{1, 2, 1}, []string{"a", "b", "c"}, []int{1, 2, 3}
	m := impl.Mate{Id: 3, Ring: impl.Ring{Id: 1, Members: members[:2]}, Items: items[:2], Level: level[:1], Texts: texts[:1], Last: impl.Token{Conf: 1, Round: 1, Seq: 1, Wants: wants[:1]}}
	wantMateOk(t, m, true)
	m.Heard = 3
	wantMateOk(t, m, false)
	m.Heard, m.Id = 0, 4
	wantMateOk(t, m, false)
	m.Id = 3
	wantPromiseOfHold(t, m, impl.Token{Conf: 1, Round: 1, Seq: 3, Aru: 3, Wants: wants[:1]})
	wantSaidAsByHand(t, m, 1, "z")
	wantPromiseOfCatch(t, m, otherOf(3))
	m.Line = 2
	wantPromiseOfHear(t, m)
	if !slices.Equal(items, itemsOf(1, 2, 3)) || !slices.Equal(texts, []string{"a", "b", "c"}) || !slices.Equal(level, []int{1, 2, 1}) {
		t.Error("something was written into spare room")
	}
}

func TestTwoFromOneMember(t *testing.T) {
	for _, base := range []impl.Mate{bareMate(), someMate()} {
		first, _ := impl.Say(base, 1, "first")
		left, _ := impl.Say(first, 2, "left")
		right, _ := impl.Say(first, 1, "right")
		wantSaidAsByHand(t, base, 1, "first")
		at := len(base.Texts) + 1
		if left.Texts[at] != "left" || right.Texts[at] != "right" || left.Level[at] != 2 || right.Level[at] != 1 || len(first.Texts) != at {
			t.Errorf("two said by %s: %s and %s", shownMate(first), shownMate(left), shownMate(right))
		}
		k := impl.Token{Conf: base.Ring.Id, Round: 9, Seq: 6, Aru: 6}
		held, _, _, _ := impl.Hold(right, k)
		other, _, _, _ := impl.Hold(left, k)
		want, _, _, _ := holdByHand(right, k)
		wantOther, _, _, _ := holdByHand(left, k)
		if !sameMate(held, want) || !sameMate(other, wantOther) {
			t.Errorf("two held: %s and %s", shownMate(held), shownMate(other))
		}
		one, two := impl.Catch(held, itemOf(59)), impl.Catch(held, otherOf(59))
		if !slices.Contains(one.Items, itemOf(59)) || !slices.Contains(two.Items, otherOf(59)) || hasSeq(held.Items, 59) {
			t.Errorf("two caught: %s and %s", shownMate(one), shownMate(two))
		}
	}
}

func TestMembersKeepNothing(t *testing.T) {
	m, k := someMate(), impl.Token{Conf: 2, Round: 12, Seq: 6, Aru: 5, Wants: []int{2, 4, 5}}
	for range 3 {
		wantPromiseOfHold(t, m, k)
		wantNotHeld(t, m, impl.Token{Conf: 2, Round: 7})
		wantMateNew(t, 3, m.Ring, impl.Mate{Id: 3, Ring: m.Ring}, true)
		wantMateNew(t, 2, m.Ring, impl.Mate{}, false)
		wantSaidAsByHand(t, m, 1, "c")
		wantSaid(t, m, 3, "c", impl.Mate{}, false)
		wantPromiseOfCatch(t, m, itemOf(4))
		wantPromiseOfHear(t, m)
		after, said, next, _ := impl.Hold(m, k)
		after.Ring.Members[0], after.Items[0], said[0], next.Wants[0] = 9, impl.Item{}, impl.Item{}, 99
		if after.Last.Wants[0] == 99 {
			t.Error("Last and the token share their Wants")
		}
		made, _ := impl.MateNew(3, m.Ring)
		made.Ring.Members[0] = 9
	}
	if !sameMate(m, someMate()) {
		t.Errorf("the member became %s", shownMate(m))
	}
}
