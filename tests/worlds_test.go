package tests

import (
	"fmt"
	"math"
	"reflect"
	"slices"
	"strings"
	"testing"

	"loop.example/g00183/impl"
)

// The kinds of letters are the program's own: the document names none.
const (
	itemLetter   = 1
	tokenLetter  = 2
	bundleLetter = 3
)

func ringsRightByHand(rings []impl.Ring) bool {
	if len(rings) == 0 || len(rings) > 9 {
		return false
	}
	for i := range rings {
		if rings[i].Id != 1+i || !ringRightByHand(rings[i]) {
			return false
		}
	}
	return true
}

func deedRightByHand(e impl.Deed) bool {
	if !slices.Contains(upTo(5), e.Id) || e.At < 0 {
		return false
	}
	switch e.Kind {
	case 1:
		return (e.Level == 1 || e.Level == 2) && len(e.Text) <= 60
	case 2, 3, 4, 5, 6, 7, 8, 9:
		return e.Level == 0 && len(e.Text) == 0
	}
	return false
}

// worldLife is a world by the chapter's sentences alone; it has its daemons by their Ids.
type worldLife struct {
	rings    []impl.Ring
	daemons  map[int]impl.Daemon
	letters  []impl.Letter
	numbered []impl.Event
	went     map[int][]int
	fell     map[int]bool
	seen     map[string]int
}

func newWorldLife(rings []impl.Ring) *worldLife {
	w := &worldLife{rings: rings, daemons: map[int]impl.Daemon{}, went: map[int][]int{}, fell: map[int]bool{}, seen: map[string]int{}}
	for _, id := range upTo(5) {
		w.daemons[id] = impl.Daemon{Id: id}
	}
	return w
}

func (w *worldLife) world() impl.World {
	out := impl.World{Rings: w.rings, Letters: slices.Clone(w.letters), Numbered: slices.Clone(w.numbered)}
	for _, id := range upTo(5) {
		out.Daemons = append(out.Daemons, w.daemons[id])
	}
	return out
}

func (w *worldLife) set(d impl.Daemon, ok bool) bool {
	if ok {
		w.daemons[d.Id] = d
	}
	return ok
}

func (w *worldLife) tell(r impl.Ring, from int, list []impl.Item) {
	for _, x := range list {
		for _, d := range r.Members {
			if d != from {
				w.letters = append(w.letters, impl.Letter{Kind: itemLetter, To: d, Conf: r.Id, Item: x})
			}
		}
	}
}

func (w *worldLife) pass(r impl.Ring, from int, k impl.Token) {
	w.letters = append(w.letters, impl.Letter{Kind: tokenLetter, To: nextByHand(r, from), Token: k})
}

func (w *worldLife) takeToken(id int, k impl.Token) bool {
	r := w.daemons[id].Mate.Ring
	d, said, next, ok := takeTokenByHand(w.daemons[id], k)
	if !w.set(d, ok) {
		return false
	}
	w.tell(r, id, said)
	w.pass(r, id, next)
	for _, x := range said {
		if x.Seq > k.Seq {
			w.numbered = append(w.numbered, impl.Event{Kind: 1, Ring: r, Item: x})
		} else {
			w.seen["said again"]++
		}
	}
	return true
}

// stateOf is what hinders who something comes to from taking it, as far as it is not the thing itself.
func stateOf(d impl.Daemon) string {
	switch {
	case d.Dead:
		return "the dead"
	case d.Joining.Id != 0:
		return "who is on its way"
	case d.Mate.Ring.Id == 0:
		return "who has no ring"
	}
	return "who is in a ring"
}

func (w *worldLife) come(x impl.Letter) bool {
	d := w.daemons[x.To]
	state := stateOf(d)
	switch x.Kind {
	case itemLetter:
		after := takeItemByHand(d, x.Conf, x.Item)
		w.seen[fmt.Sprintf("item to %s, its own %t, new %t", state, d.Mate.Ring.Id == x.Conf, len(after.Mate.Items) > len(d.Mate.Items))]++
		return w.set(after, true)
	case tokenLetter:
		held := w.takeToken(x.To, x.Token)
		w.seen[fmt.Sprintf("token to %s, its own %t, held %t", state, d.Mate.Ring.Id == x.Token.Conf, held)]++
		return held
	}
	after, ok := takeBundleByHand(d, x.Bundle)
	w.seen[fmt.Sprintf("bundle to %s, its own %t, taken %t", state, d.Joining.Id == x.Bundle.New, ok)]++
	if after.Old != d.Old {
		w.seen["installed"]++
		if len(after.Log) > len(d.Log)+2 {
			w.seen["installed behind a rest"]++
		}
		if w.fell[d.Id] && len(d.Log) > 0 {
			w.seen["installed behind a fall"]++
		}
	}
	return w.set(after, ok)
}

func (w *worldLife) again(id int) bool {
	d := w.daemons[id]
	if d.Mate.Ring.Id == 0 || d.Joining.Id != 0 || sameToken(d.Mate.Last, impl.Token{}) {
		return false
	}
	w.pass(d.Mate.Ring, id, d.Mate.Last)
	w.tell(d.Mate.Ring, id, slices.DeleteFunc(slices.Clone(d.Mate.Items), func(x impl.Item) bool { return x.From != id }))
	return true
}

// nextRing is that to which a daemon goes; without a ring there is none.
func (w *worldLife) nextRing(id int) (impl.Ring, bool) {
	for _, r := range w.rings {
		if r.Id > w.daemons[id].Most && slices.Contains(r.Members, id) {
			return r, true
		}
	}
	return impl.Ring{}, false
}

func (w *worldLife) move(id int) bool {
	r, there := w.nextRing(id)
	d, told, ok := moveByHand(w.daemons[id], r)
	if !there || !w.set(d, ok) {
		return false
	}
	w.went[id] = append(w.went[id], r.Id)
	for _, other := range r.Members {
		if other != id {
			w.letters = append(w.letters, impl.Letter{Kind: bundleLetter, To: other, Bundle: told[0]})
			told = told[1:]
		}
	}
	return true
}

// letter is for what is done to a letter, whoever the deed names.
func (w *worldLife) letter(kind, at int) bool {
	if len(w.letters) == 0 {
		return false
	}
	place := at % len(w.letters)
	x := w.letters[place]
	if kind == 5 {
		w.letters = append(slices.Clone(w.letters), x)
		return true
	}
	w.letters = slices.Concat(w.letters[:place], w.letters[place+1:])
	return kind == 4 || w.come(x)
}

func (w *worldLife) done(e impl.Deed) bool {
	d := w.daemons[e.Id]
	switch e.Kind {
	case 1:
		return w.set(sayDaemonByHand(d, e.Level, e.Text))
	case 2:
		k, ok := firstOfByHand(d)
		return ok && w.takeToken(e.Id, k)
	case 6:
		return w.again(e.Id)
	case 7:
		return w.move(e.Id)
	case 8:
		w.fell[e.Id] = w.fell[e.Id] || d.Old > 0
		return w.set(crashByHand(d), !d.Dead)
	case 9:
		return w.set(wakeByHand(d))
	}
	return w.letter(e.Kind, e.At)
}

func (w *worldLife) deed(e impl.Deed) int {
	number := 1
	state := stateOf(w.daemons[e.Id])
	if w.done(e) {
		number = 0
	}
	w.seen[fmt.Sprintf("%s %d", shownKind(e.Kind), number)]++
	if e.Kind == impl.DoCrash || e.Kind == impl.DoSay {
		w.seen[fmt.Sprintf("%s of %s %d", shownKind(e.Kind), state, number)]++
	}
	return number
}

func shownKind(kind int) string {
	return []string{"", "DoSay", "DoFirst", "DoCarry", "DoLose", "DoTwice", "DoAgain", "DoMove", "DoCrash", "DoWake"}[kind]
}

func runWorldByHand(rings []impl.Ring, deeds []impl.Deed) (impl.World, []int, bool) {
	if !ringsRightByHand(rings) || len(deeds) > 90 || slices.ContainsFunc(deeds, func(e impl.Deed) bool { return !deedRightByHand(e) }) {
		return impl.World{}, nil, false
	}
	w := newWorldLife(rings)
	var numbers []int
	for _, e := range deeds {
		numbers = append(numbers, w.deed(e))
	}
	return w.world(), numbers, true
}

func sameLetter(a, b impl.Letter) bool {
	return a.Kind == b.Kind && a.To == b.To && a.Conf == b.Conf && a.Item == b.Item && sameToken(a.Token, b.Token) && sameBundle(a.Bundle, b.Bundle)
}

func sameWorld(a, b impl.World) bool {
	return slices.EqualFunc(a.Rings, b.Rings, sameRing) && slices.EqualFunc(a.Daemons, b.Daemons, sameDaemon) &&
		slices.EqualFunc(a.Letters, b.Letters, sameLetter) && slices.EqualFunc(a.Numbered, b.Numbered, sameEvent)
}

func shownLetter(x impl.Letter) string {
	return fmt.Sprintf("%d<%d %d %s %+v %s", x.To, x.Kind, x.Conf, shownItem(x.Item), x.Token, shownBundle(x.Bundle))
}

func shownLetters(list []impl.Letter) string {
	told := []string{fmt.Sprintf("%d letters", len(list))}
	for _, x := range list[:min(len(list), 40)] {
		told = append(told, shownLetter(x))
	}
	return strings.Join(told, "\n    ")
}

func shownWorld(w impl.World) string {
	var b strings.Builder
	fmt.Fprintf(&b, "{Rings %.300s", fmt.Sprint(w.Rings))
	for _, d := range w.Daemons[:min(len(w.Daemons), 7)] {
		fmt.Fprintf(&b, "\n  %s", shownDaemon(d))
	}
	fmt.Fprintf(&b, "\n  %s\n  Numbered %s}", shownLetters(w.Letters), shownLog(w.Numbered))
	return b.String()
}

func shownDeeds(deeds []impl.Deed) string { return fmt.Sprintf("%.3000s", fmt.Sprint(deeds)) }

func wantRingsOk(t *testing.T, rings []impl.Ring, want bool) {
	t.Helper()
	if got := impl.RingsOk(rings); got != want || ringsRightByHand(rings) != want {
		t.Errorf("RingsOk(%.300s): %t; want %t", fmt.Sprint(rings), got, want)
	}
}

func wantDeedOk(t *testing.T, e impl.Deed, want bool) {
	t.Helper()
	if got := impl.DeedOk(e); got != want {
		t.Errorf("DeedOk({%d %d %d %d %.70q}): %t; want %t", e.Kind, e.Id, e.At, e.Level, e.Text, got, want)
	}
}

func wantWorldNew(t *testing.T, rings []impl.Ring, want impl.World, wantOk bool) {
	t.Helper()
	if got, ok := impl.WorldNew(rings); !sameWorld(got, want) || ok != wantOk {
		t.Errorf("WorldNew(%.300s): %s, %t; want %s, %t", fmt.Sprint(rings), shownWorld(got), ok, shownWorld(want), wantOk)
	}
}

func wantWorldNewAsByHand(t *testing.T, rings []impl.Ring) {
	t.Helper()
	if ringsRightByHand(rings) {
		wantWorldNew(t, rings, newWorldLife(rings).world(), true)
	} else {
		wantWorldNew(t, rings, impl.World{}, false)
	}
}

func wantRunWorld(t *testing.T, rings []impl.Ring, deeds []impl.Deed, want impl.World, wantNumbers []int, wantOk bool) impl.World {
	t.Helper()
	got, numbers, ok := impl.RunWorld(rings, deeds)
	if !sameWorld(got, want) || !slices.Equal(numbers, wantNumbers) || ok != wantOk {
		t.Errorf("RunWorld(%.300s, %s):\n%s, %v, %t; want\n%s, %v, %t", fmt.Sprint(rings), shownDeeds(deeds), shownWorld(got), numbers, ok, shownWorld(want), wantNumbers, wantOk)
	}
	return got
}

func wantNoWorld(t *testing.T, rings []impl.Ring, deeds []impl.Deed) {
	t.Helper()
	wantRunWorld(t, rings, deeds, impl.World{}, nil, false)
}

func wantWorldAsByHand(t *testing.T, rings []impl.Ring, deeds ...impl.Deed) impl.World {
	t.Helper()
	want, numbers, ok := runWorldByHand(rings, deeds)
	return wantRunWorld(t, rings, deeds, want, numbers, ok)
}

// wantLast holds the answer of deeds against the reckoning by hand, and the numbers of the last ones against those that a test names.
func wantLast(t *testing.T, rings []impl.Ring, deeds []impl.Deed, last ...int) impl.World {
	t.Helper()
	w := wantWorldAsByHand(t, rings, deeds...)
	_, numbers, ok := impl.RunWorld(rings, deeds)
	if !ok || len(numbers) != len(deeds) || len(w.Daemons) != 5 {
		t.Fatalf("RunWorld(%v, %s): %d daemons, %v, %t", rings, shownDeeds(deeds), len(w.Daemons), numbers, ok)
	}
	if !slices.Equal(numbers[len(numbers)-len(last):], last) {
		t.Errorf("RunWorld(%v, %s): numbers %v; want at their end %v", rings, shownDeeds(deeds), numbers, last)
	}
	return w
}

func wantLetters(t *testing.T, w impl.World, want ...impl.Letter) {
	t.Helper()
	if !slices.EqualFunc(w.Letters, want, sameLetter) {
		t.Errorf("on the way: %s; want %s", shownLetters(w.Letters), shownLetters(want))
	}
}

func wantNumberedIn(t *testing.T, w impl.World, want ...impl.Event) {
	t.Helper()
	if !slices.EqualFunc(w.Numbered, want, sameEvent) {
		t.Errorf("numbered: %s; want %s", shownLog(w.Numbered), shownLog(want))
	}
}

func wantLogOf(t *testing.T, w impl.World, id int, want ...impl.Event) {
	t.Helper()
	if got := impl.LogOf(w, id); !slices.EqualFunc(got, want, sameEvent) {
		t.Errorf("LogOf %d of %s: %s; want %s", id, shownWorld(w), shownLog(got), shownLog(want))
	}
}

// wantSameBut fails where any daemon but these is another one.
func wantSameBut(t *testing.T, before, after impl.World, ids ...int) {
	t.Helper()
	for i, d := range before.Daemons {
		if !slices.Contains(ids, d.Id) && !sameDaemon(d, after.Daemons[i]) {
			t.Errorf("%d became %s; was %s", d.Id, shownDaemon(after.Daemons[i]), shownDaemon(d))
		}
	}
}

// sayingsDone are what was said by the deeds, by whom, as items without numbers.
func sayingsDone(deeds []impl.Deed, numbers []int) []impl.Item {
	var list []impl.Item
	for i, e := range deeds {
		if e.Kind == 1 && numbers[i] == 0 {
			list = append(list, impl.Item{From: e.Id, Level: e.Level, Text: e.Text})
		}
	}
	return list
}

// wantPromiseOfWorld holds the promise itself, without a reckoning of what was done.
func wantPromiseOfWorld(t *testing.T, w impl.World, deeds []impl.Deed, numbers []int) {
	t.Helper()
	given, said := map[int]int{}, sayingsDone(deeds, numbers)
	for _, e := range w.Numbered {
		if e.Kind != impl.IsItem || len(e.With) > 0 || e.Ring.Id < 1 || e.Ring.Id > len(w.Rings) || !sameRing(e.Ring, w.Rings[e.Ring.Id-1]) {
			t.Errorf("%s is numbered in %v", shownEvent(e), w.Rings)
		}
		given[e.Ring.Id]++
		if e.Item.Seq != given[e.Ring.Id] {
			t.Errorf("in ring %d number %d is given behind %d others: %s", e.Ring.Id, e.Item.Seq, given[e.Ring.Id]-1, shownLog(w.Numbered))
		}
		if !slices.Contains(e.Ring.Members, e.Item.From) {
			t.Errorf("%s is of no member", shownEvent(e))
		}
		bare := e.Item
		bare.Seq = 0
		place := slices.Index(said, bare)
		if place < 0 {
			t.Errorf("%s was not said, or is numbered twice: %s", shownEvent(e), shownDeeds(deeds))
			continue
		}
		said = slices.Delete(said, place, place+1)
	}
	for _, d := range w.Daemons {
		if !daemonRightByHand(d) || !impl.DaemonOk(d) {
			t.Errorf("a daemon is not right any more: %s", shownDaemon(d))
		}
		for _, e := range d.Log {
			if e.Kind == impl.IsItem && !slices.ContainsFunc(w.Numbered, func(n impl.Event) bool { return sameEvent(n, e) }) {
				t.Errorf("%d heard %s, which is not numbered: %s", d.Id, shownEvent(e), shownLog(w.Numbered))
			}
		}
	}
}

func deedOf(kind, id int) impl.Deed { return impl.Deed{Kind: kind, Id: id} }

func sayDeed(id, level int, text string) impl.Deed {
	return impl.Deed{Kind: impl.DoSay, Id: id, Level: level, Text: text}
}

func firstDeed(id int) impl.Deed { return deedOf(impl.DoFirst, id) }

func againDeed(id int) impl.Deed { return deedOf(impl.DoAgain, id) }

func moveDeed(id int) impl.Deed { return deedOf(impl.DoMove, id) }

func crashDeed(id int) impl.Deed { return deedOf(impl.DoCrash, id) }

func wakeDeed(id int) impl.Deed { return deedOf(impl.DoWake, id) }

func carryDeed(at int) impl.Deed { return impl.Deed{Kind: impl.DoCarry, Id: 1, At: at} }

func loseDeed(at int) impl.Deed { return impl.Deed{Kind: impl.DoLose, Id: 1, At: at} }

func twiceDeed(at int) impl.Deed { return impl.Deed{Kind: impl.DoTwice, Id: 1, At: at} }

func deedsThen(deeds []impl.Deed, more ...impl.Deed) []impl.Deed { return slices.Concat(deeds, more) }

// gather lets all members go to a ring, and carries their bundles, of which nothing else may be ahead.
func gather(members ...int) []impl.Deed {
	var deeds []impl.Deed
	for _, id := range members {
		deeds = append(deeds, moveDeed(id))
	}
	return append(deeds, slices.Repeat([]impl.Deed{carryDeed(0)}, len(members)*(len(members)-1))...)
}

func ringsOf(members ...[]int) []impl.Ring {
	var rings []impl.Ring
	for i, list := range members {
		rings = append(rings, impl.Ring{Id: 1 + i, Members: list})
	}
	return rings
}

func itemFor(d, conf int, x impl.Item) impl.Letter {
	return impl.Letter{Kind: itemLetter, To: d, Conf: conf, Item: x}
}

func tokenFor(d int, k impl.Token) impl.Letter {
	return impl.Letter{Kind: tokenLetter, To: d, Token: k}
}

func bundleFor(d int, b impl.Bundle) impl.Letter {
	return impl.Letter{Kind: bundleLetter, To: d, Bundle: b}
}

func TestWorldConstants(t *testing.T) {
	kinds := []int{impl.DoSay, impl.DoFirst, impl.DoCarry, impl.DoLose, impl.DoTwice, impl.DoAgain, impl.DoMove, impl.DoCrash, impl.DoWake}
	if !slices.Equal(kinds, upTo(9)) {
		t.Errorf("the constants of worlds are not the document's: %v", kinds)
	}
}

// manyRings are so many right ones, of all sizes.
func manyRings(count int) []impl.Ring {
	all := rightRings()[:31]
	var rings []impl.Ring
	for i := range count {
		rings = append(rings, impl.Ring{Id: 1 + i, Members: all[(i*11+30)%31].Members})
	}
	return rings
}

func TestRingsOkCounts(t *testing.T) {
	wantRingsOk(t, nil, false)
	wantRingsOk(t, []impl.Ring{}, false)
	for count := 1; count <= 9; count++ {
		wantRingsOk(t, manyRings(count), true)
		wantRingsOk(t, manyRings(count)[1:], false)
	}
	for _, count := range []int{10, 11, 18, 60, 256, 257, 5000} {
		wantRingsOk(t, manyRings(count), false)
	}
	for _, more := range []int{0, 1, 9, 10} {
		wantRingsOk(t, append(manyRings(9), impl.Ring{Id: more, Members: []int{1}}), false)
	}
	for _, r := range rightRings() {
		wantRingsOk(t, []impl.Ring{r}, r.Id == 1)
		wantRingsOk(t, []impl.Ring{{Id: 1, Members: []int{3}}, r}, r.Id == 2)
	}
}

func TestRingsOkIds(t *testing.T) {
	for count := 1; count <= 9; count++ {
		for place := range count {
			for _, id := range slices.Concat(numbersBeside(), upTo(10)) {
				rings := manyRings(count)
				rings[place].Id = id
				wantRingsOk(t, rings, id == place+1)
			}
			for other := range place {
				rings := manyRings(count)
				rings[place], rings[other] = rings[other], rings[place]
				wantRingsOk(t, rings, false)
			}
		}
	}
	downwards := manyRings(9)
	slices.Reverse(downwards)
	wantRingsOk(t, downwards, false)
}

func TestRingsOkWrongRings(t *testing.T) {
	for _, count := range []int{1, 2, 5, 9} {
		for _, place := range []int{0, count / 2, count - 1} {
			for _, r := range wrongRings() {
				rings := manyRings(count)
				rings[place] = r
				wantRingsOk(t, rings, false)
				rings[place].Id = place + 1
				wantRingsOk(t, rings, ringRightByHand(rings[place]))
			}
		}
	}
}

// rightDeed is right of each of the nine kinds.
func rightDeed(kind, id int) impl.Deed {
	if kind == impl.DoSay {
		return sayDeed(id, impl.Safe, "a")
	}
	return impl.Deed{Kind: kind, Id: id, At: 3}
}

func TestDeedOkKinds(t *testing.T) {
	for kind := 1; kind <= 9; kind++ {
		wantDeedOk(t, rightDeed(kind, 3), true)
	}
	for _, kind := range slices.Concat(numbersBeside(), []int{10, 11, 12, 265, 1<<32 + 9}) {
		for _, e := range []impl.Deed{{Kind: kind, Id: 3}, {Kind: kind, Id: 3, Level: 1}, {Kind: kind, Id: 3, Level: 2, Text: "a"}} {
			wantDeedOk(t, e, false)
		}
	}
	wantDeedOk(t, impl.Deed{}, false)
}

func TestDeedOkIdsAndPlaces(t *testing.T) {
	for kind := 1; kind <= 9; kind++ {
		for _, id := range slices.Concat(numbersBeside(), upTo(10)) {
			wantDeedOk(t, rightDeed(kind, id), id >= 1 && id <= 5)
		}
		e := rightDeed(kind, 1)
		for _, at := range []int{0, 1, 2, 60, 89, 90, 91, 5000, 1 << 32, math.MaxInt - 1, math.MaxInt} {
			e.At = at
			wantDeedOk(t, e, true)
		}
		for _, at := range []int{-1, -2, -256, -1 << 32, math.MinInt + 1, math.MinInt} {
			e.At = at
			wantDeedOk(t, e, false)
		}
	}
}

func TestDeedOkSayings(t *testing.T) {
	for _, level := range slices.Concat(numbersBeside(), []int{1, 2, 3}) {
		for _, text := range []string{"", "a", longText(59), longText(60), longText(61), longText(256), longText(impl.MaxText + 1), strings.Repeat("ü", 30), strings.Repeat("ü", 31), "\x00", "\xff"} {
			wantDeedOk(t, sayDeed(4, level, text), (level == 1 || level == 2) && len(text) <= 60)
			for kind := 2; kind <= 9; kind++ {
				wantDeedOk(t, impl.Deed{Kind: kind, Id: 4, Level: level, Text: text}, level == 0 && text == "")
			}
		}
	}
	wantDeedOk(t, sayDeed(5, impl.Agreed, ""), true)
	wantDeedOk(t, sayDeed(5, impl.Safe, longText(60)), true)
	wantDeedOk(t, sayDeed(5, impl.Safe, longText(61)), false)
	for kind := 2; kind <= 9; kind++ {
		wantDeedOk(t, impl.Deed{Kind: kind, Id: 4, Level: impl.Agreed}, false)
		wantDeedOk(t, impl.Deed{Kind: kind, Id: 4, Text: "a"}, false)
	}
}

func TestDeedOkInDrawnDeeds(t *testing.T) {
	l := &lot{1515}
	right := map[bool]int{}
	for range 20000 {
		e := impl.Deed{Kind: l.below(12) - 1, Id: l.below(8) - 1, At: l.below(5) - 1}
		if l.below(2) == 0 {
			e.Kind, e.Level, e.Text = 1, l.below(4), longText(57+l.below(6))
		}
		right[deedRightByHand(e)]++
		wantDeedOk(t, e, deedRightByHand(e))
	}
	if right[true] < 1000 || right[false] < 1000 {
		t.Errorf("right were %v: too few to tell", right)
	}
}

// wrongRingLists are not right, each for another reason.
func wrongRingLists() [][]impl.Ring {
	list := [][]impl.Ring{nil, {}, manyRings(10), manyRings(60), manyRings(9)[1:], {{}}, {{Id: 2, Members: []int{1}}}, {{Id: 1}}}
	for _, count := range []int{1, 3, 9} {
		for _, place := range []int{0, count / 2, count - 1} {
			for _, r := range []impl.Ring{{}, {Id: place + 1}, {Id: place + 1, Members: []int{0}}, {Id: place + 1, Members: []int{6}}, {Id: place + 1, Members: []int{2, 1}}, {Id: place + 2, Members: []int{1}}, {Id: place, Members: []int{1}}} {
				rings := manyRings(count)
				rings[place] = r
				list = append(list, rings)
			}
		}
	}
	changed := manyRings(4)
	changed[1], changed[2] = changed[2], changed[1]
	return append(list, changed)
}

func TestWorldNewKnown(t *testing.T) {
	for count := 1; count <= 9; count++ {
		rings := manyRings(count)
		w, ok := impl.WorldNew(rings)
		if !ok || len(w.Daemons) != 5 || len(w.Letters) != 0 || len(w.Numbered) != 0 || !slices.EqualFunc(w.Rings, rings, sameRing) {
			t.Errorf("WorldNew(%v): %s, %t", rings, shownWorld(w), ok)
		}
		for i, d := range w.Daemons {
			fresh, _ := impl.DaemonNew(i + 1)
			if !sameDaemon(d, fresh) || !sameDaemon(d, impl.Daemon{Id: i + 1}) {
				t.Errorf("daemon %d of WorldNew(%v) is %s", i+1, rings, shownDaemon(d))
			}
		}
		wantWorldNewAsByHand(t, rings)
	}
	for _, r := range rightRings() {
		wantWorldNewAsByHand(t, []impl.Ring{r})
	}
	for _, rings := range wrongRingLists() {
		wantWorldNew(t, rings, impl.World{}, false)
	}
}

func TestRunWorldRefused(t *testing.T) {
	right := gather(1, 3)
	for _, rings := range wrongRingLists() {
		wantNoWorld(t, rings, nil)
		wantNoWorld(t, rings, right)
		wantNoWorld(t, rings, []impl.Deed{{}})
	}
	for _, rings := range [][]impl.Ring{ringsOf([]int{1, 3}), manyRings(9)} {
		fresh := newWorldLife(rings).world()
		wantRunWorld(t, rings, nil, fresh, nil, true)
		wantRunWorld(t, rings, []impl.Deed{}, fresh, nil, true)
		for kind := 1; kind <= 9; kind++ {
			for _, count := range []int{89, 90, 91, 92, 180, 256, 5000} {
				deeds := slices.Repeat([]impl.Deed{rightDeed(kind, 3)}, count)
				if count <= 90 {
					wantWorldAsByHand(t, rings, deeds...)
				} else {
					wantNoWorld(t, rings, deeds)
				}
			}
		}
	}
}

func TestRunWorldOneWrongDeed(t *testing.T) {
	wrong := []impl.Deed{
		{}, {Kind: 10, Id: 1}, {Kind: -1, Id: 1}, {Kind: math.MaxInt, Id: 1}, {Kind: math.MinInt, Id: 1}, moveDeed(0), moveDeed(6), moveDeed(-1), moveDeed(math.MaxInt), moveDeed(math.MinInt),
		carryDeed(-1), carryDeed(math.MinInt), loseDeed(-1), twiceDeed(-1), {Kind: impl.DoMove, Id: 1, At: -1}, sayDeed(1, 0, "a"), sayDeed(1, 3, "a"), sayDeed(1, 1, longText(61)), sayDeed(6, 1, "a"),
		{Kind: impl.DoWake, Id: 1, Level: 1}, {Kind: impl.DoFirst, Id: 1, Text: "a"}, {Kind: impl.DoCarry, Id: 1, Level: 2, Text: "a"}, {Kind: impl.DoSay, Id: 1, At: -1, Level: 1},
	}
	rings := ringsOf([]int{1, 3}, []int{3})
	for _, e := range wrong {
		wantNoWorld(t, rings, []impl.Deed{e})
		for _, count := range []int{2, 10, 90} {
			deeds := slices.Repeat(gather(1, 3), 30)[:count]
			wantWorldAsByHand(t, rings, deeds...)
			for _, place := range []int{0, count / 2, count - 1} {
				one := slices.Clone(deeds)
				one[place] = e
				wantNoWorld(t, rings, one)
			}
		}
	}
}

func TestDoSayKnown(t *testing.T) {
	rings := ringsOf([]int{1, 3}, []int{1, 3})
	say := sayDeed(1, impl.Safe, "a")
	// Without a ring, on the way to the first one, Dead, and woken.
	fresh := wantLast(t, rings, nil)
	without := wantLast(t, rings, []impl.Deed{say}, 1)
	if !sameWorld(without, fresh) {
		t.Errorf("who has no ring said something: %s", shownWorld(without))
	}
	wantLast(t, rings, []impl.Deed{moveDeed(1), say}, 0, 1)
	wantLast(t, rings, []impl.Deed{crashDeed(1), say, wakeDeed(1), say}, 0, 1, 0, 1)
	// In a ring, and on the way to the next one: what it has to say goes with it.
	in := deedsThen(gather(1, 3), say)
	w := wantLast(t, rings, in, 0)
	if m := w.Daemons[0].Mate; !slices.Equal(m.Texts, []string{"a"}) || !slices.Equal(m.Level, []int{2}) || len(w.Letters) != 0 || len(w.Numbered) != 0 || len(w.Daemons[2].Mate.Texts) != 0 {
		t.Errorf("said in a ring: %s", shownWorld(w))
	}
	on := deedsThen(in, moveDeed(1), sayDeed(1, impl.Agreed, "b"))
	w = wantLast(t, rings, on, 0, 0)
	if m := w.Daemons[0].Mate; !slices.Equal(m.Texts, []string{"a", "b"}) || m.Ring.Id != 1 {
		t.Errorf("said on the way: %s", shownWorld(w))
	}
	w = wantLast(t, rings, deedsThen(on, moveDeed(3), carryDeed(0), carryDeed(0), firstDeed(1)), 0, 0, 0, 0)
	a, b := impl.Item{Seq: 1, From: 1, Level: 2, Text: "a"}, impl.Item{Seq: 2, From: 1, Level: 1, Text: "b"}
	wantNumberedIn(t, w, itemEvents(rings[1], a, b)...)
	// Fallen in a ring, and on its way: what it had to say is gone.
	wantLast(t, rings, deedsThen(in, crashDeed(1), say), 0, 0, 1)
	w = wantLast(t, rings, deedsThen(on, crashDeed(1), say, wakeDeed(1), say), 0, 1, 0, 1)
	if len(w.Daemons[0].Mate.Texts) != 0 {
		t.Errorf("what the fallen had to say is not gone: %s", shownWorld(w))
	}
}

func TestDoSayAtItsLimit(t *testing.T) {
	rings := ringsOf([]int{1, 3})
	deeds := deedsThen(gather(1, 3), slices.Repeat([]impl.Deed{sayDeed(3, 1, longText(60))}, 20)...)
	full := wantLast(t, rings, deeds, make([]int, 20)...)
	if len(full.Daemons[2].Mate.Texts) != 20 {
		t.Errorf("20 texts wait: %s", shownWorld(full))
	}
	over := wantLast(t, rings, deedsThen(deeds, sayDeed(3, 2, "too many")), 0, 1)
	if !sameWorld(over, full) {
		t.Errorf("what is refused leaves something behind: %s", shownWorld(over))
	}
	wantLast(t, rings, deedsThen(deeds, sayDeed(3, 2, "too many"), sayDeed(1, 2, "of another one"), sayDeed(2, 2, "of who has no ring")), 1, 0, 1)
}

func TestDoFirstKnown(t *testing.T) {
	rings := ringsOf([]int{1, 3, 4}, []int{1, 3, 4})
	a, b := impl.Item{Seq: 1, From: 1, Level: 1, Text: "a"}, impl.Item{Seq: 2, From: 1, Level: 2, Text: "b"}
	in := deedsThen(gather(1, 3, 4), sayDeed(1, 1, "a"), sayDeed(1, 2, "b"), sayDeed(3, 1, "c"))
	before := wantLast(t, rings, in, 0, 0, 0)
	w := wantLast(t, rings, deedsThen(in, firstDeed(1)), 0)
	second := impl.Token{Conf: 1, Round: 2, Seq: 2, Aru: 2}
	ahead := []impl.Letter{itemFor(3, 1, a), itemFor(4, 1, a), itemFor(3, 1, b), itemFor(4, 1, b), tokenFor(3, second)}
	wantLetters(t, w, ahead...)
	wantNumberedIn(t, w, itemEvents(rings[0], a, b)...)
	wantSameBut(t, before, w, 1)
	wantLogOf(t, w, 1, wholeEvent(rings[0]), itemEvents(rings[0], a)[0])
	if d := w.Daemons[0]; d.Mate.Round != 1 || !sameToken(d.Mate.Last, second) || len(d.Mate.Texts) != 0 {
		t.Errorf("the first member held the token: %s", shownDaemon(d))
	}
	for _, id := range []int{1, 2, 3, 4, 5} {
		same := wantLast(t, rings, deedsThen(in, firstDeed(1), firstDeed(id)), 0, 1)
		if !sameWorld(same, w) {
			t.Errorf("DoFirst of %d behind that of 1: %s", id, shownWorld(same))
		}
		if id != 1 {
			same = wantLast(t, rings, deedsThen(in, firstDeed(id)), 1)
			if !sameWorld(same, before) {
				t.Errorf("DoFirst of %d: %s", id, shownWorld(same))
			}
		}
	}
	// Three of what there is to say are said; of another ring the numbers begin anew.
	in = deedsThen(in, sayDeed(1, 1, "d"), sayDeed(1, 1, "e"), firstDeed(1))
	w = wantLast(t, rings, in, 0)
	if len(w.Letters) != 7 || len(w.Numbered) != 3 || !slices.Equal(w.Daemons[0].Mate.Texts, []string{"e"}) {
		t.Errorf("more to say than goes: %s", shownWorld(w))
	}
	lost := slices.Repeat([]impl.Deed{loseDeed(0)}, 7)
	w = wantLast(t, rings, deedsThen(in, slices.Concat(lost, gather(1, 3, 4), []impl.Deed{firstDeed(1), firstDeed(3)})...), 0, 1)
	e := impl.Item{Seq: 1, From: 1, Level: 1, Text: "e"}
	wantNumberedIn(t, w, logged(itemEvents(rings[0], a, b, impl.Item{Seq: 3, From: 1, Level: 1, Text: "d"}), itemEvents(rings[1], e)...)...)
	wantLetters(t, w, itemFor(3, 2, e), itemFor(4, 2, e), tokenFor(3, impl.Token{Conf: 2, Round: 2, Seq: 1, Aru: 1}))
}

func TestDoFirstNotDone(t *testing.T) {
	rings := ringsOf([]int{2, 4}, []int{2})
	first := firstDeed(2)
	wantLast(t, rings, []impl.Deed{first}, 1)
	wantLast(t, rings, []impl.Deed{moveDeed(2), first}, 0, 1)
	wantLast(t, rings, []impl.Deed{crashDeed(2), first}, 0, 1)
	wantLast(t, rings, deedsThen(gather(2, 4), crashDeed(2), first, wakeDeed(2), first), 0, 1, 0, 1)
	nothing := wantLast(t, rings, deedsThen(gather(2, 4), first), 0)
	wantLetters(t, nothing, tokenFor(4, impl.Token{Conf: 1, Round: 2}))
	wantNumberedIn(t, nothing)
	// On its way from a ring, and alone in the next one, where the token goes to itself.
	wantLast(t, ringsOf([]int{2, 4}, []int{2, 4}), deedsThen(gather(2, 4), moveDeed(2), first), 0, 1)
	w := wantLast(t, rings, deedsThen(gather(2, 4), moveDeed(2), sayDeed(2, 2, "a"), first), 0, 0, 0)
	a := impl.Item{Seq: 1, From: 2, Level: 2, Text: "a"}
	wantLetters(t, w, tokenFor(2, impl.Token{Conf: 2, Round: 2, Seq: 1, Aru: 1}))
	wantNumberedIn(t, w, itemEvents(rings[1], a)...)
	// A first token that was lost is not given anew; DoAgain alone tells the one behind it again.
	w = wantLast(t, rings, deedsThen(gather(2, 4), first, loseDeed(0), first, againDeed(2), first), 0, 0, 1, 0, 1)
	wantLetters(t, w, tokenFor(4, impl.Token{Conf: 1, Round: 2}))
}

// known is a ring of three, in which 1 said a and b, and 3, which has both, said c; 4 has nothing.
func known() ([]impl.Ring, []impl.Deed, []impl.Item) {
	rings := ringsOf([]int{1, 3, 4}, []int{3}, []int{1, 3, 4}, []int{1, 4})
	deeds := deedsThen(gather(1, 3, 4), sayDeed(1, 1, "a"), sayDeed(1, 2, "b"), sayDeed(3, 1, "c"), firstDeed(1), carryDeed(0), carryDeed(1), carryDeed(2))
	return rings, deeds, []impl.Item{{Seq: 1, From: 1, Level: 1, Text: "a"}, {Seq: 2, From: 1, Level: 2, Text: "b"}, {Seq: 3, From: 3, Level: 1, Text: "c"}}
}

func TestDoAgainKnown(t *testing.T) {
	rings, deeds, x := known()
	w := wantLast(t, rings, deeds, 0, 0, 0, 0)
	second, third := w.Daemons[0].Mate.Last, w.Daemons[2].Mate.Last
	if second.Round != 2 || third.Round != 3 {
		t.Fatalf("two held the token: %s", shownWorld(w))
	}
	ahead := []impl.Letter{itemFor(4, 1, x[0]), itemFor(4, 1, x[1]), itemFor(1, 1, x[2]), itemFor(4, 1, x[2]), tokenFor(4, third)}
	wantLetters(t, w, ahead...)
	ofOne := []impl.Letter{tokenFor(3, second), itemFor(3, 1, x[0]), itemFor(4, 1, x[0]), itemFor(3, 1, x[1]), itemFor(4, 1, x[1])}
	ofThree := []impl.Letter{tokenFor(4, third), itemFor(1, 1, x[2]), itemFor(4, 1, x[2])}
	one, three, four := againDeed(1), againDeed(3), againDeed(4)
	for _, c := range []struct {
		deeds   []impl.Deed
		numbers []int
		more    []impl.Letter
	}{
		{[]impl.Deed{one}, []int{0}, ofOne}, {[]impl.Deed{three}, []int{0}, ofThree}, {[]impl.Deed{four}, []int{1}, nil}, {[]impl.Deed{againDeed(2)}, []int{1}, nil},
		{[]impl.Deed{one, one}, []int{0, 0}, slices.Concat(ofOne, ofOne)}, {[]impl.Deed{three, four, one}, []int{0, 1, 0}, slices.Concat(ofThree, ofOne)},
	} {
		got := wantLast(t, rings, deedsThen(deeds, c.deeds...), c.numbers...)
		wantLetters(t, got, slices.Concat(ahead, c.more)...)
		wantSameBut(t, w, got)
		wantNumberedIn(t, got, w.Numbered...)
	}
	// 4 holds the token with nothing, and with two that others said: it said none of its Items itself.
	held := wantLast(t, rings, deedsThen(deeds, carryDeed(0), carryDeed(0), carryDeed(2), four), 0, 0, 0, 0)
	fourth := held.Daemons[3].Mate.Last
	if len(held.Daemons[3].Mate.Items) != 2 || fourth.Round != 4 || !slices.Equal(fourth.Wants, []int{3}) {
		t.Fatalf("4 held the token: %s", shownDaemon(held.Daemons[3]))
	}
	wantLetters(t, held, itemFor(1, 1, x[2]), itemFor(4, 1, x[2]), tokenFor(1, fourth), tokenFor(1, fourth))
	none := wantLast(t, rings, deedsThen(deeds, carryDeed(4), loseDeed(0), four), 0, 0, 0)
	wantLetters(t, none, itemFor(4, 1, x[1]), itemFor(1, 1, x[2]), itemFor(4, 1, x[2]), tokenFor(1, none.Daemons[3].Mate.Last), tokenFor(1, none.Daemons[3].Mate.Last))
}

func TestDoAgainNotDone(t *testing.T) {
	rings, deeds, _ := known()
	before := wantLast(t, rings, deeds)
	for _, id := range []int{1, 3, 4} {
		for _, c := range [][]impl.Deed{{moveDeed(id)}, {crashDeed(id)}, {crashDeed(id), wakeDeed(id)}, {crashDeed(id), wakeDeed(id), moveDeed(id)}} {
			ahead := wantLast(t, rings, deedsThen(deeds, c...))
			w := wantLast(t, rings, deedsThen(deeds, deedsThen(c, againDeed(id))...), 1)
			if !sameWorld(w, ahead) || !slices.EqualFunc(w.Numbered, before.Numbered, sameEvent) {
				t.Errorf("DoAgain of %d behind %v: %s", id, c, shownWorld(w))
			}
		}
	}
	for _, id := range upTo(5) {
		wantLast(t, rings, []impl.Deed{againDeed(id)}, 1)
		wantLast(t, rings, []impl.Deed{moveDeed(id), againDeed(id)}, 1)
		wantLast(t, rings, deedsThen(gather(1, 3, 4), againDeed(id)), 1)
	}
	// Alone, where it held a token in the ring ahead of this one; then its token goes to itself.
	alone := deedsThen(deeds, moveDeed(3), againDeed(3))
	wantLast(t, rings, alone, 0, 1)
	w := wantLast(t, rings, deedsThen(alone, sayDeed(3, 1, "d"), firstDeed(3), againDeed(3)), 0, 0, 0)
	last := tokenFor(3, impl.Token{Conf: 2, Round: 2, Seq: 1, Aru: 1})
	wantLetters(t, w, slices.Concat(before.Letters, []impl.Letter{last, last})...)
}

func TestDoMoveKnown(t *testing.T) {
	rings := ringsOf([]int{2, 3}, []int{4}, []int{1, 2, 4, 5}, []int{2}, []int{1, 4})
	bare := func(from, to int) impl.Bundle { return impl.Bundle{From: from, New: to} }
	for _, c := range []struct {
		id, ring int
		letters  []impl.Letter
	}{
		{1, 3, []impl.Letter{bundleFor(2, bare(1, 3)), bundleFor(4, bare(1, 3)), bundleFor(5, bare(1, 3))}},
		{2, 1, []impl.Letter{bundleFor(3, bare(2, 1))}}, {3, 1, []impl.Letter{bundleFor(2, bare(3, 1))}}, {4, 2, nil},
		{5, 3, []impl.Letter{bundleFor(1, bare(5, 3)), bundleFor(2, bare(5, 3)), bundleFor(4, bare(5, 3))}},
	} {
		w := wantLast(t, rings, []impl.Deed{moveDeed(c.id)}, 0)
		wantLetters(t, w, c.letters...)
		d := w.Daemons[c.id-1]
		if d.Most != c.ring || c.letters == nil && (d.Old != c.ring || len(d.Log) != 1) || c.letters != nil && (!sameRing(d.Joining, rings[c.ring-1]) || len(d.Bundles) != 1 || len(d.Log) != 0) {
			t.Errorf("DoMove of %d: %s", c.id, shownDaemon(d))
		}
		wantNumberedIn(t, w)
		wantSameBut(t, wantLast(t, rings, nil), w, c.id)
	}
	// From ring to ring, on the way already, until there is none left.
	var deeds []impl.Deed
	for i, want := range []int{1, 3, 4} {
		deeds = append(deeds, moveDeed(2))
		w := wantLast(t, rings, deeds, 0)
		if d := w.Daemons[1]; d.Most != want || i < 2 && d.Joining.Id != want || i == 2 && d.Old != 4 {
			t.Errorf("DoMove of 2, %d times: %s", i+1, shownDaemon(d))
		}
	}
	all := wantLast(t, rings, deeds, 0, 0, 0)
	over := wantLast(t, rings, deedsThen(deeds, moveDeed(2)), 0, 0, 0, 1)
	if !sameWorld(over, all) || len(all.Letters) != 4 {
		t.Errorf("DoMove with no ring left: %s", shownWorld(over))
	}
	wantLast(t, rings, []impl.Deed{moveDeed(3), moveDeed(3)}, 0, 1)
	// Rings that have it not, and who is Dead.
	w := wantLast(t, ringsOf([]int{2, 3}, []int{4}), []impl.Deed{moveDeed(1), moveDeed(5)}, 1, 1)
	if !sameWorld(w, wantLast(t, ringsOf([]int{2, 3}, []int{4}), nil)) {
		t.Errorf("DoMove of who is in no ring: %s", shownWorld(w))
	}
	wantLast(t, rings, []impl.Deed{crashDeed(4), moveDeed(4), wakeDeed(4), moveDeed(4), moveDeed(4), crashDeed(4), moveDeed(4), wakeDeed(4), moveDeed(4), moveDeed(4)}, 0, 1, 0, 0, 0, 0, 1, 0, 0, 1)
}

// What it has goes with it to all others, and it hears what they have.
func TestDoMoveTellsItems(t *testing.T) {
	rings, deeds, x := known()
	rings = ringsOf(rings[0].Members, upTo(5))
	before := wantLast(t, rings, deeds)
	w := wantLast(t, rings, deedsThen(deeds, moveDeed(3), moveDeed(1), moveDeed(5)), 0, 0, 0)
	three, one, five := impl.Bundle{From: 3, New: 2, Old: 1, Items: x}, impl.Bundle{From: 1, New: 2, Old: 1, Items: x[:2]}, impl.Bundle{From: 5, New: 2}
	wantLetters(t, w, slices.Concat(before.Letters, []impl.Letter{
		bundleFor(1, three), bundleFor(2, three), bundleFor(4, three), bundleFor(5, three),
		bundleFor(2, one), bundleFor(3, one), bundleFor(4, one), bundleFor(5, one),
		bundleFor(1, five), bundleFor(2, five), bundleFor(3, five), bundleFor(4, five),
	})...)
	if d := w.Daemons[2]; !slices.EqualFunc(d.Bundles, []impl.Bundle{three}, sameBundle) || d.Old != 1 {
		t.Errorf("3 is on its way: %s", shownDaemon(d))
	}
	// All letters of ring 1 are lost, all bundles come: 4 hears what it lacked, 1 and 3 hear b, which was not safe.
	end := deedsThen(deeds, slices.Repeat([]impl.Deed{loseDeed(0)}, 5)...)
	end = deedsThen(end, gather(3, 1, 5, 4, 2)...)
	w = wantLast(t, rings, end, 0)
	part, whole := partEvent(rings[0], 1, 3, 4), wholeEvent(rings[1])
	was, events := wholeEvent(rings[0]), itemEvents(rings[0], x...)
	for _, id := range []int{1, 3, 4} {
		ahead := []impl.Event{was, events[0]}
		if id == 4 {
			ahead = ahead[:1]
		}
		wantLogOf(t, w, id, slices.Concat(ahead, []impl.Event{part}, events[len(ahead)-1:], []impl.Event{whole})...)
	}
	wantLogOf(t, w, 2, whole)
	wantLogOf(t, w, 5, whole)
	wantLetters(t, w)
}

func TestDoCrashAndWakeKnown(t *testing.T) {
	rings, deeds, _ := known()
	before := wantLast(t, rings, deeds)
	for _, id := range upTo(5) {
		was := before.Daemons[id-1]
		dead := wantLast(t, rings, deedsThen(deeds, crashDeed(id)), 0)
		if d := dead.Daemons[id-1]; !sameDaemon(d, impl.Daemon{Id: id, Dead: true, Most: was.Most, Log: was.Log}) {
			t.Errorf("DoCrash of %d: %s", id, shownDaemon(d))
		}
		wantSameBut(t, before, dead, id)
		wantLetters(t, dead, before.Letters...)
		wantNumberedIn(t, dead, before.Numbered...)
		twice := wantLast(t, rings, deedsThen(deeds, crashDeed(id), crashDeed(id), crashDeed(id)), 0, 1, 1)
		if !sameWorld(twice, dead) {
			t.Errorf("DoCrash of %d, who is Dead: %s", id, shownWorld(twice))
		}
		woken := wantLast(t, rings, deedsThen(deeds, crashDeed(id), wakeDeed(id)), 0, 0)
		if d := woken.Daemons[id-1]; !sameDaemon(d, impl.Daemon{Id: id, Most: was.Most, Log: was.Log}) {
			t.Errorf("DoWake of %d: %s", id, shownDaemon(d))
		}
		wantSameBut(t, before, woken, id)
		again := wantLast(t, rings, deedsThen(deeds, crashDeed(id), wakeDeed(id), wakeDeed(id)), 0, 0, 1)
		if !sameWorld(again, woken) {
			t.Errorf("DoWake of %d twice: %s", id, shownWorld(again))
		}
		if w := wantLast(t, rings, deedsThen(deeds, wakeDeed(id)), 1); !sameWorld(w, before) {
			t.Errorf("DoWake of %d, who is not Dead: %s", id, shownWorld(w))
		}
		wantLast(t, rings, deedsThen(deeds, crashDeed(id), wakeDeed(id), crashDeed(id), wakeDeed(id)), 0, 0, 0, 0)
		wantLast(t, rings, []impl.Deed{wakeDeed(id), crashDeed(id), crashDeed(id), wakeDeed(id), wakeDeed(id)}, 1, 0, 1, 0, 1)
	}
	// On its way: what it had of the others is gone, too.
	on := deedsThen(deeds, moveDeed(1))
	w := wantLast(t, rings, deedsThen(on, crashDeed(1)), 0)
	was := wantLast(t, rings, on, 0).Daemons[0]
	if d := w.Daemons[0]; !sameDaemon(d, impl.Daemon{Id: 1, Dead: true, Most: 3, Log: was.Log}) || was.Joining.Id != 3 {
		t.Errorf("DoCrash on the way: %s; was %s", shownDaemon(d), shownDaemon(was))
	}
}

func TestNoLetters(t *testing.T) {
	rings := ringsOf([]int{1, 3}, []int{3})
	for _, ahead := range [][]impl.Deed{nil, gather(1, 3), {moveDeed(1), loseDeed(0)}, {crashDeed(3)}} {
		before := wantLast(t, rings, ahead)
		wantLetters(t, before)
		for _, at := range []int{0, 1, 2, 89, math.MaxInt} {
			for _, kind := range []int{impl.DoCarry, impl.DoLose, impl.DoTwice} {
				for _, id := range upTo(5) {
					w := wantLast(t, rings, deedsThen(ahead, impl.Deed{Kind: kind, Id: id, At: at}), 1)
					if !sameWorld(w, before) {
						t.Errorf("%s with no letter: %s", shownKind(kind), shownWorld(w))
					}
				}
			}
		}
	}
}

func TestOneLetter(t *testing.T) {
	rings := ringsOf([]int{1, 3})
	ahead := []impl.Deed{moveDeed(1)}
	x := bundleFor(3, impl.Bundle{From: 1, New: 1})
	for _, at := range []int{0, 1, 2, 3, 90, math.MaxInt - 1, math.MaxInt} {
		wantLetters(t, wantLast(t, rings, deedsThen(ahead, loseDeed(at)), 0, 0))
		wantLetters(t, wantLast(t, rings, deedsThen(ahead, twiceDeed(at)), 0, 0), x, x)
		wantLetters(t, wantLast(t, rings, deedsThen(ahead, twiceDeed(at), twiceDeed(at)), 0, 0, 0), x, x, x)
		wantLetters(t, wantLast(t, rings, deedsThen(ahead, carryDeed(at)), 0, 1))
		wantLetters(t, wantLast(t, rings, deedsThen(ahead, loseDeed(at), loseDeed(at), twiceDeed(at), carryDeed(at)), 0, 0, 1, 1, 1))
		w := wantLast(t, rings, deedsThen(ahead, moveDeed(3), loseDeed(1), carryDeed(at)), 0, 0, 0, 0)
		wantLetters(t, w)
		wantLogOf(t, w, 3, wholeEvent(rings[0]))
		wantLogOf(t, w, 1)
	}
}

// manyLetters has letters of each kind on the way; no two of them are alike.
func manyLetters() ([]impl.Ring, []impl.Deed) {
	rings := ringsOf([]int{1, 3, 4}, []int{2, 4, 5})
	return rings, deedsThen(gather(1, 3, 4), sayDeed(1, 1, "a"), sayDeed(1, 2, "b"), moveDeed(2), firstDeed(1), moveDeed(5))
}

func TestPlacesOfLetters(t *testing.T) {
	rings, deeds := manyLetters()
	before := wantLast(t, rings, deeds, 0, 0, 0)
	count := len(before.Letters)
	if count != 9 || before.Letters[6].Kind != tokenLetter || before.Letters[8].Bundle.From != 5 {
		t.Fatalf("on the way: %s", shownLetters(before.Letters))
	}
	for _, at := range append(fromTo(0, 3*count), 90, 91, 8999, 9000, math.MaxInt-1, math.MaxInt, math.MaxInt/count*count, math.MaxInt/count*count-1) {
		place := at % count
		x := before.Letters[place]
		without := slices.Delete(slices.Clone(before.Letters), place, place+1)
		lost := wantLast(t, rings, deedsThen(deeds, loseDeed(at)), 0)
		wantLetters(t, lost, without...)
		twice := wantLast(t, rings, deedsThen(deeds, twiceDeed(at)), 0)
		wantLetters(t, twice, append(slices.Clone(before.Letters), x)...)
		for _, w := range []impl.World{lost, twice} {
			wantSameBut(t, before, w)
			wantNumberedIn(t, w, before.Numbered...)
		}
		number := 0
		if x.Kind == bundleLetter && x.To == 4 {
			number = 1
		}
		came := wantLast(t, rings, deedsThen(deeds, carryDeed(at)), number)
		wantSameBut(t, before, came, x.To)
		if !slices.EqualFunc(came.Letters[:count-1], without, sameLetter) || len(came.Letters) != count-1+map[int]int{tokenLetter: 1}[x.Kind] {
			t.Errorf("at %d %s came: %s", at, shownLetter(x), shownLetters(came.Letters))
		}
		for _, kind := range []int{impl.DoCarry, impl.DoLose, impl.DoTwice} {
			want := wantWorldAsByHand(t, rings, deedsThen(deeds, impl.Deed{Kind: kind, Id: 1, At: at})...)
			for _, id := range []int{2, 3, 5} {
				if w := wantWorldAsByHand(t, rings, deedsThen(deeds, impl.Deed{Kind: kind, Id: id, At: at})...); !sameWorld(w, want) {
					t.Errorf("%s at %d hangs on the Id: %s", shownKind(kind), at, shownWorld(w))
				}
			}
		}
	}
}

func TestItemComes(t *testing.T) {
	rings, deeds, x := known()
	before := wantLast(t, rings, deeds)
	// The letters are a, b to 4, c to 1 and to 4, and the token to 4.
	w := wantLast(t, rings, deedsThen(deeds, carryDeed(0)), 0)
	if d := w.Daemons[3]; !slices.Equal(d.Mate.Items, x[:1]) {
		t.Errorf("a came: %s", shownDaemon(d))
	}
	wantSameBut(t, before, w, 4)
	wantLogOf(t, w, 4, wholeEvent(rings[0]), itemEvents(rings[0], x[0])[0])
	// c ahead of a and b: heard when they are here, and b not ahead of its safety.
	w = wantLast(t, rings, deedsThen(deeds, carryDeed(3), carryDeed(0)), 0, 0)
	wantLogOf(t, w, 4, wholeEvent(rings[0]), itemEvents(rings[0], x[0])[0])
	twice := wantLast(t, rings, deedsThen(deeds, twiceDeed(0), carryDeed(0), carryDeed(4)), 0, 0, 0)
	if !slices.Equal(twice.Daemons[3].Mate.Items, x[:1]) || len(impl.LogOf(twice, 4)) != 2 {
		t.Errorf("a came twice: %s", shownDaemon(twice.Daemons[3]))
	}
	// To who is of another ring, on its way, Dead, woken: 0, and it is as it was.
	for _, c := range [][]impl.Deed{
		{moveDeed(4)}, {moveDeed(4), moveDeed(4)}, {crashDeed(4)}, {crashDeed(4), wakeDeed(4)}, {crashDeed(4), wakeDeed(4), moveDeed(4)},
	} {
		ahead := wantLast(t, rings, deedsThen(deeds, c...))
		got := wantLast(t, rings, deedsThen(deeds, deedsThen(c, carryDeed(0), carryDeed(0), carryDeed(1))...), 0, 0, 0)
		wantSameBut(t, ahead, got)
		if len(got.Letters) != len(ahead.Letters)-3 {
			t.Errorf("what was not taken is on the way yet: %s", shownLetters(got.Letters))
		}
	}
	// 3 is alone in ring 2, where a later item of ring 1 is none of its own.
	other := deedsThen(deeds, moveDeed(3), againDeed(1))
	ahead := wantLast(t, rings, other, 0, 0)
	got := wantLast(t, rings, deedsThen(other, carryDeed(6), carryDeed(7)), 0, 0)
	wantSameBut(t, ahead, got)
	if ahead.Letters[6].To != 3 || ahead.Letters[8].To != 3 || len(got.Letters) != len(ahead.Letters)-2 {
		t.Errorf("items to who is in another ring: %s", shownLetters(ahead.Letters))
	}
}

func TestTokenComes(t *testing.T) {
	rings, deeds, x := known()
	before := wantLast(t, rings, deeds)
	say := deedsThen(deeds, sayDeed(4, 1, "d"), carryDeed(4))
	w := wantLast(t, rings, say, 0, 0)
	d := impl.Item{Seq: 4, From: 4, Level: 1, Text: "d"}
	fourth := impl.Token{Conf: 1, Round: 4, Seq: 4, Aru: 0, By: 4, Wants: []int{1, 2, 3}}
	wantLetters(t, w, slices.Concat(before.Letters[:4], []impl.Letter{itemFor(1, 1, d), itemFor(3, 1, d), tokenFor(1, fourth)})...)
	wantNumberedIn(t, w, itemEvents(rings[0], append(slices.Clone(x), d)...)...)
	wantSameBut(t, before, w, 4)
	// 1 says again what 4 lacks, and what is new behind it: just that is put behind Numbered.
	say = deedsThen(say, sayDeed(1, 2, "e"), carryDeed(6))
	w = wantLast(t, rings, say, 0, 0)
	e := impl.Item{Seq: 5, From: 1, Level: 2, Text: "e"}
	again := []impl.Letter{itemFor(3, 1, x[0]), itemFor(4, 1, x[0]), itemFor(3, 1, x[1]), itemFor(4, 1, x[1]), itemFor(3, 1, e), itemFor(4, 1, e)}
	if !slices.EqualFunc(w.Letters[6:12], again, sameLetter) || len(w.Letters) != 13 || w.Letters[12].To != 3 {
		t.Errorf("said again and anew: %s", shownLetters(w.Letters))
	}
	wantNumberedIn(t, w, itemEvents(rings[0], append(slices.Clone(x), d, e)...)...)
	// Held already: told twice, and told again by who sent it.
	held := wantLast(t, rings, deedsThen(deeds, twiceDeed(4), carryDeed(4)), 0, 0)
	same := wantLast(t, rings, deedsThen(deeds, twiceDeed(4), carryDeed(4), sayDeed(4, 1, "d"), carryDeed(4)), 0, 0, 0, 1)
	wantNumberedIn(t, same, held.Numbered...)
	if len(same.Letters) != len(held.Letters)-1 || !slices.Equal(same.Daemons[3].Mate.Texts, []string{"d"}) {
		t.Errorf("a token came twice: %s", shownWorld(same))
	}
	wantLast(t, rings, deedsThen(deeds, againDeed(1), carryDeed(5)), 0, 1)
	wantLast(t, rings, deedsThen(deeds, againDeed(3), carryDeed(5), carryDeed(4)), 0, 0, 1)
	// Of another ring, on its way, Dead, woken: 1, nothing said, and the token is gone.
	for _, c := range [][]impl.Deed{
		{moveDeed(4)}, {crashDeed(4)}, {crashDeed(4), wakeDeed(4)}, {moveDeed(4), crashDeed(4), wakeDeed(4), moveDeed(4)}, {sayDeed(4, 1, "d"), moveDeed(4), moveDeed(4), sayDeed(4, 1, "e")},
	} {
		ahead := wantLast(t, rings, deedsThen(deeds, c...))
		got := wantLast(t, rings, deedsThen(deeds, deedsThen(c, carryDeed(4))...), 1)
		wantSameBut(t, ahead, got)
		wantLetters(t, got, slices.Delete(slices.Clone(ahead.Letters), 4, 5)...)
		wantNumberedIn(t, got, ahead.Numbered...)
	}
	other := deedsThen(deeds, moveDeed(3), sayDeed(3, 1, "d"), againDeed(1))
	ahead := wantLast(t, rings, other, 0, 0, 0)
	if ahead.Letters[5].To != 3 || ahead.Letters[5].Kind != tokenLetter || ahead.Daemons[2].Old != 2 {
		t.Fatalf("a token to who is in another ring: %s", shownWorld(ahead))
	}
	wantSameBut(t, ahead, wantLast(t, rings, deedsThen(other, carryDeed(5)), 1))
}

func TestBundleComes(t *testing.T) {
	rings := ringsOf([]int{1, 3, 4}, []int{3, 4}, []int{1, 4})
	on := []impl.Deed{moveDeed(1), moveDeed(3)}
	// The letters are those of 1 to 3 and 4, of 3 to 1 and 4.
	before := wantLast(t, rings, on, 0, 0)
	for i, number := range []int{0, 1, 0, 1} {
		w := wantLast(t, rings, deedsThen(on, carryDeed(i)), number)
		x := before.Letters[i]
		wantSameBut(t, before, w, x.To)
		if got := w.Daemons[x.To-1].Bundles; number == 0 && (len(got) != 2 || !sameBundle(got[1], x.Bundle)) || number == 1 && len(got) != 0 {
			t.Errorf("%s came: %s", shownLetter(x), shownDaemon(w.Daemons[x.To-1]))
		}
	}
	// One that it has: told twice.
	has := wantLast(t, rings, deedsThen(on, twiceDeed(0), carryDeed(0)), 0, 0)
	twice := wantLast(t, rings, deedsThen(on, twiceDeed(0), carryDeed(0), carryDeed(3)), 0, 0, 1)
	wantSameBut(t, has, twice)
	// The last one: it is in the ring, and what comes behind is refused.
	all := deedsThen(on, moveDeed(4), twiceDeed(4), carryDeed(2))
	w := wantLast(t, rings, deedsThen(all, carryDeed(3)), 0)
	wantLogOf(t, w, 1, wholeEvent(rings[0]))
	if d := w.Daemons[0]; d.Old != 1 || d.Joining.Id != 0 || len(d.Bundles) != 0 || len(w.Letters) != 5 {
		t.Errorf("the last bundle came: %s", shownWorld(w))
	}
	wantLast(t, rings, deedsThen(all, carryDeed(3), carryDeed(4)), 0, 1)
	// To who goes to another ring by now, is in one, is Dead, or was woken.
	for _, c := range [][]impl.Deed{{moveDeed(3)}, {moveDeed(3), moveDeed(3)}, {crashDeed(3)}, {crashDeed(3), wakeDeed(3)}, {crashDeed(3), wakeDeed(3), moveDeed(3)}, {moveDeed(4), loseDeed(1), carryDeed(3), carryDeed(2), crashDeed(3)}} {
		ahead := wantLast(t, rings, deedsThen(on, c...))
		place := slices.IndexFunc(ahead.Letters, func(x impl.Letter) bool { return x.To == 3 })
		if place < 0 {
			t.Fatalf("no letter to 3 behind %v: %s", c, shownLetters(ahead.Letters))
		}
		wantSameBut(t, ahead, wantLast(t, rings, deedsThen(on, deedsThen(c, carryDeed(place))...), 1))
	}
}

// A daemon falls in a ring, and again on its way; what was on the way to it comes behind.
func TestFellAndLettersComeBehind(t *testing.T) {
	rings := ringsOf([]int{1, 2, 3}, []int{1, 2}, []int{2, 3})
	first := rings[0]
	a, b := impl.Item{Seq: 1, From: 1, Level: 1, Text: "a"}, impl.Item{Seq: 2, From: 1, Level: 1, Text: "b"}
	events := itemEvents(first, a, b)
	heard := []impl.Event{wholeEvent(first), events[0]}
	// The letters of the first token are a to 2 and 3, b to 2 and 3, and the token to 2: all to 2 come, and a to 3.
	deeds := deedsThen(gather(1, 2, 3), sayDeed(1, 1, "a"), sayDeed(1, 1, "b"), firstDeed(1), carryDeed(0), carryDeed(0), carryDeed(0), carryDeed(1))
	w := wantLast(t, rings, deeds, 0, 0, 0, 0)
	third := impl.Token{Conf: 1, Round: 3, Seq: 2, Aru: 2}
	wantLetters(t, w, itemFor(3, 1, b), tokenFor(3, third))
	wantLogOf(t, w, 3, heard...)

	// It falls, and wakes: neither the item nor the token finds it in its ring.
	fell := deedsThen(deeds, crashDeed(3))
	dead := impl.Daemon{Id: 3, Dead: true, Most: 1, Log: heard}
	woken := dead
	woken.Dead = false
	for _, c := range []struct {
		deeds   []impl.Deed
		numbers []int
		want    impl.Daemon
	}{
		{[]impl.Deed{carryDeed(0), carryDeed(0)}, []int{0, 1}, dead}, {[]impl.Deed{wakeDeed(3), carryDeed(0), carryDeed(0)}, []int{0, 0, 1}, woken},
		{[]impl.Deed{carryDeed(0), wakeDeed(3), carryDeed(0)}, []int{0, 0, 1}, woken}, {[]impl.Deed{sayDeed(3, 1, "c"), wakeDeed(3), sayDeed(3, 1, "c"), firstDeed(3), againDeed(3)}, []int{1, 0, 1, 1, 1}, woken},
	} {
		w = wantLast(t, rings, deedsThen(fell, c.deeds...), c.numbers...)
		if !sameDaemon(w.Daemons[2], c.want) {
			t.Errorf("behind its fall and %v: %s; want %s", c.deeds, shownDaemon(w.Daemons[2]), shownDaemon(c.want))
		}
	}

	// 1 and 2 go on without it; it goes to ring 3, hears nothing of ring 1 on its way, and falls there.
	deeds = deedsThen(fell, againDeed(1), moveDeed(1), moveDeed(2), wakeDeed(3), moveDeed(3))
	w = wantLast(t, rings, deeds, 0, 0, 0, 0, 0)
	bundle := impl.Bundle{From: 3, New: 3}
	onWay := impl.Daemon{Id: 3, Most: 3, Joining: rings[2], Bundles: []impl.Bundle{bundle}, Log: heard}
	if !sameDaemon(w.Daemons[2], onWay) || len(w.Letters) != 10 || !sameLetter(w.Letters[9], bundleFor(2, bundle)) {
		t.Errorf("who came back: %s", shownWorld(w))
	}
	w = wantLast(t, rings, deedsThen(deeds, carryDeed(0), carryDeed(0), carryDeed(2), carryDeed(3)), 0, 1, 0, 0)
	if !sameDaemon(w.Daemons[2], onWay) {
		t.Errorf("letters of the ring in which it fell came: %s", shownDaemon(w.Daemons[2]))
	}
	deeds = deedsThen(deeds, crashDeed(3), wakeDeed(3), moveDeed(3))
	w = wantLast(t, rings, deeds, 0, 0, 1)
	if !sameDaemon(w.Daemons[2], impl.Daemon{Id: 3, Most: 3, Log: heard}) {
		t.Errorf("who fell on its way: %s", shownDaemon(w.Daemons[2]))
	}

	// Its bundle is on the way yet: 2 goes on to a ring with it, in which it never is.
	deeds = deedsThen(deeds, carryDeed(7), carryDeed(7), moveDeed(2), carryDeed(7))
	w = wantLast(t, rings, deeds, 0, 0, 0, 0)
	wantLogOf(t, w, 1, wholeEvent(first), events[0], events[1], partEvent(first, 1, 2), wholeEvent(rings[1]))
	wantLogOf(t, w, 2, wholeEvent(first), events[0], events[1], partEvent(first, 1, 2), wholeEvent(rings[1]), partEvent(rings[1], 2), wholeEvent(rings[2]))
	wantLogOf(t, w, 3, heard...)
	w = wantLast(t, rings, deedsThen(deeds, firstDeed(2), carryDeed(8)), 0, 1)
	if len(w.Letters) != 8 || w.Letters[7].Bundle.From != 2 {
		t.Errorf("a token to who never came to its ring: %s", shownLetters(w.Letters))
	}
}

// What it fell with is gone; its Log goes on where it was, in a ring to which it never went.
func TestCameBackToALaterRing(t *testing.T) {
	rings := ringsOf([]int{1, 2, 3}, []int{1, 2}, []int{2, 3}, []int{1, 2, 3})
	first, last := rings[0], rings[3]
	deeds := deedsThen(gather(1, 2, 3), sayDeed(3, 1, "c"), sayDeed(1, 1, "a"), firstDeed(1), carryDeed(1), crashDeed(3), wakeDeed(3), moveDeed(3), crashDeed(3), wakeDeed(3), moveDeed(3))
	w := wantLast(t, rings, deeds, 0, 0, 0, 0, 0, 0, 0)
	a := impl.Item{Seq: 1, From: 1, Level: 1, Text: "a"}
	heard := logged([]impl.Event{wholeEvent(first)}, itemEvents(first, a)...)
	if d := w.Daemons[2]; d.Joining.Id != 4 || d.Most != 4 || !slices.EqualFunc(d.Log, heard, sameEvent) {
		t.Errorf("who fell twice: %s", shownDaemon(d))
	}
	wantLast(t, rings, deedsThen(deeds, moveDeed(3)), 1)
	// 1 goes by ring 2 to ring 4, 2 by rings 2 and 3; all bundles come, in the order in which they were told.
	deeds = deedsThen(deeds, loseDeed(0), loseDeed(0), loseDeed(0))
	deeds = deedsThen(deeds, moveDeed(1), moveDeed(1), moveDeed(2), moveDeed(2), moveDeed(2))
	w = wantLast(t, rings, deeds, 0, 0, 0, 0, 0)
	var numbers []int
	for _, x := range w.Letters {
		deeds = append(deeds, carryDeed(0))
		numbers = append(numbers, map[bool]int{true: 0, false: 1}[x.Bundle.New == 4])
	}
	w = wantLast(t, rings, deeds, numbers...)
	wantLetters(t, w)
	wantLogOf(t, w, 3, logged(heard, wholeEvent(last))...)
	wantLogOf(t, w, 1, logged(heard, partEvent(first, 1, 2), wholeEvent(last))...)
	wantLogOf(t, w, 2, wholeEvent(first), partEvent(first, 1, 2), itemEvents(first, a)[0], wholeEvent(last))
	deeds = deedsThen(deeds, sayDeed(3, 2, "d"), firstDeed(1), carryDeed(0), carryDeed(0))
	w = wantLast(t, rings, deeds, 0, 0, 0, 0)
	wantNumberedIn(t, w, itemEvents(first, a)[0], itemEvents(last, impl.Item{Seq: 1, From: 3, Level: 2, Text: "d"})[0])
}

func TestLogOfKnown(t *testing.T) {
	rings, deeds, _ := known()
	w := wantLast(t, rings, deedsThen(deeds, carryDeed(0), moveDeed(3), crashDeed(1)))
	for _, d := range w.Daemons {
		wantLogOf(t, w, d.Id, d.Log...)
	}
	if len(impl.LogOf(w, 1)) != 2 || len(impl.LogOf(w, 2)) != 0 || len(impl.LogOf(w, 3)) != 6 || len(impl.LogOf(w, 4)) != 2 {
		t.Errorf("Logs of %s", shownWorld(w))
	}
	for _, id := range slices.Concat(numbersBeside(), []int{6, 7, 10}) {
		wantLogOf(t, w, id)
		wantLogOf(t, impl.World{}, id)
		wantLogOf(t, impl.World{Rings: rings, Letters: w.Letters, Numbered: w.Numbered}, id)
	}
	for _, id := range upTo(5) {
		wantLogOf(t, impl.World{}, id)
		wantLogOf(t, impl.World{Numbered: w.Numbered}, id)
		fresh, _ := impl.WorldNew(rings)
		wantLogOf(t, fresh, id)
	}
}

// Worlds that no RunWorld made: daemons are known by their Ids, wherever they stand.
func TestLogOfStrangeWorlds(t *testing.T) {
	log, other := someLog(), someLog()[:2]
	w := impl.World{Daemons: []impl.Daemon{{Id: 4, Log: log}, {Id: 1, Dead: true, Log: other}, {Id: 4, Log: other}}}
	wantLogOf(t, w, 4, log...)
	wantLogOf(t, w, 1, other...)
	for _, id := range slices.Concat(numbersBeside(), []int{2, 3, 5, 6}) {
		wantLogOf(t, w, id)
	}
	strange := slices.Concat(wrongDaemons(), strangeDaemons(), someDaemons())
	for i, d := range strange {
		w := impl.World{Daemons: strange[i:min(i+3, len(strange))], Letters: []impl.Letter{{Kind: -1, To: 9}}}
		wantLogOf(t, w, d.Id, d.Log...)
		for _, id := range []int{math.MinInt, -1, 0, 1, 2, 3, 4, 5, 6, math.MaxInt} {
			impl.LogOf(w, id)
		}
	}
	odd := []impl.Event{{Kind: -3, Ring: impl.Ring{Id: 99, Members: []int{7, 7}}, Item: impl.Item{Seq: -1, Text: longText(500)}, With: []int{-1}}, {}}
	wantLogOf(t, impl.World{Daemons: []impl.Daemon{{Id: 2, Log: odd}}}, 2, odd...)
}

// climate is how often, of a hundred, deeds come that serve nothing; the rest let things come to pass.
type climate struct{ say, first, lose, twice, again, move, crash, wake, stray int }

func climates() []climate {
	return []climate{
		{},
		{say: 4, first: 1, lose: 3, twice: 3, again: 3, move: 1, crash: 1, wake: 1, stray: 8},
		{say: 3, lose: 9, twice: 3, again: 9, stray: 5},
		{say: 2, first: 1, twice: 12, again: 2, stray: 30},
		{say: 3, lose: 1, twice: 1, again: 2, move: 2, crash: 4, wake: 2, stray: 10},
		{say: 3, again: 6, move: 7, crash: 1, wake: 1, stray: 20},
		{say: 8, first: 8, lose: 8, twice: 8, again: 8, move: 8, crash: 8, wake: 8, stray: 12},
	}
}

// fewRings are small mostly: their bundles leave room for more deeds.
func fewRings(l *lot) []impl.Ring {
	all := rightRings()[:31]
	var rings []impl.Ring
	count := 1 + l.below(5)
	if l.below(8) == 0 {
		count = 9
	}
	for id := 1; id <= count; id++ {
		r := all[l.below(31)]
		for len(r.Members) > 3 && l.below(4) > 0 || len(r.Members) < 2 && l.below(3) > 0 {
			r = all[l.below(31)]
		}
		rings = append(rings, impl.Ring{Id: id, Members: r.Members})
	}
	return rings
}

// isTaken tells whether a letter would change who it comes to.
func (w *worldLife) isTaken(x impl.Letter) bool {
	d, taken := w.daemons[x.To], false
	switch x.Kind {
	case bundleLetter:
		_, taken = takeBundleByHand(d, x.Bundle)
	case tokenLetter:
		_, _, _, taken = takeTokenByHand(d, x.Token)
	case itemLetter:
		taken = len(takeItemByHand(d, x.Conf, x.Item).Mate.Items) > len(d.Mate.Items)
	}
	return taken
}

// driver lets the members of one ring behind the other go to it, and talk there for some time.
type driver struct {
	life *worldLife
	goal int
	left int
}

func (g *driver) goOn(l *lot) impl.Ring {
	if g.left <= 0 && g.goal < len(g.life.rings) {
		g.goal++
		size := len(g.life.rings[g.goal-1].Members)
		g.left = size*size + 8 + l.below(16)
	}
	g.left--
	return g.life.rings[g.goal-1]
}

func (g *driver) useful(l *lot, text string) impl.Deed {
	r, w := g.goOn(l), g.life
	members := shuffled(l, r.Members)
	for _, id := range members {
		if d := w.daemons[id]; d.Dead && l.below(3) == 0 {
			return wakeDeed(id)
		} else if !d.Dead && d.Most < r.Id && l.below(4) > 0 {
			return moveDeed(id)
		}
	}
	at := slices.IndexFunc(w.letters, w.isTaken)
	if _, ok := firstOfByHand(w.daemons[r.Members[0]]); ok && l.below(3) == 0 {
		return firstDeed(r.Members[0])
	}
	if l.below(4) == 0 {
		return sayDeed(members[0], 1+l.below(2), text)
	}
	if at < 0 {
		g.left -= 5
		return againDeed(members[0])
	}
	return impl.Deed{Kind: impl.DoCarry, Id: members[0], At: at + len(w.letters)*l.below(3)}
}

func (g *driver) drawn(l *lot, c climate, text string) impl.Deed {
	id, at, pick := 1+l.below(5), l.below(1000), l.below(100)
	for _, x := range []struct {
		often int
		e     impl.Deed
	}{
		{c.say, sayDeed(id, 1+l.below(2), text)}, {c.first, firstDeed(id)}, {c.lose, loseDeed(at)}, {c.twice, twiceDeed(at)}, {c.again, againDeed(id)},
		{c.move, moveDeed(id)}, {c.crash, crashDeed(id)}, {c.wake, wakeDeed(id)}, {c.stray, carryDeed(at)},
	} {
		if pick < x.often {
			return x.e
		}
		pick -= x.often
	}
	return g.useful(l, text)
}

// drawnWorld is a life of up to 90 deeds; with it comes what the reckoning by hand made of it.
func drawnWorld(l *lot) ([]impl.Deed, *worldLife) {
	g, c := &driver{life: newWorldLife(fewRings(l))}, climates()[l.below(len(climates()))]
	var deeds []impl.Deed
	for i := range 70 + l.below(21) {
		e := g.drawn(l, c, fmt.Sprintf("%d of %d", i, l.below(100)))
		deeds = append(deeds, e)
		g.life.deed(e)
	}
	return deeds, g.life
}

// wantGoesUp: nobody goes to a ring to which it ever went, or to an earlier one.
func (w *worldLife) wantGoesUp(t *testing.T) {
	t.Helper()
	for id, went := range w.went {
		for i := 1; i < len(went); i++ {
			if went[i] <= went[i-1] {
				t.Errorf("%d went to rings %v", id, went)
			}
		}
	}
}

func enoughOfWorlds(t *testing.T, seen map[string]int, lives int) {
	t.Helper()
	for kind := 1; kind <= 9; kind++ {
		enough(t, seen, lives/2, shownKind(kind)+" 0")
		enough(t, seen, lives/8, shownKind(kind)+" 1")
	}
	enough(t, seen, 2*lives, "installed", "numbered", "token to who is in a ring, its own true, held true", "item to who is in a ring, its own true, new true", "bundle to who is on its way, its own true, taken true")
	enough(t, seen, lives/4, "installed behind a rest", "rings with numbers of several", "token to who is in a ring, its own true, held false", "DoSay of who is in a ring 0", "DoSay of who is on its way 0", "DoSay of who is on its way 1")
	enough(t, seen, lives/25, "said again", "installed behind a fall", "bundle to who is on its way, its own true, taken false", "item to who is in a ring, its own true, new false", "token to who is on its way, its own true, held false")
	for _, state := range []string{"the dead", "who is on its way", "who has no ring", "who is in a ring"} {
		number := map[bool]int{true: 1, false: 0}[state == "the dead"]
		enough(t, seen, lives/8, fmt.Sprintf("DoCrash of %s %d", state, number))
		for _, what := range []string{"item to %s, its own false, new false", "token to %s, its own false, held false", "bundle to %s, its own false, taken false"} {
			enough(t, seen, lives/75, fmt.Sprintf(what, state))
		}
	}
}

func (w *worldLife) count() map[string]int {
	from, rings := map[int]map[int]bool{}, 0
	for _, e := range w.numbered {
		if from[e.Ring.Id] == nil {
			from[e.Ring.Id] = map[int]bool{}
		}
		from[e.Ring.Id][e.Item.From] = true
	}
	for _, who := range from {
		if len(who) > 1 {
			rings++
		}
	}
	w.seen["numbered"] += len(w.numbered)
	w.seen["rings with numbers of several"] += rings
	return w.seen
}

func TestWorldsInDrawnLives(t *testing.T) {
	l, seen, lives := &lot{15}, map[string]int{}, 1500
	for range lives {
		deeds, byHand := drawnWorld(l)
		w := wantWorldAsByHand(t, byHand.rings, deeds...)
		_, numbers, _ := impl.RunWorld(byHand.rings, deeds)
		wantPromiseOfWorld(t, w, deeds, numbers)
		byHand.wantGoesUp(t)
		for _, d := range w.Daemons {
			wantLogOf(t, w, d.Id, d.Log...)
		}
		addTo(seen, byHand.count())
	}
	enoughOfWorlds(t, seen, lives)
}

// In between each two deeds of a life, all must be so.
func TestWorldsInBetween(t *testing.T) {
	l, seen, lives := &lot{151}, map[string]int{}, 150
	for range lives {
		deeds, end := drawnWorld(l)
		byHand := newWorldLife(end.rings)
		before, _, _ := impl.RunWorld(end.rings, nil)
		var numbers []int
		for count, e := range deeds {
			numbers = append(numbers, byHand.deed(e))
			w := wantRunWorld(t, end.rings, deeds[:count+1], byHand.world(), numbers, true)
			wantPromiseOfWorld(t, w, deeds[:count+1], numbers)
			if len(w.Numbered) < len(before.Numbered) || !slices.EqualFunc(w.Numbered[:len(before.Numbered)], before.Numbered, sameEvent) {
				t.Errorf("what was numbered is another one: %s", shownWorld(w))
			}
			for i, d := range w.Daemons {
				wantStaysRight(t, "a deed", before.Daemons[i], d)
			}
			before = w
		}
		addTo(seen, end.count())
	}
	enoughOfWorlds(t, seen, lives)
}

// Every short life of two daemons is tried, of the deeds that change what goes on.
func TestWorldsOfEveryShortLife(t *testing.T) {
	rings := ringsOf([]int{1, 2}, []int{1, 2}, []int{2})
	list := []impl.Deed{carryDeed(0), carryDeed(1), loseDeed(0), twiceDeed(1), againDeed(1), moveDeed(1), moveDeed(2), crashDeed(2), wakeDeed(2)}
	letters := ""
	for i := range list {
		letters += string(rune('0' + i))
	}
	everyText(4, letters, func(s string) {
		deeds := deedsThen(gather(1, 2), sayDeed(1, 2, "a"), sayDeed(2, 1, "b"), firstDeed(1))
		for _, b := range []byte(s) {
			deeds = append(deeds, list[b-'0'])
		}
		deeds = append(deeds, sayDeed(1, 1, "c"), carryDeed(0), carryDeed(0))
		w := wantWorldAsByHand(t, rings, deeds...)
		_, numbers, _ := impl.RunWorld(rings, deeds)
		wantPromiseOfWorld(t, w, deeds, numbers)
	})
}

func TestNumbersOfAWorldAtTheirLimit(t *testing.T) {
	rings := ringsOf([]int{5})
	deeds := []impl.Deed{moveDeed(5), sayDeed(5, 1, "a"), sayDeed(5, 2, "b"), sayDeed(5, 1, "c"), firstDeed(5)}
	for len(deeds) < 81 {
		deeds = append(deeds, sayDeed(5, 1, "a"), sayDeed(5, 2, "b"), sayDeed(5, 1, "c"), carryDeed(0))
	}
	w := wantLast(t, rings, deeds, make([]int, 81)...)
	if len(w.Numbered) != 60 || w.Letters[0].Token.Seq != 60 {
		t.Fatalf("all numbers are given: %s", shownWorld(w))
	}
	deeds = append(deeds, sayDeed(5, 1, "x"), sayDeed(5, 2, "y"), carryDeed(0), carryDeed(0), carryDeed(0))
	w = wantLast(t, rings, deeds, 0, 0, 0, 0, 0)
	if len(w.Numbered) != 60 || len(w.Daemons[4].Mate.Texts) != 0 || len(impl.LogOf(w, 5)) != 61 {
		t.Errorf("without numbers: %s", shownWorld(w))
	}
	_, numbers, _ := impl.RunWorld(rings, deeds)
	wantPromiseOfWorld(t, w, deeds, numbers)
}

// worldsToLookAt have every list filled.
func worldsToLookAt() ([][]impl.Ring, [][]impl.Deed) {
	knownRings, knownDeeds, _ := known()
	manyRings, manyDeeds := manyLetters()
	lists := [][]impl.Ring{knownRings, manyRings, ringsOf([]int{2}), knownRings, knownRings}
	lives := [][]impl.Deed{
		deedsThen(knownDeeds, moveDeed(1), twiceDeed(3), twiceDeed(4), againDeed(3), carryDeed(4), againDeed(4), twiceDeed(9)), deedsThen(manyDeeds, twiceDeed(6), twiceDeed(7), carryDeed(0)), nil,
		deedsThen(knownDeeds, carryDeed(4), carryDeed(3), carryDeed(3), againDeed(4), againDeed(1), moveDeed(4), moveDeed(1), crashDeed(3), moveDeed(4)),
		deedsThen(knownDeeds, sayDeed(4, 1, longText(60)), sayDeed(1, 2, ""), moveDeed(4), moveDeed(4), moveDeed(3)),
	}
	l := &lot{1551}
	for range 60 {
		deeds, byHand := drawnWorld(l)
		lists, lives = append(lists, byHand.rings), append(lives, deeds)
	}
	return lists, lives
}

func TestWorldsLeaveArgumentsAlone(t *testing.T) {
	lists, lives := worldsToLookAt()
	for i := range lists {
		for _, wrong := range [][]impl.Deed{nil, {{Kind: 10, Text: "a"}}} {
			k := &keeper{}
			rings, deeds := kept(k, lists[i]), kept(k, append(slices.Clone(lives[i][:min(len(lives[i]), 89)]), wrong...))
			k.ready()
			w, numbers, ok := impl.RunWorld(rings, deeds)
			k.untouched(t, "RunWorld", w, numbers)
			if want, _, wantOk := runWorldByHand(lists[i], deeds); !sameWorld(w, want) || ok != wantOk {
				t.Errorf("RunWorld(%v, %s) looks into spare room: %s", lists[i], shownDeeds(deeds), shownWorld(w))
			}
			fresh, _ := impl.WorldNew(rings)
			k.untouched(t, "WorldNew", fresh)
			impl.RingsOk(rings)
			for _, e := range deeds {
				impl.DeedOk(e)
			}
			k.untouched(t, "RingsOk and DeedOk")
			other, again, _ := impl.RunWorld(rings, deeds)
			k.untouched(t, "RunWorld twice", w, numbers, other, again, fresh)
		}
	}
	for _, rings := range wrongRingLists() {
		k := &keeper{}
		own := kept(k, rings)
		k.ready()
		w, numbers, _ := impl.RunWorld(own, gather(1, 2))
		fresh, _ := impl.WorldNew(own)
		impl.RingsOk(own)
		k.untouched(t, "RunWorld and WorldNew of wrong rings", w, numbers, fresh)
	}
}

func TestLogOfLeavesWorldsAlone(t *testing.T) {
	lists, lives := worldsToLookAt()
	var worlds []impl.World
	for i := range lists {
		w, _, _ := runWorldByHand(lists[i], lives[i])
		worlds = append(worlds, w)
	}
	log := someLog()
	worlds = append(worlds, impl.World{Daemons: []impl.Daemon{{Id: 1, Log: log}, {Id: 2, Log: log}, {Id: 0, Log: log[1:]}}})
	for _, w := range worlds {
		k := &keeper{}
		own := kept(k, w)
		k.ready()
		var answers []any
		for _, id := range fromTo(-1, 7) {
			answers = append(answers, impl.LogOf(own, id), impl.LogOf(own, id))
		}
		k.untouched(t, "LogOf", answers...)
	}
}

// The Members of one ring may be those of another one: the answer has a list for each.
func TestWorldsPartOneListInMany(t *testing.T) {
	one := []int{1, 2}
	rings := ringsOf(one, one, one)
	deeds := deedsThen(gather(1, 2), sayDeed(1, 1, "a"), sayDeed(2, 1, "b"), firstDeed(1), twiceDeed(0), twiceDeed(1), carryDeed(1), carryDeed(1), moveDeed(2), twiceDeed(4), againDeed(1), againDeed(1))
	for count := range len(deeds) + 1 {
		w, numbers, _ := impl.RunWorld(rings, deeds[:count])
		wantRoomsApart(t, "RunWorld", append(roomsWithin("it", reflect.ValueOf(w)), roomsWithin("numbers", reflect.ValueOf(numbers))...)...)
		fresh, _ := impl.WorldNew(rings)
		wantRoomsApart(t, "WorldNew", roomsWithin("it", reflect.ValueOf(fresh))...)
	}
}

// What is put on the way twice is two: a change of one leaves the other one, and what its sender has, alone.
func TestLettersToldTwiceAreTwo(t *testing.T) {
	rings, deeds, _ := known()
	w := wantLast(t, rings, deedsThen(deeds, carryDeed(4), twiceDeed(4), againDeed(4), moveDeed(3), moveDeed(3), twiceDeed(7)), 0, 0, 0, 0, 0, 0)
	want := wantLast(t, rings, deedsThen(deeds, carryDeed(4), twiceDeed(4), againDeed(4), moveDeed(3), moveDeed(3), twiceDeed(7)))
	tokens, bundles := []int{}, []int{}
	for i, x := range w.Letters {
		switch {
		case x.Kind == tokenLetter && len(x.Token.Wants) > 0:
			tokens = append(tokens, i)
		case x.Kind == bundleLetter && x.Bundle.From == 3:
			bundles = append(bundles, i)
		}
	}
	if len(tokens) != 3 || len(bundles) != 3 {
		t.Fatalf("on the way: %s", shownLetters(w.Letters))
	}
	w.Letters[tokens[0]].Token.Wants[0] = 9
	w.Letters[bundles[0]].Bundle.New = 9
	w.Rings[0].Members[0] = 9
	w.Numbered[0].Ring.Members[0] = 9
	for _, i := range tokens[1:] {
		if !sameLetter(w.Letters[i], want.Letters[i]) {
			t.Errorf("tokens told twice share their Wants: %s", shownLetter(w.Letters[i]))
		}
	}
	wantSameBut(t, want, w)
	wantNumberedIn(t, impl.World{Numbered: w.Numbered[1:]}, want.Numbered[1:]...)
}

func TestWorldsKeepNothing(t *testing.T) {
	rings, deeds, _ := known()
	for range 3 {
		w := wantWorldAsByHand(t, rings, deeds...)
		wantWorldNewAsByHand(t, rings)
		wantNoWorld(t, rings, deedsThen(deeds, impl.Deed{}))
		wantNoWorld(t, rings[1:], deeds)
		wantWorldNew(t, nil, impl.World{}, false)
		wantRingsOk(t, rings, true)
		wantDeedOk(t, deeds[0], true)
		wantLogOf(t, w, 1, w.Daemons[0].Log...)
		log := impl.LogOf(w, 1)
		log[0], log[1].Ring.Members[0] = impl.Event{}, 9
		wantLogOf(t, w, 1, wantWorldAsByHand(t, rings, deeds...).Daemons[0].Log...)
		w.Rings[0].Members[0], w.Daemons[0].Mate.Ring.Members[1], w.Daemons[0].Mate.Items[0], w.Numbered[0], w.Letters[0] = 9, 9, impl.Item{}, impl.Event{}, impl.Letter{}
	}
}

func TestWorldsDoNotLookIntoSpareRoom(t *testing.T) {
	rings, deeds := ringsOf([]int{1, 3}, []int{1, 3}, []int{4}), deedsThen(gather(1, 3), moveDeed(1), impl.Deed{})
	wantLast(t, rings[:1], deeds[:5], 0, 0, 0, 0, 1)
	wantLast(t, rings[:2], deeds[:5], 0, 0, 0, 0, 0)
	wantNoWorld(t, rings, deeds)
	wantRingsOk(t, append(manyRings(9), impl.Ring{})[:9], true)
	members := []int{1, 3, 4}
	w := wantLast(t, []impl.Ring{{Id: 1, Members: members[:2]}}, []impl.Deed{moveDeed(4), moveDeed(1), moveDeed(3)}, 1, 0, 0)
	if len(w.Letters) != 2 || members[2] != 4 {
		t.Errorf("a ring is longer than it is: %s", shownWorld(w))
	}
}
