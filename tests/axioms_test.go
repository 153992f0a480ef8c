package tests

import (
	"fmt"
	"math"
	"reflect"
	"slices"
	"strings"
	"testing"

	"loop.example/g00183/impl"
)

// The sentences of the chapter, each by its words alone: a ring is known by its Id.

func itemsOfByHand(log []impl.Event, conf int) []impl.Item {
	var list []impl.Item
	for _, e := range log {
		if e.Kind == 1 && e.Ring.Id == conf {
			list = append(list, e.Item)
		}
	}
	return list
}

func hasItemByHand(log []impl.Event, item impl.Event) bool {
	return slices.ContainsFunc(log, func(e impl.Event) bool { return e.Kind == 1 && e.Ring.Id == item.Ring.Id && e.Item == item.Item })
}

func saidFirstByHand(w impl.World) bool {
	for _, d := range w.Daemons {
		for _, e := range d.Log {
			if e.Kind == 1 && !hasItemByHand(w.Numbered, e) {
				return false
			}
		}
	}
	return true
}

// everyTwo hands over any two daemons, in both orders, as long as what is asked holds.
func everyTwo(w impl.World, holds func(a, b []impl.Event) bool) bool {
	for i, a := range w.Daemons {
		for j, b := range w.Daemons {
			if i != j && !holds(a.Log, b.Log) {
				return false
			}
		}
	}
	return true
}

func oneOrdersByHand(w impl.World) bool {
	confs := map[int]bool{}
	for _, d := range w.Daemons {
		for _, e := range d.Log {
			confs[e.Ring.Id] = true
		}
	}
	return everyTwo(w, func(a, b []impl.Event) bool {
		for conf := range confs {
			one, other := itemsOfByHand(a, conf), itemsOfByHand(b, conf)
			if !startsWith(one, other) && !startsWith(other, one) {
				return false
			}
		}
		return true
	})
}

// wholeNext is the ring of IsWhole, where that is the next behind a place that is no item.
func wholeNext(log []impl.Event, place int) (int, bool) {
	rest := log[place+1:]
	next := slices.IndexFunc(rest, func(e impl.Event) bool { return e.Kind != 1 })
	if next < 0 || rest[next].Kind != 3 {
		return 0, false
	}
	return rest[next].Ring.Id, true
}

func togetherAtByHand(a, b []impl.Event, i, j int) bool {
	if a[i].Kind != 2 || b[j].Kind != 2 || a[i].Ring.Id != b[j].Ring.Id || !slices.Equal(a[i].With, b[j].With) {
		return false
	}
	toA, wholeA := wholeNext(a, i)
	toB, wholeB := wholeNext(b, j)
	return wholeA && wholeB && toA == toB
}

func sameTogetherByHand(w impl.World) bool {
	return everyTwo(w, func(a, b []impl.Event) bool {
		for i := range a {
			for j := range b {
				if conf := a[i].Ring.Id; togetherAtByHand(a, b, i, j) && !slices.Equal(itemsOfByHand(a, conf), itemsOfByHand(b, conf)) {
					return false
				}
			}
		}
		return true
	})
}

func partOfByHand(log []impl.Event, conf int) int {
	return slices.IndexFunc(log, func(e impl.Event) bool { return e.Kind == 2 && e.Ring.Id == conf })
}

// isToBeKept tells whether an item is Safe, and ahead of IsPart of its ring, or without one.
func isToBeKept(log []impl.Event, place int) bool {
	part := partOfByHand(log, log[place].Ring.Id)
	return log[place].Kind == 1 && log[place].Item.Level == 2 && (part < 0 || place < part)
}

// goesOnWith is what stands ahead of the next IsWhole behind IsPart of a ring: all, where there is none.
func goesOnWith(log []impl.Event, conf int) ([]impl.Event, bool) {
	part := partOfByHand(log, conf)
	if part < 0 {
		return nil, false
	}
	end := part
	for end < len(log) && log[end].Kind != 3 {
		end++
	}
	return log[:end], true
}

func safeKeptByHand(w impl.World) bool {
	return everyTwo(w, func(a, b []impl.Event) bool {
		for i, e := range a {
			ahead, parted := goesOnWith(b, e.Ring.Id)
			if isToBeKept(a, i) && parted && !hasItemByHand(ahead, e) {
				return false
			}
		}
		return true
	})
}

// lastWhole is the place of the last IsWhole ahead of a place.
func lastWhole(log []impl.Event, place int) int {
	for place--; place >= 0 && log[place].Kind != 3; place-- {
	}
	return place
}

func inOrderAtByHand(log []impl.Event, place int) bool {
	e, whole := log[place], lastWhole(log, place)
	if e.Kind == 3 {
		return whole < 0 || log[whole].Ring.Id < e.Ring.Id
	}
	inIt := whole >= 0 && log[whole].Ring.Id == e.Ring.Id
	if e.Kind == 1 {
		items := 0
		for _, x := range log[whole+1 : place+1] {
			if x.Kind == 1 {
				items++
			}
		}
		return inIt && e.Item.Seq == items
	}
	return inIt && e.Kind == 2
}

func inOrderByHand(w impl.World) bool {
	for _, d := range w.Daemons {
		for place := range d.Log {
			if !inOrderAtByHand(d.Log, place) {
				return false
			}
		}
	}
	return true
}

type axiomToHold struct {
	name   string
	told   func(w impl.World) bool
	byHand func(w impl.World) bool
}

func axiomsToHold() []axiomToHold {
	return []axiomToHold{
		{"SaidFirst", impl.SaidFirst, saidFirstByHand},
		{"OneOrders", impl.OneOrders, oneOrdersByHand},
		{"SameTogether", impl.SameTogether, sameTogetherByHand},
		{"SafeKept", impl.SafeKept, safeKeptByHand},
		{"InOrder", impl.InOrder, inOrderByHand},
	}
}

func shownLogs(w impl.World) string {
	var b strings.Builder
	for i, d := range w.Daemons[:min(len(w.Daemons), 7)] {
		fmt.Fprintf(&b, "\n  %d. (%d) %s", i, d.Id, shownLog(d.Log))
	}
	fmt.Fprintf(&b, "\n  Numbered %s", shownLog(w.Numbered))
	return b.String()
}

// wantAxiomsAsByHand tells which axioms are broken, too.
func wantAxiomsAsByHand(t *testing.T, w impl.World) []string {
	t.Helper()
	broken := []string{}
	for _, x := range axiomsToHold() {
		want := x.byHand(w)
		if got := x.told(w); got != want {
			t.Errorf("%s: %t; want %t of %s", x.name, got, want, shownLogs(w))
		}
		if !want {
			broken = append(broken, x.name)
		}
	}
	if got := impl.SoundWorld(w); got != (len(broken) == 0) {
		t.Errorf("SoundWorld: %t of one with %v broken: %s", got, broken, shownLogs(w))
	}
	return broken
}

// wantBroken wants these axioms broken, which a test names, and no others.
func wantBroken(t *testing.T, w impl.World, want ...string) {
	t.Helper()
	if got := wantAxiomsAsByHand(t, w); !slices.Equal(got, want) {
		t.Errorf("broken are %v; want %v of %s", got, want, shownLogs(w))
	}
}

// wantOf wants what one function answers, whatever the others do.
func wantOf(t *testing.T, name string, w impl.World, want bool) {
	t.Helper()
	if broken := wantAxiomsAsByHand(t, w); slices.Contains(broken, name) == want {
		t.Errorf("%s: %t; want %t of %s", name, !want, want, shownLogs(w))
	}
}

func wantItemsOf(t *testing.T, log []impl.Event, conf int, want ...impl.Item) {
	t.Helper()
	if got := impl.ItemsOf(log, conf); !slices.Equal(got, want) {
		t.Errorf("ItemsOf(%s, %d): %s; want %s", shownLog(log), conf, shownItems(got), shownItems(want))
	}
}

func logsWorld(numbered []impl.Event, logs ...[]impl.Event) impl.World {
	w := impl.World{Numbered: numbered}
	for i, log := range logs {
		w.Daemons = append(w.Daemons, impl.Daemon{Id: 1 + i, Log: log})
	}
	return w
}

// cast are events: of ring 1, where a and c are Safe, b and d are not; of ring 2, to which 1 and 2 go, with e; and of ring 3, to which 3 goes.
type cast struct {
	first, second, third         impl.Ring
	whole1, whole2, whole3       impl.Event
	part12, part3, a, b, c, d, e impl.Event
}

func newCast() cast {
	x := cast{first: impl.Ring{Id: 1, Members: []int{1, 2, 3}}, second: impl.Ring{Id: 2, Members: []int{1, 2}}, third: impl.Ring{Id: 3, Members: []int{3}}}
	x.whole1, x.whole2, x.whole3 = wholeEvent(x.first), wholeEvent(x.second), wholeEvent(x.third)
	x.part12, x.part3 = partEvent(x.first, 1, 2), partEvent(x.first, 3)
	x.a, x.b = x.item(1, 1, 2, "a"), x.item(2, 2, 1, "b")
	x.c, x.d = x.item(3, 1, 2, "c"), x.item(4, 3, 1, "d")
	x.e = impl.Event{Kind: 1, Ring: x.second, Item: impl.Item{Seq: 1, From: 2, Level: 2, Text: "e"}}
	return x
}

func (x cast) item(seq, from, level int, text string) impl.Event {
	return impl.Event{Kind: 1, Ring: x.first, Item: impl.Item{Seq: seq, From: from, Level: level, Text: text}}
}

func (x cast) numbered() []impl.Event { return []impl.Event{x.a, x.b, x.c, x.d, x.e} }

// logs are those of who was in ring 1 together: two heard different beginnings of it ahead of its end.
func (x cast) logs() [][]impl.Event {
	return [][]impl.Event{
		{x.whole1, x.a, x.b, x.part12, x.c, x.whole2, x.e},
		{x.whole1, x.a, x.part12, x.b, x.c, x.whole2},
		{x.whole1, x.a, x.b, x.c, x.d, x.part3, x.whole3},
		{},
	}
}

func (x cast) world() impl.World { return logsWorld(x.numbered(), x.logs()...) }

// in is another ring's event; the rest of it is as it was.
func in(conf int, e impl.Event) impl.Event {
	e.Ring.Id = conf
	return e
}

func ofKind(kind int, e impl.Event) impl.Event {
	e.Kind = kind
	return e
}

func withItem(e impl.Event, x impl.Item) impl.Event {
	e.Item = x
	return e
}

// withLog is a world whose log at a place is another one.
func withLog(w impl.World, place int, log ...impl.Event) impl.World {
	w.Daemons = slices.Clone(w.Daemons)
	w.Daemons[place].Log = log
	return w
}

func withNumbered(w impl.World, numbered ...impl.Event) impl.World {
	w.Numbered = numbered
	return w
}

func putAt[T any](list []T, place int, x ...T) []T {
	return slices.Insert(slices.Clone(list), place, x...)
}

func putInPlace[T any](list []T, place int, x T) []T {
	own := slices.Clone(list)
	own[place] = x
	return own
}

func without[T any](list []T, place int) []T {
	return slices.Delete(slices.Clone(list), place, place+1)
}

func TestItemsOfKnown(t *testing.T) {
	x := newCast()
	log := []impl.Event{x.whole1, x.a, x.b, x.part12, x.c, x.whole2, x.e, in(5, x.d), x.d, x.a}
	a, b, c, d, e := x.a.Item, x.b.Item, x.c.Item, x.d.Item, x.e.Item
	wantItemsOf(t, log, 1, a, b, c, d, a)
	wantItemsOf(t, log, 2, e)
	wantItemsOf(t, log, 5, d)
	for _, conf := range slices.Concat(numbersBeside(), []int{3, 4, 6, 7, 8, 9, 10}) {
		wantItemsOf(t, nil, conf)
		wantItemsOf(t, []impl.Event{x.whole1, x.part12}, conf)
		if conf != 1 && conf != 2 && conf != 5 {
			wantItemsOf(t, log, conf)
		}
		wantItemsOf(t, []impl.Event{in(conf, x.whole1), in(conf, x.b), in(conf, x.part12), in(conf-1, x.c), in(conf, x.a)}, conf, b, a)
	}
	wantItemsOf(t, nil, 1)
	wantItemsOf(t, []impl.Event{x.a}, 1, a)
	wantItemsOf(t, []impl.Event{x.c, x.b, x.a, x.b, x.b}, 1, c, b, a, b, b)
}

// What is no item is none, even where its Item is filled.
func TestItemsOfOtherKinds(t *testing.T) {
	x := newCast()
	for _, kind := range slices.Concat(numbersBeside(), []int{2, 3, 4}) {
		if kind != 1 {
			wantItemsOf(t, []impl.Event{ofKind(kind, x.a), x.b, ofKind(kind, x.b)}, 1, x.b.Item)
		}
	}
	odd := impl.Item{Seq: -7, From: 99, Level: 4, Text: longText(300)}
	wantItemsOf(t, []impl.Event{withItem(x.a, odd), withItem(x.a, impl.Item{})}, 1, odd, impl.Item{})
	bare := impl.Event{Kind: 1, Ring: impl.Ring{Id: 1}, Item: odd}
	wantItemsOf(t, []impl.Event{bare, {Kind: 1, Ring: impl.Ring{Id: 2, Members: []int{1}}}}, 1, odd)
}

func TestSoundWorldKnown(t *testing.T) {
	x := newCast()
	wantBroken(t, x.world())
	wantBroken(t, impl.World{})
	wantBroken(t, logsWorld(nil, nil, nil))
	wantBroken(t, logsWorld(x.numbered()))
	wantBroken(t, logsWorld(x.numbered(), nil, nil, nil, nil, nil))
	fresh, _ := impl.WorldNew(ringsOf([]int{1}, []int{1, 2}))
	wantBroken(t, fresh)
	for _, place := range []int{0, 1, 2, 3} {
		wantBroken(t, withLog(x.world(), place))
	}
}

// Each axiom is broken alone, too: SoundWorld asks for all of them.
func TestSoundWorldOneBroken(t *testing.T) {
	x := newCast()
	logs := x.logs()
	other := withItem(x.c, impl.Item{Seq: 3, From: 2, Level: 1, Text: "other"})
	wantBroken(t, withNumbered(x.world(), x.a, x.b, x.c, x.d), "SaidFirst")
	wantBroken(t, logsWorld(append(x.numbered(), other), logs[0], logs[1], []impl.Event{x.whole1, x.a, x.b, other}), "OneOrders")
	wantBroken(t, withLog(x.world(), 0, x.whole1, x.a, x.b, x.part12, x.c, x.d, x.whole2), "SameTogether")
	wantBroken(t, logsWorld(x.numbered(), []impl.Event{x.whole1, x.a, x.b, x.c}, []impl.Event{x.whole1, x.a, x.b, x.part3, x.whole3}), "SafeKept")
	wantBroken(t, withLog(x.world(), 3, x.whole3, x.whole2), "InOrder")
	wantBroken(t, withLog(withNumbered(x.world()), 3, x.whole2, x.b, x.a, ofKind(0, x.a)), "SaidFirst", "OneOrders", "InOrder")
	all := logsWorld(nil, []impl.Event{x.whole1, x.b, x.a, x.part12, x.whole2}, []impl.Event{x.whole1, x.c, x.part12, x.whole2})
	wantBroken(t, all, "SaidFirst", "OneOrders", "SameTogether", "SafeKept", "InOrder")
}

func TestSaidFirstKnown(t *testing.T) {
	x := newCast()
	none := logsWorld(nil, []impl.Event{x.whole1, x.part12, x.whole2}, nil, []impl.Event{x.whole3})
	wantBroken(t, none)
	wantBroken(t, withNumbered(none, x.numbered()...))
	wantOf(t, "SaidFirst", withLog(none, 1, x.a), false)
	wantOf(t, "SaidFirst", logsWorld([]impl.Event{x.a}, []impl.Event{x.a}), true)
	wantOf(t, "SaidFirst", logsWorld([]impl.Event{x.a}, []impl.Event{x.a, x.a}, []impl.Event{x.a}), true)
	for _, conf := range slices.Concat(numbersBeside(), []int{2, 3, 9, 10}) {
		if conf != 1 {
			wantOf(t, "SaidFirst", logsWorld([]impl.Event{x.a}, []impl.Event{in(conf, x.a)}), false)
			wantOf(t, "SaidFirst", logsWorld([]impl.Event{in(conf, x.a)}, []impl.Event{x.a}), false)
		}
		wantOf(t, "SaidFirst", logsWorld([]impl.Event{x.b, in(conf, x.a)}, nil, []impl.Event{in(conf, x.a)}), true)
	}
	for _, other := range othersOf(x.a.Item) {
		changed := withItem(x.a, other)
		wantOf(t, "SaidFirst", logsWorld([]impl.Event{x.a}, []impl.Event{changed}), false)
		wantOf(t, "SaidFirst", logsWorld([]impl.Event{changed}, []impl.Event{x.a}), false)
		wantOf(t, "SaidFirst", logsWorld([]impl.Event{changed, x.a}, []impl.Event{x.a}), true)
	}
	// The ring of one and the item of another one are no item that was said.
	wantOf(t, "SaidFirst", logsWorld([]impl.Event{in(2, x.a), x.b}, []impl.Event{in(2, x.b)}), false)
}

func TestSaidFirstPlaces(t *testing.T) {
	x := newCast()
	w := logsWorld(x.numbered(), []impl.Event{x.a, x.b, x.c, x.d, x.e}, []impl.Event{x.whole1, x.e, x.d, x.c, x.b, x.a}, []impl.Event{x.b, x.c})
	wantOf(t, "SaidFirst", w, true)
	for place, e := range w.Numbered {
		wantOf(t, "SaidFirst", withNumbered(w, without(w.Numbered, place)...), false)
		wantOf(t, "SaidFirst", withNumbered(w, putInPlace(w.Numbered, place, in(9, e))...), false)
		wantOf(t, "SaidFirst", withNumbered(w, putAt(w.Numbered, place, e, e)...), true)
	}
	strange := withItem(x.a, impl.Item{Seq: 9, From: 1, Level: 1, Text: "a"})
	for i, d := range w.Daemons {
		for place := range len(d.Log) + 1 {
			wantOf(t, "SaidFirst", withLog(w, i, putAt(d.Log, place, strange)...), false)
			wantOf(t, "SaidFirst", withNumbered(withLog(w, i, putAt(d.Log, place, strange)...), append(w.Numbered, strange)...), true)
		}
	}
}

// Numbered is of items; what is none is not looked for there, and is none of them there.
func TestSaidFirstOtherKinds(t *testing.T) {
	x := newCast()
	for _, kind := range slices.Concat(numbersBeside(), []int{2, 3, 4}) {
		if kind != 1 {
			wantOf(t, "SaidFirst", logsWorld(nil, []impl.Event{ofKind(kind, x.a)}), true)
			wantOf(t, "SaidFirst", logsWorld([]impl.Event{x.b}, []impl.Event{ofKind(kind, x.a), x.b}), true)
			wantOf(t, "SaidFirst", logsWorld([]impl.Event{ofKind(kind, x.a)}, []impl.Event{x.a}), false)
		}
	}
}

// everyLog hands over each list of at most so many of the events.
func everyLog(most int, events []impl.Event, hand func(log []impl.Event)) {
	letters := ""
	for i := range events {
		letters += string(rune('a' + i))
	}
	for size := range most + 1 {
		everyText(size, letters, func(s string) {
			log := []impl.Event{}
			for _, b := range []byte(s) {
				log = append(log, events[b-'a'])
			}
			hand(log)
		})
	}
}

func TestOneOrdersKnown(t *testing.T) {
	x := newCast()
	all := []impl.Event{x.a, x.b, x.c, x.d}
	for size := range 5 {
		wantOf(t, "OneOrders", logsWorld(nil, all, all[:size]), true)
		wantOf(t, "OneOrders", logsWorld(nil, all[:size], all), true)
		wantOf(t, "OneOrders", logsWorld(nil, all[:size], all[:size], all), true)
		if size < 4 {
			wantOf(t, "OneOrders", logsWorld(nil, all, without(all, size)), size == 3)
			for _, other := range othersOf(all[size].Item) {
				parted := putInPlace(all, size, withItem(all[size], other))
				wantOf(t, "OneOrders", logsWorld(nil, all, parted), false)
				wantOf(t, "OneOrders", logsWorld(nil, parted, all), false)
				wantOf(t, "OneOrders", logsWorld(nil, parted, all[:size]), true)
				wantOf(t, "OneOrders", logsWorld(nil, parted[:size+1], all), false)
			}
		}
	}
	everyOrder(upTo(4), func(order []int) {
		var log []impl.Event
		for _, n := range order {
			log = append(log, all[n-1])
		}
		wantOf(t, "OneOrders", logsWorld(nil, all, log), slices.IsSorted(order))
	})
	// What is no item, and what else stands between, is nothing to the order.
	wantOf(t, "OneOrders", logsWorld(nil, []impl.Event{x.whole1, x.a, x.part12, x.b, x.whole2, x.c}, []impl.Event{x.a, x.e, x.b, ofKind(2, x.d), ofKind(0, x.d)}), true)
}

func TestOneOrdersOfAnyTwo(t *testing.T) {
	x := newCast()
	one, other := []impl.Event{x.a, x.b}, []impl.Event{x.a, x.c}
	for i := range 7 {
		for j := range 7 {
			for _, between := range [][]impl.Event{nil, {x.a}} {
				w := logsWorld(nil, slices.Repeat([][]impl.Event{between}, 7)...)
				w = withLog(w, i, one...)
				wantOf(t, "OneOrders", withLog(w, j, other...), i == j)
			}
		}
	}
}

// Each ring is one, whatever its Id: one that only one has, and one that no right ring could bear.
func TestOneOrdersOfEachRing(t *testing.T) {
	x := newCast()
	for _, conf := range slices.Concat(numbersBeside(), upTo(10)) {
		a, b := in(conf, x.a), in(conf, x.b)
		wantOf(t, "OneOrders", logsWorld(nil, []impl.Event{a, b}, []impl.Event{b, a}), false)
		wantOf(t, "OneOrders", logsWorld(nil, []impl.Event{a, b}, []impl.Event{a}), true)
		wantOf(t, "OneOrders", logsWorld(nil, []impl.Event{a, b}, nil, []impl.Event{in(conf+1, x.b)}), true)
		wantOf(t, "OneOrders", logsWorld(nil, []impl.Event{x.e, a, in(11, x.a), b}, []impl.Event{x.e, in(11, x.a), b}), false)
		wantOf(t, "OneOrders", logsWorld(nil, []impl.Event{in(11, x.a), a, in(11, x.b), b}, []impl.Event{a, b, in(11, x.a), in(11, x.b)}), true)
		wantOf(t, "OneOrders", logsWorld(nil, []impl.Event{in(11, x.a), a, in(12, x.b)}, []impl.Event{a, b, in(11, x.c)}), false)
	}
	// A ring of the same Id is the same one, whoever its Members are said to be.
	bare := impl.Event{Kind: 1, Ring: impl.Ring{Id: 1}, Item: x.a.Item}
	wantOf(t, "OneOrders", logsWorld(nil, []impl.Event{bare, x.b}, []impl.Event{x.b}), false)
	wantBroken(t, logsWorld([]impl.Event{x.a}, []impl.Event{x.whole1, bare}, []impl.Event{{Kind: 3, Ring: impl.Ring{Id: 1}}, x.a}))
}

func TestSameTogetherKnown(t *testing.T) {
	x := newCast()
	log, same := []impl.Event{x.whole1, x.a, x.part12, x.b, x.whole2}, []impl.Event{x.whole1, x.a, x.b, x.part12, x.whole2}
	wantOf(t, "SameTogether", logsWorld(nil, log, same), true)
	wantOf(t, "SameTogether", logsWorld(nil, log, log, same, nil), true)
	for name, other := range map[string][]impl.Event{
		"nothing":                      {x.part12, x.whole2},
		"less":                         {x.a, x.part12, x.whole2},
		"less behind IsPart":           {x.part12, x.a, x.whole2},
		"more ahead":                   {x.a, x.b, x.c, x.part12, x.whole2},
		"more between":                 {x.a, x.part12, x.b, x.c, x.whole2},
		"more of the ring behind":      {x.a, x.b, x.part12, x.whole2, x.c},
		"another order":                {x.b, x.part12, x.a, x.whole2},
		"another one":                  {x.a, x.c, x.part12, x.whole2},
		"one twice":                    {x.a, x.part12, x.b, x.b, x.whole2},
		"of another ring":              {x.a, x.part12, in(2, x.b), x.whole2},
		"another ring between":         {x.a, x.part12, in(2, x.b), x.whole2, x.e},
		"ahead of another, and behind": {x.part12, x.whole2, x.part12, x.a, x.whole2},
	} {
		for _, w := range []impl.World{logsWorld(nil, log, other), logsWorld(nil, other, log), logsWorld(nil, log, nil, same, nil, other)} {
			if broken := wantAxiomsAsByHand(t, w); !slices.Contains(broken, "SameTogether") {
				t.Errorf("SameTogether: true, with %s: %s", name, shownLogs(w))
			}
		}
	}
	for name, other := range map[string][]impl.Event{
		"less, but with nobody":             {x.a, partEvent(x.first), x.whole2},
		"less, but with one less":           {x.a, partEvent(x.first, 1), x.whole2},
		"less, but with one more":           {x.a, partEvent(x.first, 1, 2, 3), x.whole2},
		"less, but with another one":        {x.a, partEvent(x.first, 1, 3), x.whole2},
		"less, but with another first":      {x.a, partEvent(x.first, 3, 2), x.whole2},
		"less, but with those turned round": {x.a, partEvent(x.first, 2, 1), x.whole2},
		"less, but with one twice":          {x.a, partEvent(x.first, 1, 2, 2), x.whole2},
		"less, but another ring behind":     {x.a, x.part12, x.whole3},
		"less, but nothing behind":          {x.a, x.part12},
		"less, but items alone behind":      {x.a, x.part12, x.c, x.e},
		"less, but another IsPart behind":   {x.a, x.part12, partEvent(x.second, 1, 2), x.whole2},
		"less, but an odd kind behind":      {x.a, x.part12, ofKind(7, x.b), x.whole2},
		"less, but no kind behind":          {x.a, x.part12, {}, x.whole2},
		"less, but IsPart behind IsWhole":   {x.a, x.whole2, x.part12},
		"less, but IsPart of another ring":  {x.a, partEvent(x.second, 1, 2), x.whole2},
		"less, but no IsPart":               {x.a, x.whole2},
		"less, but no IsWhole":              {x.a},
		"the same, items of another ring":   {x.e, x.a, x.e, x.part12, x.e, x.b, in(9, x.a), x.whole2, x.e},
		"the same, one behind IsWhole":      {x.a, x.part12, x.whole2, x.b},
		"the same, kinds that are no items": {x.a, x.b, ofKind(2, x.c), ofKind(9, x.c), x.part12, x.whole2, ofKind(0, x.c)},
	} {
		for _, w := range []impl.World{logsWorld(nil, log, other), logsWorld(nil, other, log), logsWorld(nil, log, nil, same, nil, other)} {
			if broken := wantAxiomsAsByHand(t, w); slices.Contains(broken, "SameTogether") {
				t.Errorf("SameTogether: false, with %s: %s", name, shownLogs(w))
			}
		}
	}
}

func TestSameTogetherWithNobody(t *testing.T) {
	x := newCast()
	none, empty := impl.Event{Kind: 2, Ring: x.first}, impl.Event{Kind: 2, Ring: x.first, With: []int{}}
	wantOf(t, "SameTogether", logsWorld(nil, []impl.Event{x.a, none, x.whole2}, []impl.Event{x.b, empty, x.whole2}), false)
	wantOf(t, "SameTogether", logsWorld(nil, []impl.Event{x.a, none, x.whole2}, []impl.Event{x.a, empty, x.whole2}), true)
	// Whoever With names is not looked at, nor who is in the ring that comes next.
	strange := impl.Event{Kind: 2, Ring: x.first, With: []int{-1, 99, 99}}
	wantOf(t, "SameTogether", logsWorld(nil, []impl.Event{x.a, strange, x.whole2}, []impl.Event{strange, {Kind: 3, Ring: impl.Ring{Id: 2, Members: []int{7}}, With: []int{4}}}), false)
	for _, conf := range slices.Concat(numbersBeside(), []int{9, 10}) {
		a, part, whole := in(conf, x.a), in(conf, x.part12), in(conf, x.whole2)
		wantOf(t, "SameTogether", logsWorld(nil, []impl.Event{a, part, whole}, []impl.Event{part, whole}), false)
		wantOf(t, "SameTogether", logsWorld(nil, []impl.Event{a, part, whole}, []impl.Event{part, a, whole}), true)
		wantOf(t, "SameTogether", logsWorld(nil, []impl.Event{a, part, x.whole3}, []impl.Event{part, in(4, x.whole3)}), true)
		wantOf(t, "SameTogether", logsWorld(nil, []impl.Event{a, part, whole}, []impl.Event{in(7, x.part12), whole}), true)
	}
}

func TestSameTogetherSeveralParts(t *testing.T) {
	x := newCast()
	part2 := partEvent(x.second, 1, 2)
	first, both := []impl.Event{x.a, x.part12, x.whole2}, []impl.Event{x.a, x.part12, x.whole2, x.e, part2, x.whole3}
	wantOf(t, "SameTogether", logsWorld(nil, first, both), true)
	wantOf(t, "SameTogether", logsWorld(nil, both, both), true)
	wantOf(t, "SameTogether", logsWorld(nil, both, []impl.Event{x.a, x.part12, x.whole2, part2, x.whole3}), false)
	wantOf(t, "SameTogether", logsWorld(nil, both, []impl.Event{x.part12, x.whole2, x.e, part2, x.whole3}), false)
	wantOf(t, "SameTogether", logsWorld(nil, both, []impl.Event{x.b, x.part3, x.whole2, x.e, part2, x.whole3}), true)
	// Of one ring, each IsPart counts: the first, the second one, and those with different others.
	twice := []impl.Event{x.a, x.part3, x.whole2, x.part12, x.whole3}
	wantOf(t, "SameTogether", logsWorld(nil, twice, []impl.Event{x.part3, x.whole2}), false)
	wantOf(t, "SameTogether", logsWorld(nil, twice, []impl.Event{x.part12, x.whole3}), false)
	wantOf(t, "SameTogether", logsWorld(nil, twice, []impl.Event{x.part12, x.whole2, x.part3, x.whole3}), true)
	wantOf(t, "SameTogether", logsWorld(nil, twice, []impl.Event{x.part12, x.part12, x.whole3}), false)
	wantOf(t, "SameTogether", logsWorld(nil, twice, []impl.Event{x.part12, x.whole2, x.part3, x.whole3, x.part12, x.whole3}), false)
	wantOf(t, "SameTogether", logsWorld(nil, []impl.Event{x.part12, x.whole2, x.part12, x.whole3}, []impl.Event{x.a, x.part12, x.whole3}), false)
	// Two of one Log are not two daemons.
	wantOf(t, "SameTogether", logsWorld(nil, []impl.Event{x.a, x.part12, x.whole2, x.b, x.part12, x.whole2}), true)
}

func TestSafeKeptKnown(t *testing.T) {
	x := newCast()
	agreed := withItem(x.a, impl.Item{Seq: 1, From: 1, Level: 1, Text: "a"})
	lacks := []impl.Event{x.whole1, x.part3, x.whole3}
	for name, log := range map[string][]impl.Event{
		"without IsPart":                {x.a},
		"ahead of IsPart":               {x.a, x.part12},
		"ahead of others, then IsPart":  {x.a, x.b, x.whole2, x.part12},
		"behind IsWhole, ahead of it":   {x.whole1, x.whole2, x.a, x.part12},
		"behind IsPart of another ring": {partEvent(x.second, 1, 2), x.a, x.part12},
		"ahead of it and behind":        {x.a, x.part12, x.a},
		"behind an odd kind":            {ofKind(9, x.part12), x.a},
	} {
		for _, w := range []impl.World{logsWorld(nil, log, lacks), logsWorld(nil, lacks, log), logsWorld(nil, nil, log, nil, lacks)} {
			if broken := wantAxiomsAsByHand(t, w); !slices.Contains(broken, "SafeKept") {
				t.Errorf("SafeKept: true, with a %s: %s", name, shownLogs(w))
			}
		}
		safe := slices.Clone(log)
		for i, e := range safe {
			if e.Kind == 1 && e.Item == x.a.Item {
				safe[i] = agreed
			}
		}
		wantOf(t, "SafeKept", logsWorld(nil, safe, lacks), true)
		wantOf(t, "SafeKept", logsWorld(nil, safe, []impl.Event{x.part3, agreed}), true)
	}
	for name, log := range map[string][]impl.Event{
		"behind IsPart":                   {x.part12, x.a},
		"behind IsPart and IsWhole":       {x.whole1, x.part12, x.whole2, x.a},
		"between two IsPart":              {x.part12, x.a, x.part3},
		"not at all":                      {x.b, x.part12},
		"of another ring":                 {in(2, x.a), x.part12},
		"of a kind that is none":          {ofKind(0, x.a), ofKind(2, in(4, x.a)), x.part12},
		"ahead of IsPart of another ring": {x.part12, x.a, partEvent(x.second, 1, 2)},
	} {
		for _, w := range []impl.World{logsWorld(nil, log, lacks), logsWorld(nil, lacks, log), logsWorld(nil, nil, log, nil, lacks)} {
			if broken := wantAxiomsAsByHand(t, w); slices.Contains(broken, "SafeKept") {
				t.Errorf("SafeKept: false, with a %s: %s", name, shownLogs(w))
			}
		}
	}
}

func TestSafeKeptByTheOther(t *testing.T) {
	x := newCast()
	has := []impl.Event{x.whole1, x.a, x.part12, x.whole2}
	for name, other := range map[string][]impl.Event{
		"no IsPart":                    {x.whole1},
		"IsPart of another ring alone": {partEvent(x.second, 3), x.whole3},
		"it ahead of IsPart":           {x.a, x.part3, x.whole3},
		"it far ahead":                 {x.a, x.whole1, x.b, x.whole2, x.part3, x.whole3},
		"it behind IsPart":             {x.part3, x.a, x.whole3},
		"it behind others":             {x.part3, x.b, x.part3, x.c, x.a, x.whole3},
		"it behind, and no IsWhole":    {x.part3, x.a},
		"it ahead, and no IsWhole":     {x.a, x.part3},
		"it behind an odd kind":        {x.part3, ofKind(4, x.whole3), x.a, x.whole3},
		"it ahead, and again behind":   {x.a, x.part3, x.whole3, x.a},
		"it behind IsWhole ahead":      {x.whole1, x.whole2, x.part3, x.a, x.whole3},
		"it behind another IsPart":     {x.part3, partEvent(x.second, 1), x.a, x.whole3},
	} {
		for _, w := range []impl.World{logsWorld(nil, has, other), logsWorld(nil, other, has), logsWorld(nil, nil, has, nil, other)} {
			if broken := wantAxiomsAsByHand(t, w); slices.Contains(broken, "SafeKept") {
				t.Errorf("SafeKept: false, where the other one has %s: %s", name, shownLogs(w))
			}
		}
	}
	for name, other := range map[string][]impl.Event{
		"nothing":                        {x.part3},
		"nothing ahead of IsWhole":       {x.part3, x.whole3},
		"it behind IsWhole":              {x.part3, x.whole3, x.a},
		"it behind IsWhole of that ring": {x.part3, x.whole1, x.a},
		"it behind the first IsWhole":    {x.part3, x.whole2, x.a, x.whole3},
		"it behind a second IsPart":      {x.part3, x.whole2, x.part3, x.a, x.whole3},
		"it ahead of a second IsPart":    {x.part3, x.whole2, x.a, x.part3, x.whole3},
		"it in another ring":             {in(2, x.a), x.part3, in(3, x.a), x.whole3},
		"it of a kind that is none":      {ofKind(0, x.a), ofKind(3, in(3, x.a)), x.part3, ofKind(4, x.a), x.whole3},
		"it as what IsPart has":          {withItem(x.part3, x.a.Item), x.whole3},
		"it as what IsWhole has":         {withItem(x.whole1, x.a.Item), x.part3, x.whole3},
		"another one of that ring":       {x.c, x.b, x.part3, x.whole3},
		"nothing, and IsPart at the end": {x.whole1, x.b, x.part3},
		"nothing, and IsPart of two":     {partEvent(x.second, 3), x.b, x.part3, x.whole3},
		"nothing, with IsPart of nobody": {{Kind: 2, Ring: impl.Ring{Id: 1}}},
		"it behind IsWhole of no ring":   {x.part3, {Kind: 3}, x.a},
	} {
		for _, w := range []impl.World{logsWorld(nil, has, other), logsWorld(nil, other, has), logsWorld(nil, nil, has, nil, other)} {
			if broken := wantAxiomsAsByHand(t, w); !slices.Contains(broken, "SafeKept") {
				t.Errorf("SafeKept: true, where the other one has %s: %s", name, shownLogs(w))
			}
		}
	}
	for _, other := range othersOf(x.a.Item) {
		changed := withItem(x.a, other)
		wantOf(t, "SafeKept", logsWorld(nil, has, []impl.Event{changed, x.part3, changed, x.whole3}), false)
		wantOf(t, "SafeKept", logsWorld(nil, has, []impl.Event{changed, x.part3, x.a, x.whole3}), other.Level == impl.Agreed)
	}
}

func TestSafeKeptOfEachItem(t *testing.T) {
	x := newCast()
	safe := []impl.Event{x.item(1, 1, 2, "a"), x.item(2, 1, 2, "b"), x.item(3, 1, 2, "c"), x.item(4, 1, 2, "d")}
	has := slices.Concat(safe, []impl.Event{x.part12, x.whole2})
	for place := range safe {
		for part := range 4 {
			lacking := slices.Concat(putAt(without(safe, place), part, x.part3), []impl.Event{x.whole3})
			wantOf(t, "SafeKept", logsWorld(nil, has, lacking), false)
			wantOf(t, "SafeKept", logsWorld(nil, has, putAt(lacking, 4, safe[place])), true)
			wantOf(t, "SafeKept", logsWorld(nil, has, putAt(lacking, 5, safe[place])), false)
			wantOf(t, "SafeKept", logsWorld(nil, putAt(without(has, place), 4, safe[place]), lacking), true)
		}
		for _, conf := range slices.Concat(numbersBeside(), []int{3, 9, 10}) {
			item := in(conf, safe[place])
			if conf != 1 {
				wantOf(t, "SafeKept", logsWorld(nil, putInPlace(has, place, item), []impl.Event{in(conf, x.part3), x.whole3}), false)
				wantOf(t, "SafeKept", logsWorld(nil, putInPlace(has, place, item), []impl.Event{in(conf, x.part3), item, x.whole3}), true)
			}
		}
	}
	// Each other one that goes on must have it, wherever it stands.
	lacks := []impl.Event{x.part3, x.whole3}
	for i := range 7 {
		for j := range 7 {
			w := logsWorld(nil, slices.Repeat([][]impl.Event{nil}, 7)...)
			w = withLog(w, i, x.a)
			wantOf(t, "SafeKept", withLog(w, j, lacks...), i == j)
		}
	}
}

// Level is Safe where it is just that; what no right item could bear is not.
func TestSafeKeptLevels(t *testing.T) {
	x := newCast()
	for _, level := range slices.Concat(numbersBeside(), []int{1, 2, 3}) {
		item := x.item(1, 1, level, "a")
		wantOf(t, "SafeKept", logsWorld(nil, []impl.Event{item}, []impl.Event{x.part3}), level != impl.Safe)
	}
	odd := x.item(-4, 99, 2, longText(300))
	wantOf(t, "SafeKept", logsWorld(nil, []impl.Event{odd}, []impl.Event{x.part3}), false)
	wantOf(t, "SafeKept", logsWorld(nil, []impl.Event{odd}, []impl.Event{x.part3, odd}), true)
}

// wantInOrder lets the log stand as the first, a middle and the last one.
func wantInOrder(t *testing.T, want bool, log ...impl.Event) {
	t.Helper()
	x := newCast()
	for place := range 3 {
		wantOf(t, "InOrder", withLog(logsWorld(nil, []impl.Event{x.whole1}, []impl.Event{x.whole2, x.e}, nil), place, log...), want)
	}
	wantOf(t, "InOrder", logsWorld(nil, log), want)
}

func TestInOrderKnown(t *testing.T) {
	x := newCast()
	part2 := partEvent(x.second, 1)
	wantInOrder(t, true)
	for _, log := range [][]impl.Event{
		{x.whole1}, {x.whole1, x.a}, {x.whole1, x.part12}, {x.whole1, x.a, x.b, x.c, x.d, x.part12},
		{x.whole1, x.a, x.part12, x.b, x.c, x.whole2, x.e}, {x.whole1, x.a, x.b, x.whole2, x.e}, {x.whole1, x.part12, x.a, x.part3, x.b},
		{x.whole1, x.whole2, x.whole3}, {x.whole1, x.whole3}, {x.whole2, x.e, part2, x.whole3},
		{x.whole1, x.a, x.whole2, x.e, part2, x.whole3, in(3, x.a), in(3, x.b)},
	} {
		wantInOrder(t, true, log...)
	}
	for name, log := range map[string][]impl.Event{
		"an item at the first place":         {x.a},
		"IsPart at the first place":          {x.part12},
		"an item ahead of its IsWhole":       {x.a, x.whole1},
		"IsPart ahead of its IsWhole":        {x.part12, x.whole1},
		"a ring twice":                       {x.whole1, x.whole1},
		"a ring twice, with items":           {x.whole1, x.a, x.part12, x.whole1, x.a},
		"a ring that falls":                  {x.whole2, x.whole1},
		"a ring that falls later":            {x.whole1, x.whole3, x.whole2},
		"a ring that is twice the first one": {x.whole1, x.whole2, x.whole1},
		"an item of another ring":            {x.whole1, x.e},
		"an item of the ring before":         {x.whole1, x.whole2, x.a},
		"an item of the next ring":           {x.whole1, x.e, x.whole2},
		"an item of another ring, in order":  {x.whole1, x.a, in(2, x.b)},
		"IsPart of another ring":             {x.whole1, part2},
		"IsPart of the ring before":          {x.whole1, x.whole2, x.part12},
		"IsPart of another ring at the end":  {x.whole1, x.a, x.part12, x.whole2, x.e, x.part12},
		"a first number of 2":                {x.whole1, x.b},
		"a first number of 0":                {x.whole1, x.item(0, 1, 1, "a")},
		"a hole":                             {x.whole1, x.a, x.c},
		"a hole at the end":                  {x.whole1, x.a, x.b, x.d},
		"a hole behind IsPart":               {x.whole1, x.a, x.part12, x.c, x.whole2},
		"one twice":                          {x.whole1, x.a, x.a},
		"one twice, behind IsPart":           {x.whole1, x.a, x.part12, x.a},
		"anew behind IsPart":                 {x.whole1, x.a, x.b, x.part12, x.a, x.b},
		"falling numbers":                    {x.whole1, x.b, x.a},
		"on behind IsWhole":                  {x.whole1, x.a, x.whole2, in(2, x.b)},
		"on behind IsPart and IsWhole":       {x.whole1, x.a, x.part12, x.whole2, in(2, x.b), in(2, x.c)},
	} {
		for place := range 3 {
			w := withLog(logsWorld(nil, []impl.Event{x.whole1}, nil, []impl.Event{x.whole2, x.e}), place, log...)
			if broken := wantAxiomsAsByHand(t, w); !slices.Contains(broken, "InOrder") {
				t.Errorf("InOrder: true, with %s: %s", name, shownLogs(w))
			}
		}
	}
}

func TestInOrderKinds(t *testing.T) {
	x := newCast()
	log := x.logs()[0]
	for _, kind := range slices.Concat(numbersBeside(), []int{4, 5}) {
		if kind == 1 || kind == 2 {
			continue
		}
		for _, e := range []impl.Event{{Kind: kind}, ofKind(kind, x.whole1), ofKind(kind, x.whole3), ofKind(kind, x.a)} {
			wantInOrder(t, false, e)
			for place := range len(log) + 1 {
				wantInOrder(t, false, putAt(log, place, e)...)
			}
		}
	}
	wantInOrder(t, false, impl.Event{})
}

// Rings ascend from any Id on: InOrder asks no more of them.
func TestInOrderRings(t *testing.T) {
	x := newCast()
	confs := slices.Compact(slices.Sorted(slices.Values(slices.Concat(numbersBeside(), upTo(10)))))
	for i, conf := range confs {
		whole := in(conf, x.whole1)
		wantInOrder(t, true, whole, in(conf, x.a), in(conf, x.part12), in(conf, x.b))
		wantInOrder(t, false, whole, in(conf, x.a), whole)
		wantInOrder(t, false, in(conf, x.a), whole)
		wantInOrder(t, false, in(conf, x.part12), whole)
		for j, other := range confs {
			wantInOrder(t, i < j, whole, in(other, x.whole2))
			wantInOrder(t, i == j, whole, in(other, x.a))
			wantInOrder(t, i == j, whole, in(other, x.part12))
		}
	}
	for _, seq := range slices.Concat(numbersBeside(), []int{1, 2, 3}) {
		wantInOrder(t, seq == 1, x.whole1, x.item(seq, 1, 1, "a"))
		wantInOrder(t, seq == 2, x.whole1, x.a, x.part12, x.item(seq, 1, 1, "a"))
	}
	// What else an item, IsPart and IsWhole have is not looked at.
	wantInOrder(t, true, impl.Event{Kind: 3, Ring: impl.Ring{Id: 1}}, x.item(1, 99, -3, longText(300)), impl.Event{Kind: 2, Ring: impl.Ring{Id: 1, Members: []int{9, 9}}, With: []int{-1}}, withItem(x.whole2, x.d.Item))
}

// Numbers go on past what right items could bear.
func TestInOrderLongLogs(t *testing.T) {
	x := newCast()
	log := []impl.Event{x.whole1}
	for seq := 1; seq <= 300; seq++ {
		log = append(log, x.item(seq, 1, 1, "a"))
	}
	wantInOrder(t, true, log...)
	wantInOrder(t, false, append(slices.Clone(log), x.item(300, 1, 1, "a"))...)
	wantInOrder(t, true, append(slices.Clone(log), x.part12, x.item(301, 1, 1, "a"), x.whole2, x.e)...)
	wantInOrder(t, false, without(log, 150)...)
}

// fewEvents are those of which short Logs are made: two rings, a ring that ends with one and with two, and what is Safe and what is not.
func (x cast) fewEvents() []impl.Event {
	return []impl.Event{x.whole1, x.whole2, x.part12, x.part3, x.a, x.item(2, 2, 2, "b"), in(2, x.a)}
}

// countAxioms counts which were broken, and which alone.
func countAxioms(seen map[string]int, broken []string) {
	for _, name := range broken {
		seen[name]++
	}
	if len(broken) == 1 {
		seen[broken[0]+" alone"]++
	}
	if len(broken) == 0 {
		seen["sound"]++
	}
}

func enoughAxioms(t *testing.T, seen map[string]int, least int, kinds ...string) {
	t.Helper()
	for _, x := range axiomsToHold() {
		for _, kind := range kinds {
			enough(t, seen, least, x.name+kind)
		}
	}
	enough(t, seen, least, "sound")
}

func TestAxiomsOfEveryFewEvents(t *testing.T) {
	x := newCast()
	seen := map[string]int{}
	numbered := []impl.Event{x.a, x.item(2, 2, 2, "b")}
	var two, three, four [][]impl.Event
	everyLog(2, x.fewEvents(), func(log []impl.Event) { two = append(two, log) })
	everyLog(3, x.fewEvents(), func(log []impl.Event) { three = append(three, log) })
	everyLog(4, x.fewEvents(), func(log []impl.Event) { four = append(four, log) })
	for i, one := range three {
		for j, other := range three[:i+1] {
			w := logsWorld(numbered, one, other)
			if (i+j)%2 == 0 {
				w = logsWorld(append(numbered, in(2, x.a)), other, one)
			}
			countAxioms(seen, wantAxiomsAsByHand(t, w))
		}
	}
	for i, one := range four[len(three):] {
		for _, other := range two {
			countAxioms(seen, wantAxiomsAsByHand(t, logsWorld(numbered[i%2:], one, other)))
		}
	}
	enoughAxioms(t, seen, 100, "")
	enough(t, seen, 50, "SaidFirst alone", "SafeKept alone", "InOrder alone")
}

// drawnLogs are of a life that might have been, with some events in places that are not theirs; two of them bear one number.
func (x cast) drawnLogs(l *lot) [][]impl.Event {
	events := slices.Concat(x.fewEvents(), []impl.Event{x.whole3, x.b, x.c, x.d, x.e, x.item(3, 2, 1, "c"), partEvent(x.second, 1, 2), partEvent(x.first, 1, 2, 3), ofKind(l.below(9)-2, x.a), in(l.below(13)-1, x.b)})
	logs := x.logs()
	for range 1 + l.below(3) {
		i := l.below(3)
		place, e := l.below(len(logs[i])), events[l.below(len(events))]
		switch l.below(4) {
		case 0:
			logs[i] = putAt(logs[i], place, e)
		case 1:
			logs[i] = putInPlace(logs[i], place, e)
		case 2:
			logs[i] = append(slices.Clone(logs[i]), e)
		case 3:
			if len(logs[i]) > 1 {
				logs[i] = without(logs[i], place)
			}
		}
	}
	return logs
}

func TestAxiomsInDrawnLogs(t *testing.T) {
	l, x, seen := &lot{16}, newCast(), map[string]int{}
	for range 30000 {
		numbered := append(x.numbered(), x.item(2, 2, 2, "b"), x.item(3, 2, 1, "c"), in(2, x.a))
		countAxioms(seen, wantAxiomsAsByHand(t, logsWorld(numbered[max(0, l.below(9)-7):], x.drawnLogs(l)...)))
	}
	enoughAxioms(t, seen, 100, "")
	enoughAxioms(t, seen, 20, " alone")
}

// countOfLife counts what the axioms are about in a world of a life: without it they would hold of nothing.
func countOfLife(seen map[string]int, w impl.World) {
	for i, d := range w.Daemons {
		for place, e := range d.Log {
			switch e.Kind {
			case 1:
				seen["item"]++
				if place > 0 && d.Log[place-1].Kind == 2 {
					seen["rest"]++
				}
			case 2:
				seen["part"]++
			case 3:
				seen[fmt.Sprintf("ring of %d", len(e.Ring.Members))]++
				if place > 0 && partOfByHand(d.Log, d.Log[lastWhole(d.Log, place)].Ring.Id) < 0 {
					seen["ring behind a fall"]++
				}
			}
			for j, other := range w.Daemons {
				if i != j {
					countOfTwo(seen, d.Log, place, other.Log)
				}
			}
		}
		if d.Dead {
			seen["dead"]++
		}
	}
}

func countOfTwo(seen map[string]int, log []impl.Event, place int, other []impl.Event) {
	conf := log[place].Ring.Id
	ahead, parted := goesOnWith(other, conf)
	if isToBeKept(log, place) && parted {
		seen["kept"]++
		if part := partOfByHand(other, conf); hasItemByHand(ahead[part:], log[place]) {
			seen["kept behind a part"]++
		}
	}
	for j := range other {
		if togetherAtByHand(log, other, place, j) && len(itemsOfByHand(log, conf)) > 0 {
			seen["together"]++
		}
	}
	if part := partOfByHand(other, conf); log[place].Kind == 2 && part >= 0 && !slices.Equal(log[place].With, other[part].With) {
		seen["apart"]++
		if len(itemsOfByHand(log, conf)) != len(itemsOfByHand(other, conf)) {
			seen["apart with different ends"]++
		}
	}
}

func wantSoundLife(t *testing.T, rings []impl.Ring, deeds []impl.Deed) impl.World {
	t.Helper()
	w, _, ok := impl.RunWorld(rings, deeds)
	broken := wantAxiomsAsByHand(t, w)
	if !ok || len(broken) > 0 || !impl.SoundWorld(w) {
		t.Errorf("RunWorld(%v, %s): %t, %v broken: %s", rings, shownDeeds(deeds), ok, broken, shownLogs(w))
	}
	for _, d := range w.Daemons {
		for conf := 0; conf <= 10; conf++ {
			wantItemsOf(t, d.Log, conf, itemsOfByHand(d.Log, conf)...)
		}
	}
	return w
}

func enoughOfSoundLives(t *testing.T, seen map[string]int, lives int) {
	t.Helper()
	enough(t, seen, lives, "item", "part", "ring of 2", "ring of 3")
	enough(t, seen, lives/5, "ring of 1", "dead", "rest", "kept", "together", "apart")
	enough(t, seen, lives/20, "ring behind a fall", "kept behind a part", "apart with different ends", "ring of 4")
}

// Promise 16 itself.
func TestWorldsAreSoundInDrawnLives(t *testing.T) {
	l, seen, lives := &lot{1616}, map[string]int{}, 1500
	for range lives {
		deeds, life := drawnWorld(l)
		countOfLife(seen, wantSoundLife(t, life.rings, deeds))
	}
	enoughOfSoundLives(t, seen, lives)
}

func TestWorldsAreSoundInBetween(t *testing.T) {
	l, seen, lives := &lot{161}, map[string]int{}, 60
	for range lives {
		deeds, life := drawnWorld(l)
		for count := range len(deeds) + 1 {
			countOfLife(seen, wantSoundLife(t, life.rings, deeds[:count]))
		}
	}
	enoughOfSoundLives(t, seen, 10*lives)
}

// partingLife: three have a and b, which are Safe, and the first of them is about to hear that all have them; some deeds later they part.
func partingLife(deeds ...impl.Deed) ([]impl.Ring, []impl.Deed) {
	begin := deedsThen(gather(1, 2, 3), sayDeed(1, 2, "a"), sayDeed(1, 2, "b"), firstDeed(1))
	begin = append(begin, slices.Repeat([]impl.Deed{carryDeed(0)}, 7)...)
	begin = append(begin, sayDeed(2, 2, "c"), sayDeed(3, 1, "d"))
	end := []impl.Deed{wakeDeed(1), moveDeed(1), moveDeed(2), moveDeed(3), moveDeed(3)}
	end = append(end, slices.Repeat([]impl.Deed{carryDeed(0)}, 24)...)
	return ringsOf([]int{1, 2, 3}, []int{1, 2}, []int{1, 3}, []int{3}), slices.Concat(begin, deeds, end)
}

func deedsAheadOfAPart() []impl.Deed {
	return []impl.Deed{carryDeed(0), carryDeed(1), carryDeed(2), loseDeed(0), twiceDeed(2), againDeed(3), moveDeed(2), crashDeed(1)}
}

// Every short life of three who part is tried.
func TestWorldsAreSoundInEveryShortLife(t *testing.T) {
	seen, list, letters := map[string]int{}, deedsAheadOfAPart(), ""
	for i := range list {
		letters += string(rune('0' + i))
	}
	everyText(4, letters, func(s string) {
		var deeds []impl.Deed
		for _, b := range []byte(s) {
			deeds = append(deeds, list[b-'0'])
		}
		rings, life := partingLife(deeds...)
		countOfLife(seen, wantSoundLife(t, rings, life))
	})
	enough(t, seen, 500, "item", "part", "rest", "kept", "kept behind a part", "together", "apart", "apart with different ends", "ring behind a fall")
}

// spoiltEvent is changed in one thing that it has.
func spoiltEvent(l *lot, e impl.Event) impl.Event {
	switch pick := l.below(6); {
	case pick == 0:
		e.Kind = l.below(6) - 1
	case pick == 1:
		e.Ring.Id += []int{-1, 1, -e.Ring.Id, 10}[l.below(4)]
	case pick == 2:
		e.Ring.Members = append(slices.Clone(e.Ring.Members), 5)
	case e.Kind == 1:
		e.Item = othersOf(e.Item)[l.below(5)]
	case pick == 3:
		e.With = append(slices.Clone(e.With), 5)
	case pick == 4 && len(e.With) > 0:
		e.With = e.With[1:]
	default:
		e.With = slices.Clone(e.With)
		slices.Reverse(e.With)
	}
	return e
}

// spoiltLog is changed in one place; what may come into it stands in a list beside it.
func spoiltLog(l *lot, log, more []impl.Event) []impl.Event {
	if len(log) == 0 {
		return more[:min(1, len(more))]
	}
	place, other := l.below(len(log)), l.below(len(log))
	switch l.below(8) {
	case 0:
		return without(log, place)
	case 1:
		return putAt(log, other, log[place])
	case 2:
		return putInPlace(putInPlace(log, place, log[other]), other, log[place])
	case 3:
		return log[:place]
	case 4:
		return log[place:]
	case 5:
		if len(more) > 0 {
			return putAt(log, place, more[l.below(len(more))])
		}
	}
	return putInPlace(log, place, spoiltEvent(l, log[place]))
}

func spoilt(l *lot, w impl.World) impl.World {
	if l.below(4) == 0 {
		return withNumbered(w, spoiltLog(l, w.Numbered, w.Daemons[l.below(5)].Log)...)
	}
	place, more := l.below(5), w.Numbered
	if l.below(2) == 0 {
		more = w.Daemons[l.below(5)].Log
	}
	return withLog(w, place, spoiltLog(l, w.Daemons[place].Log, more)...)
}

// drawnParting is a life in which more is safe, and more part, than in others.
func drawnParting(l *lot) ([]impl.Ring, []impl.Deed) {
	var deeds []impl.Deed
	for range l.below(9) {
		deeds = append(deeds, deedsAheadOfAPart()[l.below(8)])
	}
	return partingLife(deeds...)
}

// One change of one Log, or of Numbered, spoils a world of a life, or it does not.
func TestAxiomsOfSpoiltLives(t *testing.T) {
	l, seen := &lot{166}, map[string]int{}
	for i := range 1200 {
		rings, deeds := drawnParting(l)
		if i%2 == 0 {
			drawn, life := drawnWorld(l)
			rings, deeds = life.rings, drawn
		}
		w := wantSoundLife(t, rings, deeds)
		for range 25 {
			countAxioms(seen, wantAxiomsAsByHand(t, spoilt(l, w)))
		}
	}
	enoughAxioms(t, seen, 300, "")
	enough(t, seen, 50, "SaidFirst alone", "SameTogether alone", "SafeKept alone", "InOrder alone")
}

// Each event of the Logs of a life is taken away, told twice, and put into another ring.
func TestAxiomsOfEverySpoiltEvent(t *testing.T) {
	rings, deeds, _ := partedLife()
	w, _, _ := impl.RunWorld(rings, deeds)
	for i, d := range w.Daemons {
		for place, e := range d.Log {
			for _, log := range [][]impl.Event{without(d.Log, place), putAt(d.Log, place, e), putInPlace(d.Log, place, in(e.Ring.Id%3+1, e)), d.Log[:place], d.Log[place+1:], append(without(d.Log, place), e)} {
				wantAxiomsAsByHand(t, withLog(w, i, log...))
			}
			if e.Kind == 1 {
				wantOf(t, "InOrder", withLog(w, i, putAt(d.Log, place, e)...), false)
				for _, other := range othersOf(e.Item) {
					wantOf(t, "SaidFirst", withLog(w, i, putInPlace(d.Log, place, withItem(e, other))...), false)
				}
			}
		}
	}
	for place, e := range w.Numbered {
		wantBroken(t, withNumbered(w, without(w.Numbered, place)...), "SaidFirst")
		wantBroken(t, withNumbered(w, putInPlace(w.Numbered, place, in(9, e))...), "SaidFirst")
		wantBroken(t, withNumbered(w, putAt(w.Numbered, len(w.Numbered)-place, e)...))
	}
}

// partedLife: 1, 2 and 3 have a and b; 2 alone knows that all have them, and hears them; 2 says c, which 3 does not get. Then 1 and 2 go on together, 3 alone.
func partedLife() ([]impl.Ring, []impl.Deed, []impl.Item) {
	rings := ringsOf([]int{1, 2, 3}, []int{1, 2}, []int{3})
	deeds := deedsThen(gather(1, 2, 3), sayDeed(1, 2, "a"), sayDeed(1, 2, "b"), firstDeed(1))
	deeds = append(deeds, slices.Repeat([]impl.Deed{carryDeed(0)}, 7)...)
	deeds = append(deeds, sayDeed(2, 1, "c"), carryDeed(0), carryDeed(0), loseDeed(0), moveDeed(3), moveDeed(2), moveDeed(1), loseDeed(0), carryDeed(1), carryDeed(0))
	deeds = append(deeds, sayDeed(2, 1, "d"), firstDeed(1), carryDeed(0))
	return rings, deeds, []impl.Item{{Seq: 1, From: 1, Level: 2, Text: "a"}, {Seq: 2, From: 1, Level: 2, Text: "b"}, {Seq: 3, From: 2, Level: 1, Text: "c"}, {Seq: 1, From: 2, Level: 1, Text: "d"}}
}

// What was heard as safe ahead of a part stands behind it in the Logs of those who did not know yet.
func TestPartedLifeKnown(t *testing.T) {
	rings, deeds, x := partedLife()
	w := wantSoundLife(t, rings, deeds)
	safe, c, d := itemEvents(rings[0], x[0], x[1]), itemEvents(rings[0], x[2])[0], itemEvents(rings[1], x[3])[0]
	whole, part, next := wholeEvent(rings[0]), partEvent(rings[0], 1, 2), wholeEvent(rings[1])
	wantLogOf(t, w, 1, whole, part, safe[0], safe[1], c, next)
	wantLogOf(t, w, 2, whole, safe[0], safe[1], c, part, next, d)
	wantLogOf(t, w, 3, whole, partEvent(rings[0], 3), safe[0], safe[1], wholeEvent(rings[2]))
	wantNumberedIn(t, w, safe[0], safe[1], c, d)
	wantBroken(t, withLog(w, 0, whole, part, safe[0], safe[1], next), "SameTogether")
	wantBroken(t, withLog(w, 1, whole, safe[0], part, safe[1], c, next, d))
	wantBroken(t, withLog(w, 2, whole, partEvent(rings[0], 3), safe[0], wholeEvent(rings[2])), "SafeKept")
	wantBroken(t, withLog(w, 2, whole, safe[0], partEvent(rings[0], 3), wholeEvent(rings[2]), safe[1]), "SafeKept", "InOrder")
	wantBroken(t, withLog(w, 2, whole, partEvent(rings[0], 3), safe[0], safe[1], c, wholeEvent(rings[2])))
	wantBroken(t, withLog(w, 2, whole, partEvent(rings[0], 1, 2), safe[0], safe[1], wholeEvent(rings[1])), "SameTogether")
}

// strangeWorlds are such as no RunWorld made.
func strangeWorlds() []impl.World {
	x := newCast()
	many := logsWorld(x.numbered(), slices.Repeat(x.logs(), 6)...)
	alike := logsWorld(x.numbered(), x.logs()...)
	for i := range alike.Daemons {
		alike.Daemons[i].Id = 7
	}
	odd := []impl.Event{{}, {Kind: -1, Ring: impl.Ring{Id: 99, Members: []int{9, 9, 1}}, Item: impl.Item{Seq: -4, Text: longText(100)}, With: []int{7, 7}}}
	list := []impl.World{{}, {Daemons: []impl.Daemon{}}, {Rings: []impl.Ring{{Id: -1}}, Letters: []impl.Letter{{Kind: 9}}, Numbered: odd}, many, alike, logsWorld(odd, odd, odd, x.logs()[0])}
	for _, n := range []int{math.MinInt, math.MinInt + 1, -1, 0, 1, 2, 3, 4, 6, 10, math.MaxInt - 1, math.MaxInt} {
		ring, item := impl.Ring{Id: n, Members: []int{n, n}}, impl.Item{Seq: n, From: n, Level: n, Text: longText(200)}
		var log []impl.Event
		for kind := range 5 {
			log = append(log, impl.Event{Kind: kind, Ring: ring, Item: item, With: []int{n}}, impl.Event{Kind: kind, Ring: ring}, impl.Event{Kind: n, Ring: ring, Item: item})
		}
		turned := slices.Clone(log)
		slices.Reverse(turned)
		list = append(list, logsWorld(log, log, turned, log[3:]), logsWorld(nil, turned), impl.World{Daemons: []impl.Daemon{{Id: n, Dead: true, Log: turned}, {Id: n, Log: log[:6]}, {Id: n, Log: log[:6]}}})
	}
	daemons := slices.Concat(wrongDaemons()[:60], strangeDaemons(), someDaemons(), oddDaemons())
	return append(list, impl.World{Daemons: daemons}, impl.World{Daemons: daemons[:9], Numbered: x.numbered()})
}

func TestAxiomsOfStrangeWorlds(t *testing.T) {
	seen := map[string]int{}
	for _, w := range strangeWorlds() {
		countAxioms(seen, wantAxiomsAsByHand(t, w))
		for _, d := range w.Daemons {
			for _, conf := range numbersBeside() {
				wantItemsOf(t, d.Log, conf, itemsOfByHand(d.Log, conf)...)
			}
		}
	}
	enoughAxioms(t, seen, 1, "")
	many := newCast().world()
	for range 60 {
		many.Daemons = append(many.Daemons, impl.Daemon{Id: 1, Log: many.Daemons[1].Log})
	}
	wantBroken(t, many)
	many.Daemons[63].Log = many.Daemons[63].Log[:5]
	wantBroken(t, many)
	many.Daemons[63].Log = slices.Concat(many.Daemons[63].Log[:4], many.Daemons[1].Log[5:])
	wantBroken(t, many, "SameTogether", "SafeKept")
}

// Logs of any length are answered for, and soon.
func TestAxiomsOfLongLogs(t *testing.T) {
	x := newCast()
	log := []impl.Event{x.whole1}
	for seq := 1; seq <= 1500; seq++ {
		log = append(log, x.item(seq, 1, 1+seq%2, "a"))
	}
	numbered := slices.Clone(log[1:])
	parted := slices.Concat(log[:700], []impl.Event{x.part12}, log[700:], []impl.Event{x.whole2})
	wantBroken(t, logsWorld(numbered, log, parted, slices.Concat(log[:20], []impl.Event{x.part12}, log[20:], []impl.Event{x.whole2})))
	wantBroken(t, logsWorld(numbered[:1499], log, parted), "SaidFirst")
	wantBroken(t, logsWorld(numbered, log, slices.Concat(log[:1500], []impl.Event{x.part12, x.whole2})))
	wantBroken(t, logsWorld(numbered, log, slices.Concat(log[:1499], []impl.Event{x.part12, x.whole2})), "SafeKept")
	var rings []impl.Event
	for conf := 1; conf <= 300; conf++ {
		rings = append(rings, in(conf, x.whole1), in(conf, x.a), in(conf, x.part12))
	}
	wantBroken(t, logsWorld(rings, rings, rings))
	wantBroken(t, logsWorld(rings, rings[:898], rings))
	wantBroken(t, logsWorld(rings, rings, without(rings, 895), rings[:897]), "SameTogether", "SafeKept")
}

func TestAxiomsLeaveArgumentsAlone(t *testing.T) {
	lists, lives := worldsToLookAt()
	var worlds []impl.World
	l := &lot{1661}
	for i := range lists {
		w, _, _ := runWorldByHand(lists[i], lives[i])
		worlds = append(worlds, w, spoilt(l, w))
	}
	rings, deeds, _ := partedLife()
	w, _, _ := runWorldByHand(rings, deeds)
	strange := strangeWorlds()
	for _, w := range slices.Concat(worlds, strange[:min(len(strange), 30)], []impl.World{w, newCast().world()}) {
		k := &keeper{}
		own := kept(k, w)
		k.ready()
		wantAxiomsAsByHand(t, own)
		k.untouched(t, "the axioms")
		var answers []any
		for _, d := range own.Daemons {
			for _, conf := range []int{1, 1, 2, 3} {
				answers = append(answers, impl.ItemsOf(d.Log, conf))
			}
		}
		k.untouched(t, "ItemsOf", answers...)
		for i, d := range own.Daemons {
			wantItemsOf(t, d.Log, 1, itemsOfByHand(w.Daemons[i].Log, 1)...)
		}
		if got, want := impl.SoundWorld(own), impl.SoundWorld(w); got != want {
			t.Errorf("SoundWorld looks into spare room: %t; want %t of %s", got, want, shownLogs(w))
		}
	}
}

// One item that stands in a Log twice is two in the answer.
func TestItemsOfPartsOneItemInMany(t *testing.T) {
	x := newCast()
	log := []impl.Event{x.whole1, x.a, x.a, x.b, x.a, x.part12, x.b}
	items := impl.ItemsOf(log, 1)
	wantRoomsApart(t, "ItemsOf", append(roomsWithin("it", reflect.ValueOf(items)), roomsWithin("an event", reflect.ValueOf(x.a))...)...)
	items[0] = impl.Item{}
	wantItemsOf(t, log, 1, x.a.Item, x.a.Item, x.b.Item, x.a.Item, x.b.Item)
}

func TestAxiomsKeepNothing(t *testing.T) {
	x := newCast()
	for range 3 {
		wantBroken(t, x.world())
		wantBroken(t, withNumbered(x.world()), "SaidFirst")
		wantBroken(t, impl.World{})
		items := impl.ItemsOf(x.logs()[0], 1)
		items[0].Text = "other"
		wantItemsOf(t, x.logs()[0], 1, x.a.Item, x.b.Item, x.c.Item)
		w := x.world()
		w.Daemons[1].Log[1] = x.b
		wantBroken(t, w, "OneOrders", "SameTogether", "SafeKept", "InOrder")
	}
}

// Spare room behind a Log, With or Numbered is nothing that is told.
func TestAxiomsDoNotLookIntoSpareRoom(t *testing.T) {
	x := newCast()
	w := x.world()
	for i, d := range w.Daemons {
		w.Daemons[i].Log = append(slices.Clone(d.Log), impl.Event{Kind: 9}, x.d)[:len(d.Log)]
	}
	wantBroken(t, w)
	wantBroken(t, withNumbered(w, w.Numbered[:4]...), "SaidFirst")
	with := []int{1, 2, 3}
	short, long := impl.Event{Kind: 2, Ring: x.first, With: with[:2]}, impl.Event{Kind: 2, Ring: x.first, With: with}
	wantBroken(t, logsWorld(x.numbered(), []impl.Event{x.whole1, x.b, short, x.whole2}, []impl.Event{x.whole1, long, x.whole2}), "InOrder")
	wantItemsOf(t, w.Daemons[0].Log[:2], 1, x.a.Item)
}
