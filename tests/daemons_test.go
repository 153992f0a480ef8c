package tests

import (
	"fmt"
	"math"
	"slices"
	"strings"
	"testing"

	"loop.example/g00183/impl"
)

func sameRing(a, b impl.Ring) bool { return a.Id == b.Id && slices.Equal(a.Members, b.Members) }

func sameEvent(a, b impl.Event) bool {
	return a.Kind == b.Kind && sameRing(a.Ring, b.Ring) && a.Item == b.Item && slices.Equal(a.With, b.With)
}

func sameDaemon(a, b impl.Daemon) bool {
	return a.Id == b.Id && a.Dead == b.Dead && sameMate(a.Mate, b.Mate) && a.Most == b.Most && a.Old == b.Old && sameRing(a.Joining, b.Joining) &&
		slices.EqualFunc(a.Bundles, b.Bundles, sameBundle) && slices.EqualFunc(a.Log, b.Log, sameEvent)
}

func shownEvent(e impl.Event) string {
	return fmt.Sprintf("{%d %s %s %.60s}", e.Kind, shownRing(e.Ring), shownItem(e.Item), fmt.Sprint(e.With))
}

func shownLog(log []impl.Event) string {
	var told []string
	for _, e := range log[:min(len(log), 70)] {
		told = append(told, shownEvent(e))
	}
	return fmt.Sprintf("%d of [%s]", len(log), strings.Join(told, " "))
}

func shownDaemon(d impl.Daemon) string {
	return fmt.Sprintf("{Id %d, Dead %t, Mate %s, Most %d, Old %d, Joining %s, Bundles %s, Log %s}",
		d.Id, d.Dead, shownMate(d.Mate), d.Most, d.Old, shownRing(d.Joining), shownBundles(d.Bundles), shownLog(d.Log))
}

// daemonRightByHand goes through the chapter's sentence, part by part.
func daemonRightByHand(d impl.Daemon) bool {
	if !slices.Contains(upTo(5), d.Id) || !slices.Contains(fromTo(0, 9), d.Most) {
		return false
	}
	if d.Dead && !sameDaemon(d, impl.Daemon{Id: d.Id, Dead: true, Most: d.Most, Log: d.Log}) {
		return false
	}
	if !sameMate(d.Mate, impl.Mate{}) && (!mateRightByHand(d.Mate) || d.Mate.Id != d.Id) {
		return false
	}
	if d.Old != d.Mate.Ring.Id || d.Old > d.Most {
		return false
	}
	if sameRing(d.Joining, impl.Ring{}) {
		return len(d.Bundles) == 0
	}
	if !ringRightByHand(d.Joining) || !slices.Contains(d.Joining.Members, d.Id) || d.Joining.Id <= d.Old || d.Joining.Id > d.Most {
		return false
	}
	return !slices.ContainsFunc(d.Bundles, func(b impl.Bundle) bool { return !bundleRightByHand(b) || b.New != d.Joining.Id })
}

func logged(log []impl.Event, more ...impl.Event) []impl.Event { return slices.Concat(log, more) }

func itemEvents(r impl.Ring, list ...impl.Item) []impl.Event {
	var log []impl.Event
	for _, x := range list {
		log = append(log, impl.Event{Kind: 1, Ring: r, Item: x})
	}
	return log
}

func partEvent(r impl.Ring, with ...int) impl.Event {
	return impl.Event{Kind: 2, Ring: r, With: with}
}

func wholeEvent(r impl.Ring) impl.Event { return impl.Event{Kind: 3, Ring: r, With: r.Members} }

// installedByHand is for daemons of whom a bundle of each member is here.
func installedByHand(d impl.Daemon) impl.Daemon {
	old, r := d.Mate.Ring, d.Joining
	if d.Old > 0 {
		d.Log = logged(d.Log, partEvent(old, togetherByHand(r, d.Bundles, d.Id)...))
	}
	d.Log = logged(d.Log, itemEvents(old, restByHand(r, d.Bundles, d.Id, d.Mate.Heard)...)...)
	d.Log = logged(d.Log, wholeEvent(r))
	mate := impl.Mate{Level: d.Mate.Level, Texts: d.Mate.Texts}
	if ringRightByHand(r) && slices.Contains(r.Members, d.Id) {
		mate.Id, mate.Ring = d.Id, r
	}
	d.Mate, d.Old, d.Joining, d.Bundles = mate, r.Id, impl.Ring{}, nil
	return d
}

func moveByHand(d impl.Daemon, r impl.Ring) (impl.Daemon, []impl.Bundle, bool) {
	if !daemonRightByHand(d) || d.Dead || !ringRightByHand(r) || !slices.Contains(r.Members, d.Id) || r.Id <= d.Most {
		return impl.Daemon{}, nil, false
	}
	own := impl.Bundle{From: d.Id, New: r.Id, Old: d.Old, Items: d.Mate.Items}
	d.Most, d.Joining, d.Bundles = r.Id, r, []impl.Bundle{own}
	if len(r.Members) == 1 {
		return installedByHand(d), nil, true
	}
	return d, slices.Repeat([]impl.Bundle{own}, len(r.Members)-1), true
}

func takeBundleByHand(d impl.Daemon, b impl.Bundle) (impl.Daemon, bool) {
	if !bundleRightByHand(b) || b.New != d.Joining.Id {
		return d, false
	}
	for _, other := range d.Bundles {
		if other.From == b.From {
			return d, false
		}
	}
	d.Bundles = append(slices.Clone(d.Bundles), b)
	if allHereByHand(d.Joining, d.Bundles) {
		d = installedByHand(d)
	}
	return d, true
}

func firstOfByHand(d impl.Daemon) (impl.Token, bool) {
	r := d.Mate.Ring
	if r.Id == 0 || d.Joining.Id != 0 || d.Mate.Round != 0 || len(r.Members) == 0 || r.Members[0] != d.Id {
		return impl.Token{}, false
	}
	if !ringRightByHand(r) {
		return impl.Token{}, true
	}
	return impl.Token{Conf: r.Id, Round: 1}, true
}

// hearAnyByHand is for members that are not right, too.
func hearAnyByHand(m impl.Mate) (impl.Mate, []impl.Item) {
	if mateRightByHand(m) {
		return hearByHand(m)
	}
	var list []impl.Item
	for m.Heard < aruByHand(m.Items) {
		x, there := itemAtByHand(m.Items, m.Heard+1)
		if !there || x.Level == 2 && x.Seq > m.Line {
			break
		}
		list = append(list, x)
		m.Heard++
	}
	return m, list
}

func hearIntoLogByHand(d impl.Daemon) impl.Daemon {
	m, list := hearAnyByHand(d.Mate)
	d.Log = logged(d.Log, itemEvents(d.Mate.Ring, list...)...)
	d.Mate = m
	return d
}

func takeTokenByHand(d impl.Daemon, k impl.Token) (impl.Daemon, []impl.Item, impl.Token, bool) {
	if !daemonRightByHand(d) || d.Mate.Ring.Id == 0 || d.Joining.Id != 0 {
		return d, nil, impl.Token{}, false
	}
	m, said, next, ok := holdByHand(d.Mate, k)
	if !ok {
		return d, nil, impl.Token{}, false
	}
	d.Mate = m
	return hearIntoLogByHand(d), said, next, true
}

func takeItemByHand(d impl.Daemon, conf int, x impl.Item) impl.Daemon {
	if d.Mate.Ring.Id == 0 || d.Mate.Ring.Id != conf || d.Joining.Id != 0 {
		return d
	}
	d.Mate = catchByHand(d.Mate, x)
	return hearIntoLogByHand(d)
}

func sayDaemonByHand(d impl.Daemon, level int, text string) (impl.Daemon, bool) {
	m, ok := sayByHand(d.Mate, level, text)
	if d.Dead || d.Mate.Ring.Id == 0 || !ok {
		return impl.Daemon{}, false
	}
	d.Mate = m
	return d, true
}

func crashByHand(d impl.Daemon) impl.Daemon {
	return impl.Daemon{Id: d.Id, Dead: true, Most: d.Most, Log: d.Log}
}

func wakeByHand(d impl.Daemon) (impl.Daemon, bool) {
	if !daemonRightByHand(d) || !d.Dead {
		return impl.Daemon{}, false
	}
	d.Dead = false
	return d, true
}

func wantDaemonNew(t *testing.T, id int, want impl.Daemon, wantOk bool) {
	t.Helper()
	if got, ok := impl.DaemonNew(id); !sameDaemon(got, want) || ok != wantOk {
		t.Errorf("DaemonNew(%d): %s, %t; want %s, %t", id, shownDaemon(got), ok, shownDaemon(want), wantOk)
	}
}

func wantDaemonOk(t *testing.T, d impl.Daemon, want bool) {
	t.Helper()
	if got := impl.DaemonOk(d); got != want {
		t.Errorf("DaemonOk(%s): %t; want %t", shownDaemon(d), got, want)
	}
}

// wantStaysRight is promise 14, of one call.
func wantStaysRight(t *testing.T, call string, before, after impl.Daemon) {
	t.Helper()
	if !daemonRightByHand(before) {
		return
	}
	wantDaemonOk(t, after, true)
	if len(after.Log) < len(before.Log) || !slices.EqualFunc(after.Log[:len(before.Log)], before.Log, sameEvent) {
		t.Errorf("%s of %s: its Log does not go on: %s", call, shownDaemon(before), shownLog(after.Log))
	}
	if after.Id != before.Id || after.Most < before.Most {
		t.Errorf("%s of %s: another daemon, or Most fell: %s", call, shownDaemon(before), shownDaemon(after))
	}
}

func wantMove(t *testing.T, d impl.Daemon, r impl.Ring, want impl.Daemon, wantTold []impl.Bundle, wantOk bool) impl.Daemon {
	t.Helper()
	got, told, ok := impl.Move(d, r)
	if !sameDaemon(got, want) || !slices.EqualFunc(told, wantTold, sameBundle) || ok != wantOk {
		t.Errorf("Move(%s, %s):\n%s, %s, %t; want\n%s, %s, %t", shownDaemon(d), shownRing(r), shownDaemon(got), shownBundles(told), ok, shownDaemon(want), shownBundles(wantTold), wantOk)
	}
	if ok {
		wantStaysRight(t, "Move", d, got)
	}
	return got
}

func wantMoveAsByHand(t *testing.T, d impl.Daemon, r impl.Ring) (impl.Daemon, []impl.Bundle, bool) {
	t.Helper()
	want, told, ok := moveByHand(d, r)
	return wantMove(t, d, r, want, told, ok), told, ok
}

func wantNotMoved(t *testing.T, d impl.Daemon, r impl.Ring) {
	t.Helper()
	wantMove(t, d, r, impl.Daemon{}, nil, false)
}

func wantTaken(t *testing.T, d impl.Daemon, b impl.Bundle, want impl.Daemon, wantOk bool) impl.Daemon {
	t.Helper()
	got, ok := impl.TakeBundle(d, b)
	if !sameDaemon(got, want) || ok != wantOk {
		t.Errorf("TakeBundle(%s, %s):\n%s, %t; want\n%s, %t", shownDaemon(d), shownBundle(b), shownDaemon(got), ok, shownDaemon(want), wantOk)
	}
	wantStaysRight(t, "TakeBundle", d, got)
	return got
}

func wantTakenAsByHand(t *testing.T, d impl.Daemon, b impl.Bundle) (impl.Daemon, bool) {
	t.Helper()
	want, ok := takeBundleByHand(d, b)
	return wantTaken(t, d, b, want, ok), ok
}

func wantNotTaken(t *testing.T, d impl.Daemon, b impl.Bundle) {
	t.Helper()
	wantTaken(t, d, b, d, false)
}

func wantFirstOf(t *testing.T, d impl.Daemon, want impl.Token, wantOk bool) {
	t.Helper()
	if got, ok := impl.FirstOf(d); !sameToken(got, want) || ok != wantOk {
		t.Errorf("FirstOf(%s): %+v, %t; want %+v, %t", shownDaemon(d), got, ok, want, wantOk)
	}
}

func wantFirstOfAsByHand(t *testing.T, d impl.Daemon) (impl.Token, bool) {
	t.Helper()
	want, ok := firstOfByHand(d)
	wantFirstOf(t, d, want, ok)
	return want, ok
}

func wantTokenTaken(t *testing.T, d impl.Daemon, k impl.Token, want impl.Daemon, wantSaid []impl.Item, wantNext impl.Token, wantOk bool) impl.Daemon {
	t.Helper()
	got, said, next, ok := impl.TakeToken(d, k)
	if !sameDaemon(got, want) || !slices.Equal(said, wantSaid) || !sameToken(next, wantNext) || ok != wantOk {
		t.Errorf("TakeToken(%s, %+v):\n%s, %s, %+v, %t; want\n%s, %s, %+v, %t", shownDaemon(d), k,
			shownDaemon(got), shownItems(said), next, ok, shownDaemon(want), shownItems(wantSaid), wantNext, wantOk)
	}
	wantStaysRight(t, "TakeToken", d, got)
	return got
}

func wantTokenTakenAsByHand(t *testing.T, d impl.Daemon, k impl.Token) (impl.Daemon, []impl.Item, impl.Token, bool) {
	t.Helper()
	want, said, next, ok := takeTokenByHand(d, k)
	return wantTokenTaken(t, d, k, want, said, next, ok), said, next, ok
}

func wantTokenNotTaken(t *testing.T, d impl.Daemon, k impl.Token) {
	t.Helper()
	wantTokenTaken(t, d, k, d, nil, impl.Token{}, false)
}

func wantItemTaken(t *testing.T, d impl.Daemon, conf int, x impl.Item, want impl.Daemon) impl.Daemon {
	t.Helper()
	got := impl.TakeItem(d, conf, x)
	if !sameDaemon(got, want) {
		t.Errorf("TakeItem(%s, %d, %s):\n%s; want\n%s", shownDaemon(d), conf, shownItem(x), shownDaemon(got), shownDaemon(want))
	}
	wantStaysRight(t, "TakeItem", d, got)
	return got
}

func wantItemTakenAsByHand(t *testing.T, d impl.Daemon, conf int, x impl.Item) impl.Daemon {
	t.Helper()
	return wantItemTaken(t, d, conf, x, takeItemByHand(d, conf, x))
}

func wantSaidBy(t *testing.T, d impl.Daemon, level int, text string, want impl.Daemon, wantOk bool) impl.Daemon {
	t.Helper()
	got, ok := impl.SayDaemon(d, level, text)
	if !sameDaemon(got, want) || ok != wantOk {
		t.Errorf("SayDaemon(%s, %d, %.40q):\n%s, %t; want\n%s, %t", shownDaemon(d), level, text, shownDaemon(got), ok, shownDaemon(want), wantOk)
	}
	if ok {
		wantStaysRight(t, "SayDaemon", d, got)
	}
	return got
}

func wantSaidByAsByHand(t *testing.T, d impl.Daemon, level int, text string) (impl.Daemon, bool) {
	t.Helper()
	want, ok := sayDaemonByHand(d, level, text)
	return wantSaidBy(t, d, level, text, want, ok), ok
}

func wantCrashed(t *testing.T, d, want impl.Daemon) impl.Daemon {
	t.Helper()
	got := impl.Crash(d)
	if !sameDaemon(got, want) {
		t.Errorf("Crash(%s): %s; want %s", shownDaemon(d), shownDaemon(got), shownDaemon(want))
	}
	wantStaysRight(t, "Crash", d, got)
	return got
}

func wantWoken(t *testing.T, d, want impl.Daemon, wantOk bool) impl.Daemon {
	t.Helper()
	got, ok := impl.Wake(d)
	if !sameDaemon(got, want) || ok != wantOk {
		t.Errorf("Wake(%s): %s, %t; want %s, %t", shownDaemon(d), shownDaemon(got), ok, shownDaemon(want), wantOk)
	}
	if ok {
		wantStaysRight(t, "Wake", d, got)
	}
	return got
}

// wantAllAsByHand asks a daemon everything, with things that come to it.
func wantAllAsByHand(t *testing.T, d impl.Daemon, rings []impl.Ring, bundles []impl.Bundle, tokens []impl.Token, items []impl.Item) {
	t.Helper()
	wantDaemonOk(t, d, daemonRightByHand(d))
	wantFirstOfAsByHand(t, d)
	wantCrashed(t, d, crashByHand(d))
	woken, ok := wakeByHand(d)
	wantWoken(t, d, woken, ok)
	for _, level := range []int{0, 1, 2, 3} {
		wantSaidByAsByHand(t, d, level, "said")
	}
	wantSaidByAsByHand(t, d, 1, longText(60))
	wantSaidByAsByHand(t, d, 1, longText(61))
	for _, r := range rings {
		wantMoveAsByHand(t, d, r)
	}
	for _, b := range bundles {
		wantTakenAsByHand(t, d, b)
	}
	for _, k := range tokens {
		wantTokenTakenAsByHand(t, d, k)
	}
	for _, x := range items {
		for _, conf := range []int{d.Mate.Ring.Id, d.Joining.Id, d.Mate.Ring.Id + 1} {
			wantItemTakenAsByHand(t, d, conf, x)
		}
	}
}

// someLog has an event of each kind, of rings ahead of those that the daemons below are in.
func someLog() []impl.Event {
	first := impl.Ring{Id: 1, Members: []int{3, 5}}
	return logged([]impl.Event{wholeEvent(first)}, logged(itemEvents(first, itemOf(1)), partEvent(first, 3, 5), wholeEvent(impl.Ring{Id: 2, Members: []int{1, 3, 4}}))...)
}

func bareDaemon() impl.Daemon { return impl.Daemon{Id: 3} }

// inRing is in a ring, with something to say and to hear yet, a hole at 4.
func inRing() impl.Daemon {
	return impl.Daemon{Id: 3, Mate: someMate(), Most: 2, Old: 2, Log: someLog()}
}

// onItsWay comes from a ring, and has a bundle of its own and one of another.
func onItsWay() impl.Daemon {
	d := inRing()
	d.Most, d.Joining = 5, impl.Ring{Id: 5, Members: []int{1, 3, 4}}
	d.Bundles = []impl.Bundle{{From: 3, New: 5, Old: 2, Items: d.Mate.Items}, {From: 1, New: 5, Old: 2, Items: itemsOf(1, 4)}}
	return d
}

// onItsFirstWay comes from no ring.
func onItsFirstWay() impl.Daemon {
	return impl.Daemon{Id: 3, Most: 5, Joining: impl.Ring{Id: 5, Members: []int{1, 3, 4}}, Bundles: []impl.Bundle{{From: 3, New: 5}}, Log: someLog()}
}

func deadDaemon() impl.Daemon { return impl.Daemon{Id: 3, Dead: true, Most: 5, Log: someLog()} }

func fullDaemon() impl.Daemon {
	return impl.Daemon{Id: 5, Mate: fullMate(), Most: 9, Old: 9, Log: someLog()}
}

// fullOnItsWay has every list as long as it may come to be.
func fullOnItsWay() impl.Daemon {
	d := fullDaemon()
	d.Mate.Ring.Id, d.Mate.Last.Conf, d.Old = 8, 8, 8
	d.Joining = impl.Ring{Id: 9, Members: upTo(5)}
	for _, from := range []int{5, 1, 2, 3} {
		d.Bundles = append(d.Bundles, impl.Bundle{From: from, New: 9, Old: 8, Items: fullItems()})
	}
	return d
}

func someDaemons() []impl.Daemon {
	return []impl.Daemon{bareDaemon(), inRing(), onItsWay(), onItsFirstWay(), deadDaemon(), fullDaemon(), fullOnItsWay(), {Id: 1, Dead: true}, {Id: 5, Most: 9}}
}

// oddDaemons are right, though no calls make them.
func oddDaemons() []impl.Daemon {
	noOwn, foreign, twice, allHere, other, younger := onItsWay(), onItsWay(), onItsWay(), onItsWay(), onItsWay(), onItsFirstWay()
	noOwn.Bundles = noOwn.Bundles[1:]
	foreign.Bundles = append(foreign.Bundles, impl.Bundle{From: 2, New: 5, Old: 2, Items: itemsOf(4)})
	twice.Bundles = append(twice.Bundles, impl.Bundle{From: 1, New: 5, Old: 1})
	allHere.Bundles = append(allHere.Bundles, impl.Bundle{From: 4, New: 5, Old: 4})
	other.Bundles = []impl.Bundle{{From: 3, New: 5}, {From: 1, New: 5, Old: 2, Items: itemsOf(1, 2, 3)}}
	younger.Bundles = []impl.Bundle{{From: 3, New: 5, Old: 4, Items: itemsOf(1, 2)}, {From: 1, New: 5, Old: 4}}
	strange := inRing()
	strange.Log = []impl.Event{{}, {Kind: -1, Ring: impl.Ring{Id: 99, Members: []int{9, 9, 1}}, Item: impl.Item{Seq: -4, Text: longText(100)}, With: []int{7, 7}}}
	return []impl.Daemon{noOwn, foreign, twice, allHere, other, younger, strange}
}

func changed(d impl.Daemon, change func(d *impl.Daemon)) impl.Daemon {
	change(&d)
	return d
}

// wrongDaemons are right but for one thing each.
func wrongDaemons() []impl.Daemon {
	list := []impl.Daemon{{}, {Dead: true}, {Id: 3, Old: 1, Most: 1}, {Id: 3, Old: -1}}
	for _, base := range someDaemons() {
		for _, n := range append(numbersBeside(), 6, 7, 1, 2, 10, 11) {
			list = append(list, changed(base, func(d *impl.Daemon) { d.Id = n }), changed(base, func(d *impl.Daemon) { d.Most = n }), changed(base, func(d *impl.Daemon) { d.Old = n }))
			list = append(list, changed(base, func(d *impl.Daemon) { d.Joining.Id = n }), changed(base, func(d *impl.Daemon) { d.Mate.Ring.Id = n }), changed(base, func(d *impl.Daemon) { d.Mate.Id = n }))
		}
		list = append(list, changed(base, func(d *impl.Daemon) { d.Dead = !d.Dead }), changed(base, func(d *impl.Daemon) { d.Bundles = append(slices.Clone(d.Bundles), bundleOf(1, 0)) }))
	}
	for i, m := range wrongMates() {
		if i%7 == 0 {
			list = append(list, changed(inRing(), func(d *impl.Daemon) { d.Mate, d.Id, d.Old = m, m.Id, m.Ring.Id; d.Most = max(d.Most, m.Ring.Id) }), changed(onItsWay(), func(d *impl.Daemon) { d.Mate = m }))
		}
	}
	for i, r := range wrongRings() {
		if i%3 == 0 {
			list = append(list, changed(onItsWay(), func(d *impl.Daemon) { d.Joining = r }), changed(onItsFirstWay(), func(d *impl.Daemon) { d.Joining, d.Bundles = r, nil }))
		}
	}
	for i, b := range wrongBundles() {
		if i%5 == 0 {
			b.New = 5
			list = append(list, changed(onItsWay(), func(d *impl.Daemon) { d.Bundles = append(slices.Clone(d.Bundles), b) }))
		}
	}
	return slices.DeleteFunc(list, daemonRightByHand)
}

func TestDaemonConstants(t *testing.T) {
	if impl.IsItem != 1 || impl.IsPart != 2 || impl.IsWhole != 3 {
		t.Error("the constants of daemons are not the document's")
	}
}

func TestDaemonNewEdges(t *testing.T) {
	for _, id := range slices.Concat(wildNumbers(), numbersBeside(), fromTo(-3, 12)) {
		if id >= 1 && id <= impl.MaxDaemons {
			wantDaemonNew(t, id, impl.Daemon{Id: id}, true)
			wantDaemonOk(t, impl.Daemon{Id: id}, true)
		} else {
			wantDaemonNew(t, id, impl.Daemon{}, false)
		}
	}
	wantDaemonNew(t, 0, impl.Daemon{}, false)
	wantDaemonNew(t, 1, impl.Daemon{Id: 1}, true)
	wantDaemonNew(t, 5, impl.Daemon{Id: 5}, true)
	wantDaemonNew(t, 6, impl.Daemon{}, false)
	wantDaemonNew(t, math.MinInt, impl.Daemon{}, false)
	wantDaemonNew(t, math.MaxInt, impl.Daemon{}, false)
}

func TestDaemonOkKnown(t *testing.T) {
	for _, d := range append(someDaemons(), oddDaemons()...) {
		wantDaemonOk(t, d, true)
		if !daemonRightByHand(d) {
			t.Errorf("by hand %s is not right", shownDaemon(d))
		}
	}
	for _, d := range wrongDaemons() {
		wantDaemonOk(t, d, false)
	}
	if len(wrongDaemons()) < 1000 {
		t.Errorf("%d wrong daemons: too few to tell", len(wrongDaemons()))
	}
}

func TestDaemonOkIdAndMost(t *testing.T) {
	for id := -2; id <= 8; id++ {
		wantDaemonOk(t, impl.Daemon{Id: id}, id >= 1 && id <= 5)
		wantDaemonOk(t, impl.Daemon{Id: id, Dead: true}, id >= 1 && id <= 5)
		wantDaemonOk(t, changed(inRing(), func(d *impl.Daemon) { d.Id = id }), id == 3)
		wantDaemonOk(t, changed(inRing(), func(d *impl.Daemon) { d.Id, d.Mate.Id = id, id }), id == 1 || id == 3 || id == 4)
	}
	for most := -2; most <= 12; most++ {
		wantDaemonOk(t, impl.Daemon{Id: 2, Most: most}, most >= 0 && most <= 9)
		wantDaemonOk(t, impl.Daemon{Id: 2, Dead: true, Most: most}, most >= 0 && most <= 9)
		wantDaemonOk(t, changed(inRing(), func(d *impl.Daemon) { d.Most = most }), most >= 2 && most <= 9)
		wantDaemonOk(t, changed(onItsWay(), func(d *impl.Daemon) { d.Most = most }), most >= 5 && most <= 9)
	}
	for _, n := range []int{math.MinInt, math.MaxInt, 1<<32 + 1} {
		wantDaemonOk(t, impl.Daemon{Id: n}, false)
		wantDaemonOk(t, impl.Daemon{Id: 1, Most: n}, false)
		wantDaemonOk(t, changed(inRing(), func(d *impl.Daemon) { d.Most = n }), false)
		wantDaemonOk(t, changed(fullDaemon(), func(d *impl.Daemon) { d.Most = n }), false)
	}
}

func TestDaemonOkDead(t *testing.T) {
	dead := deadDaemon()
	wantDaemonOk(t, dead, true)
	wantDaemonOk(t, changed(dead, func(d *impl.Daemon) { d.Log, d.Bundles = nil, nil }), true)
	wantDaemonOk(t, changed(dead, func(d *impl.Daemon) {
		d.Bundles, d.Joining.Members, d.Mate.Items, d.Mate.Last.Wants = []impl.Bundle{}, []int{}, []impl.Item{}, []int{}
	}), true)
	for place, change := range []func(d *impl.Daemon){
		func(d *impl.Daemon) { d.Old = 1 }, func(d *impl.Daemon) { d.Mate, d.Old = someMate(), 2 }, func(d *impl.Daemon) { d.Mate = someMate() },
		func(d *impl.Daemon) { d.Joining = impl.Ring{Id: 5, Members: []int{3}} }, func(d *impl.Daemon) { d.Joining.Id = 5 }, func(d *impl.Daemon) { d.Joining.Members = []int{3} },
		func(d *impl.Daemon) { d.Bundles = []impl.Bundle{{From: 3, New: 5}} }, func(d *impl.Daemon) { d.Bundles = []impl.Bundle{{}} },
		func(d *impl.Daemon) {
			d.Joining, d.Bundles = impl.Ring{Id: 5, Members: []int{3}}, []impl.Bundle{{From: 3, New: 5}}
		},
		func(d *impl.Daemon) { d.Mate.Id = 3 }, func(d *impl.Daemon) { d.Mate.Ring.Id = 1 }, func(d *impl.Daemon) { d.Mate.Ring.Members = []int{3} }, func(d *impl.Daemon) { d.Mate.Items = itemsOf(1) },
		func(d *impl.Daemon) { d.Mate.Level = []int{1} }, func(d *impl.Daemon) { d.Mate.Texts = []string{"a"} }, func(d *impl.Daemon) { d.Mate.Level, d.Mate.Texts = []int{1}, []string{"a"} },
		func(d *impl.Daemon) { d.Mate.Round = 1 }, func(d *impl.Daemon) { d.Mate.Seen = 1 }, func(d *impl.Daemon) { d.Mate.Line = 1 }, func(d *impl.Daemon) { d.Mate.Heard = 1 },
		func(d *impl.Daemon) { d.Mate.Last.Conf = 1 }, func(d *impl.Daemon) { d.Mate.Last.Wants = []int{0} }, func(d *impl.Daemon) { d.Mate.Last = impl.Token{Conf: 1, Round: 1} },
	} {
		if impl.DaemonOk(changed(dead, change)) {
			t.Errorf("Dead, and with something in another field, %d: it is right", place)
		}
	}
	for _, d := range someDaemons() {
		bare := sameMate(d.Mate, impl.Mate{}) && sameRing(d.Joining, impl.Ring{})
		d.Dead = true
		wantDaemonOk(t, d, bare)
	}
}

func TestDaemonOkMate(t *testing.T) {
	wantDaemonOk(t, changed(inRing(), func(d *impl.Daemon) { d.Mate, d.Old = impl.Mate{}, 0 }), true)
	wantDaemonOk(t, changed(inRing(), func(d *impl.Daemon) { d.Mate = impl.Mate{} }), false)
	wantDaemonOk(t, changed(inRing(), func(d *impl.Daemon) { d.Mate.Id = 4 }), false)
	wantDaemonOk(t, changed(inRing(), func(d *impl.Daemon) { d.Id = 4 }), false)
	wantDaemonOk(t, impl.Daemon{Id: 3, Mate: impl.Mate{Id: 3}}, false)
	for _, m := range someMates() {
		for id := 1; id <= 5; id++ {
			wantDaemonOk(t, impl.Daemon{Id: id, Mate: m, Most: m.Ring.Id, Old: m.Ring.Id}, id == m.Id)
		}
		saying := impl.Mate{Level: m.Level, Texts: m.Texts}
		wantDaemonOk(t, impl.Daemon{Id: m.Id, Mate: saying}, len(m.Texts) == 0)
	}
	for _, m := range wrongMates() {
		d := impl.Daemon{Id: m.Id, Mate: m, Most: 9, Old: m.Ring.Id}
		wantDaemonOk(t, d, false)
	}
	for _, r := range rightRings() {
		for id := 1; id <= 5; id++ {
			wantDaemonOk(t, impl.Daemon{Id: id, Mate: impl.Mate{Id: id, Ring: r}, Most: 9, Old: r.Id}, slices.Contains(r.Members, id))
		}
	}
}

func TestDaemonOkOld(t *testing.T) {
	for conf := 1; conf <= 9; conf++ {
		m := someMate()
		m.Ring.Id = conf
		for old := -1; old <= 11; old++ {
			for most := -1; most <= 10; most++ {
				wantDaemonOk(t, impl.Daemon{Id: 3, Mate: m, Most: most, Old: old}, old == conf && most >= old && most <= 9)
				wantDaemonOk(t, impl.Daemon{Id: 3, Most: most, Old: old}, old == 0 && most >= 0 && most <= 9)
			}
		}
	}
	for _, old := range []int{math.MinInt, math.MaxInt} {
		wantDaemonOk(t, impl.Daemon{Id: 3, Most: 9, Old: old}, false)
		wantDaemonOk(t, changed(inRing(), func(d *impl.Daemon) { d.Old, d.Mate.Ring.Id = old, old }), false)
		wantDaemonOk(t, changed(onItsWay(), func(d *impl.Daemon) { d.Old, d.Mate.Ring.Id = old, old }), false)
	}
}

func TestDaemonOkJoining(t *testing.T) {
	base := changed(onItsWay(), func(d *impl.Daemon) { d.Bundles = nil })
	wantDaemonOk(t, base, true)
	wantDaemonOk(t, changed(base, func(d *impl.Daemon) { d.Joining = impl.Ring{Members: []int{}} }), true)
	wantDaemonOk(t, changed(base, func(d *impl.Daemon) { d.Joining.Id = 0 }), false)
	wantDaemonOk(t, changed(base, func(d *impl.Daemon) { d.Joining.Members = nil }), false)
	for conf := -1; conf <= 11; conf++ {
		for most := 2; most <= 9; most++ {
			// Old is 2.
			wantDaemonOk(t, changed(base, func(d *impl.Daemon) { d.Joining.Id, d.Most = conf, most }), conf > 2 && conf <= most)
			first := impl.Daemon{Id: 3, Most: most, Joining: impl.Ring{Id: conf, Members: []int{3, 4}}}
			wantDaemonOk(t, first, conf > 0 && conf <= most)
		}
	}
	for _, r := range rightRings() {
		wantDaemonOk(t, changed(base, func(d *impl.Daemon) { d.Joining, d.Most = r, 9 }), r.Id > 2 && slices.Contains(r.Members, 3))
	}
	for _, r := range wrongRings() {
		wantDaemonOk(t, changed(base, func(d *impl.Daemon) { d.Joining, d.Most = r, 9 }), sameRing(r, impl.Ring{}))
	}
}

func TestDaemonOkBundles(t *testing.T) {
	base := onItsWay()
	for _, b := range someBundles() {
		wantDaemonOk(t, changed(inRing(), func(d *impl.Daemon) { d.Bundles = []impl.Bundle{b} }), false)
		wantDaemonOk(t, changed(base, func(d *impl.Daemon) { d.Bundles = []impl.Bundle{b} }), b.New == 5)
	}
	everyHead(func(b impl.Bundle) {
		wantDaemonOk(t, impl.Daemon{Id: 3, Bundles: []impl.Bundle{b}}, false)
		for _, place := range []int{0, 1, 2} {
			d := base
			d.Bundles = slices.Insert(slices.Clone(base.Bundles), place, b)
			wantDaemonOk(t, d, b.New == 5)
		}
	})
	for _, b := range wrongBundles() {
		d := base
		d.Bundles = append(slices.Clone(base.Bundles), b)
		wantDaemonOk(t, d, false)
		d.Bundles = append([]impl.Bundle{b}, base.Bundles...)
		wantDaemonOk(t, d, false)
	}
	wantDaemonOk(t, changed(base, func(d *impl.Daemon) { d.Joining = impl.Ring{} }), false)
	wantDaemonOk(t, changed(inRing(), func(d *impl.Daemon) { d.Bundles = []impl.Bundle{} }), true)
	wantDaemonOk(t, changed(inRing(), func(d *impl.Daemon) { d.Bundles = base.Bundles }), false)
	for _, count := range []int{0, 1, 5, 6, 200} {
		d := base
		d.Bundles = slices.Repeat([]impl.Bundle{{From: 2, New: 5, Old: 4}}, count)
		wantDaemonOk(t, d, true)
	}
}

// No sentence says anything of what a Log may have.
func TestDaemonOkDoesNotLookAtLog(t *testing.T) {
	for _, d := range someDaemons() {
		for _, log := range [][]impl.Event{nil, {}, {{}}, {{Kind: 4}}, {{Kind: -1, Ring: impl.Ring{Id: -3, Members: []int{9, 9}}, Item: impl.Item{Seq: 70}, With: []int{0}}}, make([]impl.Event, 3000)} {
			d.Log = log
			wantDaemonOk(t, d, true)
		}
	}
}

func TestMoveKnown(t *testing.T) {
	r := impl.Ring{Id: 1, Members: []int{1, 3, 5}}
	own := impl.Bundle{From: 3, New: 1}
	wantMove(t, impl.Daemon{Id: 3}, r, impl.Daemon{Id: 3, Most: 1, Joining: r, Bundles: []impl.Bundle{own}}, []impl.Bundle{own, own}, true)

	next := impl.Ring{Id: 3, Members: []int{2, 3}}
	brought := impl.Bundle{From: 3, New: 3, Old: 2, Items: itemsOf(1, 2, 3, 5)}
	want := inRing()
	want.Most, want.Joining, want.Bundles = 3, next, []impl.Bundle{brought}
	wantMove(t, inRing(), next, want, []impl.Bundle{brought}, true)

	all := impl.Ring{Id: 9, Members: upTo(5)}
	brought.New = 9
	want.Most, want.Joining, want.Bundles = 9, all, []impl.Bundle{brought}
	wantMove(t, inRing(), all, want, []impl.Bundle{brought, brought, brought, brought}, true)
}

// Who is on its way goes to the newer ring with what it has of the ring that it was in last.
func TestMoveOfWhoIsOnItsWay(t *testing.T) {
	next := impl.Ring{Id: 6, Members: []int{3, 4}}
	brought := impl.Bundle{From: 3, New: 6, Old: 2, Items: itemsOf(1, 2, 3, 5)}
	want := inRing()
	want.Most, want.Joining, want.Bundles = 6, next, []impl.Bundle{brought}
	wantMove(t, onItsWay(), next, want, []impl.Bundle{brought}, true)

	none := impl.Bundle{From: 3, New: 6}
	wantMove(t, onItsFirstWay(), next, impl.Daemon{Id: 3, Most: 6, Joining: next, Bundles: []impl.Bundle{none}, Log: someLog()}, []impl.Bundle{none}, true)

	// What comes for the ring that it does not go to any more is not taken.
	moved, _, _ := impl.Move(onItsWay(), next)
	wantNotTaken(t, moved, impl.Bundle{From: 4, New: 5, Old: 2})
	here := wantTaken(t, moved, impl.Bundle{From: 4, New: 6, Old: 2, Items: itemsOf(4)}, installedByHand(changed(moved, func(d *impl.Daemon) {
		d.Bundles = append(d.Bundles, impl.Bundle{From: 4, New: 6, Old: 2, Items: itemsOf(4)})
	})), true)
	if here.Old != 6 || here.Log[len(here.Log)-1].Ring.Id != 6 {
		t.Errorf("it is in %d: %s", here.Old, shownDaemon(here))
	}
}

func TestMoveAlone(t *testing.T) {
	alone := impl.Ring{Id: 4, Members: []int{3}}
	wantMove(t, impl.Daemon{Id: 3}, alone, impl.Daemon{Id: 3, Mate: impl.Mate{Id: 3, Ring: alone}, Most: 4, Old: 4, Log: []impl.Event{{Kind: 3, Ring: alone, With: []int{3}}}}, nil, true)
	wantMove(t, changed(deadDaemon(), func(d *impl.Daemon) { d.Dead, d.Most = false, 3 }), alone,
		impl.Daemon{Id: 3, Mate: impl.Mate{Id: 3, Ring: alone}, Most: 4, Old: 4, Log: logged(someLog(), impl.Event{Kind: 3, Ring: alone, With: []int{3}})}, nil, true)

	// It heard 1, has 2 and 3 yet to hear, and 5 lies behind a hole.
	old := impl.Ring{Id: 2, Members: []int{1, 3, 4}}
	want := impl.Daemon{Id: 3, Mate: impl.Mate{Id: 3, Ring: alone, Level: []int{1, 2}, Texts: []string{"a", "b"}}, Most: 4, Old: 4}
	want.Log = logged(someLog(), impl.Event{Kind: 2, Ring: old, With: []int{3}}, impl.Event{Kind: 1, Ring: old, Item: itemOf(2)}, impl.Event{Kind: 1, Ring: old, Item: itemOf(3)}, impl.Event{Kind: 3, Ring: alone, With: []int{3}})
	wantMove(t, inRing(), alone, want, nil, true)
	want.Most, want.Old, want.Mate.Ring.Id = 6, 6, 6
	want.Log[len(want.Log)-1].Ring.Id = 6
	wantMove(t, onItsWay(), impl.Ring{Id: 6, Members: []int{3}}, want, nil, true)
}

func TestMoveRefuses(t *testing.T) {
	for conf := -1; conf <= 11; conf++ {
		for _, members := range [][]int{{3}, {2, 3, 5}} {
			r := impl.Ring{Id: conf, Members: members}
			for _, d := range []impl.Daemon{{Id: 3, Most: 4}, {Id: 3, Most: 9}, {Id: 3}, inRing(), onItsWay(), onItsFirstWay()} {
				_, _, ok := wantMoveAsByHand(t, d, r)
				if ok != (conf > d.Most && conf <= 9) {
					t.Errorf("Move of one with Most %d to the ring %d: %t", d.Most, conf, ok)
				}
			}
			wantNotMoved(t, impl.Daemon{Id: 3, Dead: true}, r)
			wantNotMoved(t, impl.Daemon{Id: 4}, r)
			wantNotMoved(t, impl.Daemon{Id: 1}, r)
			wantNotMoved(t, impl.Daemon{}, r)
		}
	}
	for _, r := range wrongRings() {
		for _, d := range someDaemons() {
			wantNotMoved(t, d, r)
		}
	}
	for i, d := range wrongDaemons() {
		wantNotMoved(t, d, impl.Ring{Id: 9, Members: upTo(5)})
		wantNotMoved(t, d, impl.Ring{Id: 9, Members: []int{1 + i%5}})
	}
}

func TestMoveToEveryRing(t *testing.T) {
	moved := map[bool]int{}
	for _, d := range append(someDaemons(), oddDaemons()...) {
		for _, r := range rightRings() {
			after, told, ok := wantMoveAsByHand(t, d, r)
			moved[ok]++
			if !ok {
				continue
			}
			if len(told) != len(r.Members)-1 || after.Most != r.Id || len(told) > 0 && !sameRing(after.Joining, r) || len(told) == 0 && after.Old != r.Id {
				t.Errorf("Move(%s, %v): %s", shownDaemon(d), r, shownDaemon(after))
			}
			wantNotMoved(t, after, r)
		}
	}
	if moved[true] < 300 || moved[false] < 300 {
		t.Errorf("moved, how often: %v", moved)
	}
}

// While it is on its way, the token and the items of its old ring do nothing to it.
func TestOldRingDoesNothingToWhoIsOnItsWay(t *testing.T) {
	for _, d := range []impl.Daemon{onItsWay(), onItsFirstWay(), fullOnItsWay()} {
		for _, conf := range []int{d.Old, d.Joining.Id, d.Most, 0, 1} {
			for round := 1; round <= 12; round++ {
				wantTokenNotTaken(t, d, impl.Token{Conf: conf, Round: round, Seq: 5})
			}
			for seq := 0; seq <= 61; seq++ {
				wantItemTaken(t, d, conf, itemOf(seq), d)
			}
		}
		wantFirstOf(t, d, impl.Token{}, false)
	}
	ahead := inRing()
	taken := wantItemTakenAsByHand(t, ahead, 2, itemOf(4))
	if len(taken.Log) != len(ahead.Log)+1 {
		t.Errorf("ahead of its way it heard %s", shownLog(taken.Log))
	}
}

func TestTakeBundleKnown(t *testing.T) {
	r := impl.Ring{Id: 5, Members: []int{1, 3, 4}}
	old := impl.Ring{Id: 2, Members: []int{1, 3, 4}}
	d := onItsWay()
	// 1, 3 and 4 were in ring 2 together: number 4 comes from 1, and with it 5 can be heard.
	last := impl.Bundle{From: 4, New: 5, Old: 2, Items: itemsOf(7)}
	want := impl.Daemon{Id: 3, Mate: impl.Mate{Id: 3, Ring: r, Level: []int{1, 2}, Texts: []string{"a", "b"}}, Most: 5, Old: 5}
	want.Log = logged(someLog(), impl.Event{Kind: 2, Ring: old, With: []int{1, 3, 4}}, impl.Event{Kind: 1, Ring: old, Item: itemOf(2)}, impl.Event{Kind: 1, Ring: old, Item: itemOf(3)},
		impl.Event{Kind: 1, Ring: old, Item: itemOf(4)}, impl.Event{Kind: 1, Ring: old, Item: itemOf(5)}, impl.Event{Kind: 3, Ring: r, With: []int{1, 3, 4}})
	wantTaken(t, d, last, want, true)

	// 4 comes from another ring: what it has is not of theirs.
	last = impl.Bundle{From: 4, New: 5, Old: 1, Items: itemsOf(6)}
	want.Log = logged(someLog(), partEvent(old, 1, 3), impl.Event{Kind: 1, Ring: old, Item: itemOf(2)}, impl.Event{Kind: 1, Ring: old, Item: itemOf(3)},
		impl.Event{Kind: 1, Ring: old, Item: itemOf(4)}, impl.Event{Kind: 1, Ring: old, Item: itemOf(5)}, wholeEvent(r))
	wantTaken(t, d, last, want, true)

	// 3 goes on alone: of its old ring it hears what it has, up to the hole.
	d.Bundles = []impl.Bundle{d.Bundles[0], {From: 1, New: 5}}
	want.Log = logged(someLog(), partEvent(old, 3), impl.Event{Kind: 1, Ring: old, Item: itemOf(2)}, impl.Event{Kind: 1, Ring: old, Item: itemOf(3)}, wholeEvent(r))
	wantTaken(t, d, last, want, true)

	// Without an old ring there is nothing to end.
	wantTaken(t, changed(onItsFirstWay(), func(d *impl.Daemon) {
		d.Bundles = append(d.Bundles, impl.Bundle{From: 1, New: 5, Old: 2, Items: itemsOf(1)})
	}), last,
		impl.Daemon{Id: 3, Mate: impl.Mate{Id: 3, Ring: r}, Most: 5, Old: 5, Log: logged(someLog(), wholeEvent(r))}, true)
}

func TestTakeBundleWaitsForAll(t *testing.T) {
	r := impl.Ring{Id: 7, Members: []int{1, 2, 3, 5}}
	everyOrder([]int{1, 2, 5}, func(order []int) {
		for _, base := range []impl.Daemon{inRing(), bareDaemon(), changed(onItsWay(), func(d *impl.Daemon) { d.Bundles = nil })} {
			d, _, _ := wantMoveAsByHand(t, base, r)
			for i, from := range order {
				b := impl.Bundle{From: from, New: 7, Old: 2, Items: itemsOf(from, from+3)}
				before := d
				d = wantTaken(t, d, b, func() impl.Daemon { want, _ := takeBundleByHand(before, b); return want }(), true)
				if (d.Old == 7) != (i == 2) || (d.Joining.Id == 0) != (i == 2) || (len(d.Bundles) == 0) != (i == 2) {
					t.Errorf("behind %d of %v: %s", i+1, order, shownDaemon(d))
				}
				wantNotTaken(t, d, b)
			}
			if d.Mate.Round != 0 || d.Mate.Heard != 0 || len(d.Mate.Items) != 0 || !slices.Equal(d.Mate.Texts, base.Mate.Texts) || !slices.Equal(d.Mate.Level, base.Mate.Level) {
				t.Errorf("in the new ring: %s", shownMate(d.Mate))
			}
		}
	})
}

func TestTakeBundleRefuses(t *testing.T) {
	right := impl.Bundle{From: 4, New: 5, Old: 2, Items: itemsOf(4)}
	for _, d := range []impl.Daemon{bareDaemon(), inRing(), deadDaemon(), fullDaemon(), {}, {Id: 3, Dead: true}, changed(onItsWay(), func(d *impl.Daemon) { d.Joining = impl.Ring{} })} {
		wantNotTaken(t, d, right)
		wantNotTaken(t, d, impl.Bundle{From: 4})
		wantNotTaken(t, d, impl.Bundle{})
	}
	for _, d := range []impl.Daemon{onItsWay(), onItsFirstWay(), changed(onItsWay(), func(d *impl.Daemon) { d.Bundles = nil })} {
		if _, ok := wantTakenAsByHand(t, d, right); !ok {
			t.Errorf("%s does not take %s", shownDaemon(d), shownBundle(right))
		}
		for _, b := range wrongBundles() {
			wantNotTaken(t, d, b)
			b.New = 5
			wantTakenAsByHand(t, d, b)
		}
		for conf := 1; conf <= 9; conf++ {
			if conf != 5 {
				wantNotTaken(t, d, impl.Bundle{From: 4, New: conf})
			}
		}
		for _, there := range d.Bundles {
			wantNotTaken(t, d, there)
			wantNotTaken(t, d, impl.Bundle{From: there.From, New: 5, Old: 1, Items: itemsOf(1, 2)})
			wantNotTaken(t, d, impl.Bundle{From: there.From, New: 5})
		}
	}
	everyHead(func(b impl.Bundle) {
		for _, d := range append(someDaemons(), oddDaemons()...) {
			if _, ok := wantTakenAsByHand(t, d, b); ok && (d.Joining.Id != b.New || d.Dead) {
				t.Errorf("%s took %s", shownDaemon(d), shownBundle(b))
			}
		}
	})
}

// Who is no member may bring a bundle: it is put behind, and nobody waits for it nor hears of it.
func TestTakeBundleOfNoMember(t *testing.T) {
	d := onItsWay()
	foreign := impl.Bundle{From: 2, New: 5, Old: 2, Items: itemsOf(6)}
	want := d
	want.Bundles = append(slices.Clone(d.Bundles), foreign)
	d = wantTaken(t, d, foreign, want, true)
	wantNotTaken(t, d, foreign)
	last := impl.Bundle{From: 4, New: 5, Old: 2}
	here := wantTaken(t, d, last, func() impl.Daemon { want, _ := takeBundleByHand(onItsWay(), last); return want }(), true)
	if n := len(here.Log); here.Log[n-2].Item.Seq != 5 {
		t.Errorf("of its old ring it heard last %s", shownEvent(here.Log[n-2]))
	}
	alone := changed(onItsWay(), func(d *impl.Daemon) { d.Joining.Members = []int{3}; d.Bundles = d.Bundles[:1] })
	if here, _ := wantTakenAsByHand(t, alone, foreign); here.Old != 5 {
		t.Errorf("when all are here it goes over, whoever came last: %s", shownDaemon(here))
	}
}

// daemonIn is in a ring where nothing was said yet.
func daemonIn(id int, r impl.Ring) impl.Daemon {
	return impl.Daemon{Id: id, Mate: impl.Mate{Id: id, Ring: r}, Most: r.Id, Old: r.Id, Log: []impl.Event{wholeEvent(r)}}
}

func TestFirstOf(t *testing.T) {
	for _, r := range rightRings() {
		for _, id := range r.Members {
			d := daemonIn(id, r)
			wantDaemonOk(t, d, true)
			if id != r.Members[0] {
				wantFirstOf(t, d, impl.Token{}, false)
				continue
			}
			wantFirstOf(t, d, impl.Token{Conf: r.Id, Round: 1}, true)
			for _, round := range []int{1, 2, 1000000000} {
				wantFirstOf(t, changed(d, func(d *impl.Daemon) { d.Mate.Round = round }), impl.Token{}, false)
			}
			wantFirstOf(t, changed(d, func(d *impl.Daemon) { d.Mate.Items, d.Mate.Seen = itemsOf(1, 2), 3 }), impl.Token{Conf: r.Id, Round: 1}, true)
			wantFirstOf(t, impl.Crash(d), impl.Token{}, false)
			woken, _ := impl.Wake(impl.Crash(d))
			wantFirstOf(t, woken, impl.Token{}, false)
			if moved, _, ok := impl.Move(d, impl.Ring{Id: 9, Members: upTo(5)}); ok {
				wantFirstOf(t, moved, impl.Token{}, false)
			}
			if held, _, _, ok := impl.TakeToken(d, impl.Token{Conf: r.Id, Round: 1}); ok {
				wantFirstOf(t, held, impl.Token{}, false)
			} else {
				t.Errorf("%s does not take its first token", shownDaemon(d))
			}
		}
	}
	for _, d := range slices.Concat(someDaemons(), oddDaemons(), wrongDaemons(), []impl.Daemon{{}, {Id: 1}, {Id: 1, Dead: true}}) {
		wantFirstOfAsByHand(t, d)
	}
	wantFirstOf(t, impl.Daemon{}, impl.Token{}, false)
	wantFirstOf(t, impl.Daemon{Id: 1, Mate: impl.Mate{Id: 1, Ring: impl.Ring{Id: 1}}}, impl.Token{}, false)
	wantFirstOf(t, impl.Daemon{Id: 1, Mate: impl.Mate{Id: 1, Ring: impl.Ring{Members: []int{1}}}}, impl.Token{}, false)
}

func TestTakeTokenKnown(t *testing.T) {
	r := impl.Ring{Id: 1, Members: []int{1, 2}}
	d := daemonIn(1, r)
	d.Mate.Level, d.Mate.Texts = []int{1, 2, 1, 1}, []string{"a", "b", "c", "d"}
	items := []impl.Item{{Seq: 1, From: 1, Level: 1, Text: "a"}, {Seq: 2, From: 1, Level: 2, Text: "b"}, {Seq: 3, From: 1, Level: 1, Text: "c"}}
	next := impl.Token{Conf: 1, Round: 2, Seq: 3, Aru: 3}
	want := impl.Daemon{Id: 1, Most: 1, Old: 1, Mate: impl.Mate{Id: 1, Ring: r, Items: items, Level: []int{1}, Texts: []string{"d"}, Round: 1, Heard: 1, Last: next}}
	want.Log = []impl.Event{{Kind: 3, Ring: r, With: []int{1, 2}}, {Kind: 1, Ring: r, Item: items[0]}}
	d = wantTokenTaken(t, d, impl.Token{Conf: 1, Round: 1}, want, items, next, true)
	wantTokenNotTaken(t, d, impl.Token{Conf: 1, Round: 1})

	// The token was around, and all have all; what is Safe is heard when it was so twice.
	came := impl.Token{Conf: 1, Round: 3, Seq: 3, Aru: 3}
	four := impl.Item{Seq: 4, From: 1, Level: 1, Text: "d"}
	next = impl.Token{Conf: 1, Round: 4, Seq: 4, Aru: 4}
	want.Mate = impl.Mate{Id: 1, Ring: r, Items: append(slices.Clone(items), four), Round: 3, Seen: 3, Heard: 1, Last: next}
	d = wantTokenTaken(t, d, came, want, []impl.Item{four}, next, true)
	came = impl.Token{Conf: 1, Round: 5, Seq: 4, Aru: 4, Wants: []int{2}}
	next = impl.Token{Conf: 1, Round: 6, Seq: 4, Aru: 4}
	want.Mate.Round, want.Mate.Seen, want.Mate.Line, want.Mate.Heard, want.Mate.Last = 5, 4, 3, 4, next
	want.Log = logged(want.Log, itemEvents(r, items[1], items[2], four)...)
	wantTokenTaken(t, d, came, want, []impl.Item{items[1]}, next, true)
}

// tokensFor are some that a daemon takes, and some that it refuses.
func tokensFor(conf int) []impl.Token {
	list := []impl.Token{{}, {Conf: conf}, {Conf: conf, Round: 1000000000}, {Conf: conf, Round: 999999999, Seq: 6, Aru: 2, By: 3, Wants: []int{2, 4}}, {Conf: conf, Round: 500, Seq: 60, Aru: 60, Wants: fromTo(1, 6)}, {Conf: conf, Round: 500, Seq: 6, Wants: []int{4, 2}}}
	for _, round := range []int{1, 2, 6, 7, 8, 9} {
		list = append(list, impl.Token{Conf: conf, Round: round, Seq: 5, Aru: 5}, impl.Token{Conf: conf, Round: round, Seq: 6, Aru: 3, By: 1, Wants: []int{1, 4}}, impl.Token{Conf: conf + 1, Round: round}, impl.Token{Conf: conf - 1, Round: round})
	}
	return list
}

func TestTakeTokenRefuses(t *testing.T) {
	d := inRing()
	right := impl.Token{Conf: 2, Round: 8, Seq: 5, Aru: 4, Wants: []int{2}}
	if _, _, _, ok := wantTokenTakenAsByHand(t, d, right); !ok {
		t.Errorf("%s does not take %+v", shownDaemon(d), right)
	}
	for _, round := range []int{math.MinInt, -1, 0, 1, 6, 7, 1000000000, 1000000001, math.MaxInt} {
		wantTokenNotTaken(t, d, impl.Token{Conf: 2, Round: round, Seq: 5, Aru: 4})
	}
	for _, conf := range []int{math.MinInt, -1, 0, 1, 3, 9, 10, math.MaxInt} {
		wantTokenNotTaken(t, d, impl.Token{Conf: conf, Round: 8, Seq: 5, Aru: 4})
	}
	for _, k := range wrongTokens() {
		wantTokenNotTaken(t, d, k)
		k.Conf = 2
		wantTokenTakenAsByHand(t, d, k)
	}
	for _, other := range []impl.Daemon{{}, bareDaemon(), deadDaemon(), onItsWay(), onItsFirstWay(), impl.Crash(d)} {
		for conf := range 6 {
			for _, k := range tokensFor(conf) {
				wantTokenNotTaken(t, other, k)
			}
		}
	}
	for _, other := range wrongDaemons() {
		wantTokenNotTaken(t, other, right)
		wantTokenNotTaken(t, other, impl.Token{Conf: other.Mate.Ring.Id, Round: 999999998})
	}
}

// nextTokenOf is one that a daemon would hold, if it takes part in a ring; of one that has none it is of the ring that it went to last.
func nextTokenOf(d impl.Daemon) impl.Token {
	conf := d.Mate.Ring.Id
	if conf == 0 {
		conf = max(d.Most, 1)
	}
	return impl.Token{Conf: conf, Round: d.Mate.Round + 1, Seq: 5, Aru: 4, By: 2, Wants: []int{2, 5}}
}

// tokensRefusedBy are tokens that a right daemon does not hold, for each reason that it has.
func tokensRefusedBy(d impl.Daemon) map[string][]impl.Token {
	next := nextTokenOf(d)
	with := func(change func(k *impl.Token)) impl.Token {
		k := next
		change(&k)
		return k
	}
	refused := map[string][]impl.Token{
		"not right": {{}, {Conf: next.Conf}, with(func(k *impl.Token) { k.Round = -1 }), with(func(k *impl.Token) { k.Seq = 61 }), with(func(k *impl.Token) { k.Aru = 6 }),
			with(func(k *impl.Token) { k.By = 6 }), with(func(k *impl.Token) { k.Wants = []int{5, 2} }), with(func(k *impl.Token) { k.Round = 1000000001 })},
		"not below MaxNumber": {with(func(k *impl.Token) { k.Round = 1000000000 })},
	}
	for conf := 1; conf <= 9; conf++ {
		if conf != next.Conf {
			refused["of another ring"] = append(refused["of another ring"], with(func(k *impl.Token) { k.Conf = conf }))
		}
	}
	for _, round := range []int{1, d.Mate.Round - 1, d.Mate.Round} {
		if round > 0 && round <= d.Mate.Round {
			refused["held already"] = append(refused["held already"], with(func(k *impl.Token) { k.Round = round }), impl.Token{Conf: next.Conf, Round: round})
		}
	}
	switch late := []impl.Token{next, {Conf: next.Conf, Round: 1}, with(func(k *impl.Token) { k.Round = 999999999 })}; {
	case d.Dead:
		refused["Dead"] = late
	case d.Joining.Id != 0:
		refused["on its way"] = append(late, with(func(k *impl.Token) { k.Conf = d.Joining.Id }))
	case d.Mate.Ring.Id == 0:
		refused["without a ring"] = late
	}
	return refused
}

// wantRefusalChangesNothing is promise 14 of tokens that are refused; it tells for which reasons some were, into seen.
func wantRefusalChangesNothing(t *testing.T, d impl.Daemon, seen map[string]int) {
	t.Helper()
	k := &keeper{}
	arg := kept(k, d)
	k.ready()
	for reason, tokens := range tokensRefusedBy(d) {
		seen[reason] += len(tokens)
		for _, token := range tokens {
			after, said, next, ok := impl.TakeToken(arg, token)
			if ok || len(said) != 0 || !sameToken(next, impl.Token{}) {
				t.Errorf("TakeToken(%s, %+v), %s: %s, %+v, %t; want nothing and false", shownDaemon(d), token, reason, shownItems(said), next, ok)
			}
			if !sameDaemon(after, d) || !impl.DaemonOk(after) {
				t.Errorf("TakeToken(%s, %+v), %s: the daemon is not as it was: %s", shownDaemon(d), token, reason, shownDaemon(after))
			}
		}
	}
	after, said, next, _ := impl.TakeToken(arg, impl.Token{Conf: 9, Round: 1000000000})
	again, _, _, _ := impl.TakeToken(arg, impl.Token{})
	k.untouched(t, "TakeToken of a token that is refused", after, said, next, again)
}

func TestTokenThatIsRefusedKnown(t *testing.T) {
	fresh, _ := impl.DaemonNew(1)
	wantTokenNotTaken(t, fresh, impl.Token{Conf: 1, Round: 1})
	in, _, _ := impl.Move(fresh, impl.Ring{Id: 1, Members: []int{1}})
	wantTokenNotTaken(t, in, impl.Token{Conf: 2, Round: 1})
	wantTokenNotTaken(t, in, impl.Token{Conf: 1, Round: 1, Seq: -1})
	wantTokenNotTaken(t, in, impl.Token{Conf: 1, Round: 1000000000})
	held, _, next, ok := impl.TakeToken(in, impl.Token{Conf: 1, Round: 1})
	if !ok || next.Round != 2 {
		t.Errorf("the first token: %s, %+v, %t", shownDaemon(held), next, ok)
	}
	wantTokenNotTaken(t, held, impl.Token{Conf: 1, Round: 1})
	on, _, _ := impl.Move(held, impl.Ring{Id: 2, Members: []int{1, 2}})
	wantTokenNotTaken(t, on, next)
	wantTokenNotTaken(t, on, impl.Token{Conf: 2, Round: 1})
	fallen := impl.Crash(on)
	wantTokenNotTaken(t, fallen, next)
	woken, _ := impl.Wake(fallen)
	wantTokenNotTaken(t, woken, next)
	wantDaemonOk(t, woken, true)
}

// A token that is refused leaves a daemon as it is, whatever daemon it comes to and for whatever reason.
func TestTokenThatIsRefusedChangesNothing(t *testing.T) {
	seen := map[string]int{}
	for _, d := range append(someDaemons(), oddDaemons()...) {
		wantRefusalChangesNothing(t, d, seen)
		takesPart := d.Mate.Ring.Id != 0 && d.Joining.Id == 0
		if _, _, _, ok := wantTokenTakenAsByHand(t, d, nextTokenOf(d)); ok != (takesPart && d.Mate.Round < 999999999) {
			t.Errorf("TakeToken(%s, %+v): %t", shownDaemon(d), nextTokenOf(d), ok)
		}
	}
	for _, r := range rightRings() {
		for _, id := range r.Members {
			d := daemonIn(id, r)
			wantRefusalChangesNothing(t, d, seen)
			d, _, _, _ = wantTokenTakenAsByHand(t, d, nextTokenOf(d))
			wantRefusalChangesNothing(t, d, seen)
		}
	}
	enough(t, seen, 3, "not right", "not below MaxNumber", "of another ring", "held already", "Dead", "on its way", "without a ring")
}

func TestTakeTokenIsHoldAndHear(t *testing.T) {
	taken := 0
	for _, m := range matesToLookAt() {
		d := impl.Daemon{Id: m.Id, Mate: m, Most: 9, Old: m.Ring.Id, Log: someLog()}
		for _, k := range tokensFor(m.Ring.Id) {
			got, said, next, ok := wantTokenTakenAsByHand(t, d, k)
			held, wantSaid, wantNext, wantOk := impl.Hold(m, k)
			if ok != wantOk {
				t.Errorf("TakeToken(%s, %+v): %t; Hold is %t", shownDaemon(d), k, ok, wantOk)
			}
			if !ok {
				continue
			}
			taken++
			heard, list := impl.Hear(held)
			if !sameMate(got.Mate, heard) || !slices.Equal(said, wantSaid) || !sameToken(next, wantNext) || !slices.EqualFunc(got.Log[len(d.Log):], itemEvents(m.Ring, list...), sameEvent) {
				t.Errorf("TakeToken(%s, %+v): %s; Hear is %s, %s", shownDaemon(d), k, shownDaemon(got), shownMate(heard), shownItems(list))
			}
		}
	}
	if taken < 40 {
		t.Errorf("%d tokens were taken: too few to tell", taken)
	}
}

func TestTakeItemKnown(t *testing.T) {
	r := impl.Ring{Id: 3, Members: []int{1, 2}}
	d := daemonIn(1, r)
	two, one, safe := impl.Item{Seq: 2, From: 2, Level: 1, Text: "b"}, impl.Item{Seq: 1, From: 2, Level: 1, Text: "a"}, impl.Item{Seq: 3, From: 2, Level: 2}
	want := d
	want.Mate.Items = []impl.Item{two}
	d = wantItemTaken(t, d, 3, two, want)
	want.Mate.Items, want.Mate.Heard = []impl.Item{one, two}, 2
	want.Log = logged(d.Log, impl.Event{Kind: 1, Ring: r, Item: one}, impl.Event{Kind: 1, Ring: r, Item: two})
	d = wantItemTaken(t, d, 3, one, want)
	wantItemTaken(t, d, 3, one, d)
	wantItemTaken(t, d, 3, impl.Item{Seq: 1, From: 1, Level: 2, Text: "another"}, d)
	want.Mate.Items = []impl.Item{one, two, safe}
	d = wantItemTaken(t, d, 3, safe, want)
	for _, conf := range []int{math.MinInt, -1, 0, 1, 2, 4, 9, 10, math.MaxInt} {
		wantItemTaken(t, d, conf, impl.Item{Seq: 4, From: 1, Level: 1}, d)
	}
	for _, x := range wrongItems() {
		wantItemTaken(t, d, 3, x, d)
	}
}

func TestTakeItemElseAsItIs(t *testing.T) {
	for _, d := range []impl.Daemon{{}, bareDaemon(), deadDaemon(), onItsWay(), onItsFirstWay(), impl.Crash(inRing()), {Id: 5, Most: 9}} {
		for conf := -1; conf <= 10; conf++ {
			for _, seq := range []int{0, 1, 2, 4, 60, 61} {
				wantItemTaken(t, d, conf, itemOf(seq), d)
			}
		}
	}
	// A ring that is none has the Id 0: it is not the ring 0.
	listening := impl.Daemon{Id: 1, Mate: impl.Mate{Items: itemsOf(1, 2, 3), Line: 3}}
	wantItemTaken(t, listening, 0, itemOf(4), listening)
}

func TestTakeItemIsCatchAndHear(t *testing.T) {
	grown := 0
	for _, m := range append(matesToLookAt(), impl.Mate{Id: 3, Ring: impl.Ring{Id: 2, Members: []int{1, 3}}, Items: leveled([]int{1, 1, 1, 1, 2, 1}, 3), Line: 1}) {
		d := impl.Daemon{Id: m.Id, Mate: m, Most: 9, Old: m.Ring.Id, Log: someLog()}
		for _, x := range append(wrongItems(), itemsOf(upTo(60)...)...) {
			got := wantItemTakenAsByHand(t, d, m.Ring.Id, x)
			heard, list := impl.Hear(impl.Catch(m, x))
			if m.Ring.Id != 0 && (!sameMate(got.Mate, heard) || !slices.EqualFunc(got.Log[len(d.Log):], itemEvents(m.Ring, list...), sameEvent)) {
				t.Errorf("TakeItem(%s, %s): %s; Hear is %s, %s", shownDaemon(d), shownItem(x), shownDaemon(got), shownMate(heard), shownItems(list))
			}
			grown += len(got.Log) - len(d.Log)
		}
	}
	if grown < 100 {
		t.Errorf("%d were heard: too few to tell", grown)
	}
}

func TestSayDaemon(t *testing.T) {
	for _, base := range []impl.Daemon{inRing(), onItsWay()} {
		want := base
		want.Mate.Level, want.Mate.Texts = []int{1, 2, 2}, []string{"a", "b", "new"}
		wantSaidBy(t, base, 2, "new", want, true)
		want.Mate.Level, want.Mate.Texts = []int{1, 2, 1}, []string{"a", "b", longText(60)}
		wantSaidBy(t, base, 1, longText(60), want, true)
		want.Mate.Texts = []string{"a", "b", ""}
		wantSaidBy(t, base, 1, "", want, true)
		wantSaidBy(t, base, 1, longText(61), impl.Daemon{}, false)
		for _, level := range []int{math.MinInt, -1, 0, 3, 257, math.MaxInt} {
			wantSaidBy(t, base, level, "new", impl.Daemon{}, false)
		}
		d := base
		for count := len(base.Mate.Texts); count < 20; count++ {
			d, _ = wantSaidByAsByHand(t, d, 1+count%2, fmt.Sprint(count))
		}
		wantSaidBy(t, d, 1, "one too many", impl.Daemon{}, false)
	}
	for _, d := range []impl.Daemon{{}, bareDaemon(), deadDaemon(), onItsFirstWay(), impl.Crash(inRing()), changed(inRing(), func(d *impl.Daemon) { d.Dead = true })} {
		wantSaidBy(t, d, 1, "new", impl.Daemon{}, false)
		wantSaidBy(t, d, 2, "", impl.Daemon{}, false)
	}
	for _, m := range wrongMates() {
		wantSaidBy(t, impl.Daemon{Id: m.Id, Mate: m, Most: 9, Old: m.Ring.Id}, 1, "new", impl.Daemon{}, false)
	}
}

// What it has to say goes with it to the new ring, what was said on its way too, and is said there in its order.
func TestWhatIsToBeSaidGoesAlong(t *testing.T) {
	d, _ := wantSaidByAsByHand(t, onItsWay(), 1, "c")
	d, _ = wantTakenAsByHand(t, d, impl.Bundle{From: 4, New: 5})
	if !slices.Equal(d.Mate.Texts, []string{"a", "b", "c"}) || !slices.Equal(d.Mate.Level, []int{1, 2, 1}) {
		t.Errorf("in the new ring it has to say %s", shownMate(d.Mate))
	}
	d, said, _, _ := wantTokenTakenAsByHand(t, d, impl.Token{Conf: 5, Round: 1})
	if !slices.Equal(said, []impl.Item{{Seq: 1, From: 3, Level: 1, Text: "a"}, {Seq: 2, From: 3, Level: 2, Text: "b"}, {Seq: 3, From: 3, Level: 1, Text: "c"}}) {
		t.Errorf("in the new ring it said %s", shownItems(said))
	}
	if last := d.Log[len(d.Log)-1]; last.Ring.Id != 5 || last.Item.Text != "a" {
		t.Errorf("in the new ring it heard %s", shownEvent(last))
	}
}

func TestCrashAndWake(t *testing.T) {
	log := someLog()
	wantCrashed(t, inRing(), impl.Daemon{Id: 3, Dead: true, Most: 2, Log: log})
	wantCrashed(t, onItsWay(), impl.Daemon{Id: 3, Dead: true, Most: 5, Log: log})
	wantCrashed(t, onItsFirstWay(), impl.Daemon{Id: 3, Dead: true, Most: 5, Log: log})
	wantCrashed(t, bareDaemon(), impl.Daemon{Id: 3, Dead: true})
	wantCrashed(t, deadDaemon(), deadDaemon())
	wantCrashed(t, impl.Daemon{}, impl.Daemon{Dead: true})
	wantWoken(t, deadDaemon(), impl.Daemon{Id: 3, Most: 5, Log: log}, true)
	wantWoken(t, impl.Daemon{Id: 1, Dead: true}, impl.Daemon{Id: 1}, true)
	for _, d := range append(someDaemons(), oddDaemons()...) {
		if !d.Dead {
			wantWoken(t, d, impl.Daemon{}, false)
		}
		dead := wantCrashed(t, d, crashByHand(d))
		wantCrashed(t, dead, dead)
		woken := wantWoken(t, dead, impl.Daemon{Id: d.Id, Most: d.Most, Log: d.Log}, true)
		wantWoken(t, woken, impl.Daemon{}, false)
		// It never goes to a ring again that it went to, nor to one ahead of it.
		for conf := 1; conf <= 9; conf++ {
			if _, _, ok := wantMoveAsByHand(t, woken, impl.Ring{Id: conf, Members: upTo(5)}); ok != (conf > d.Most) {
				t.Errorf("%s, woken, goes to %d: %t", shownDaemon(woken), conf, ok)
			}
		}
	}
	for _, d := range wrongDaemons() {
		wantWoken(t, d, impl.Daemon{}, false)
		wantCrashed(t, d, crashByHand(d))
	}
	wantWoken(t, changed(deadDaemon(), func(d *impl.Daemon) { d.Most = 10 }), impl.Daemon{}, false)
	wantWoken(t, changed(onItsWay(), func(d *impl.Daemon) { d.Dead = true }), impl.Daemon{}, false)
}

// What no sentence asks of a daemon is not asked: of one that is not right the other sentences hold as they stand.
func TestDaemonsThatAreNotRight(t *testing.T) {
	rings := []impl.Ring{{Id: 9, Members: upTo(5)}, {Id: 9, Members: []int{3}}, {}}
	bundles := []impl.Bundle{{From: 4, New: 5, Old: 2, Items: itemsOf(4)}, {From: 2, New: 5}, {From: 3, New: 5, Old: 1, Items: itemsOf(1, 2)}, {From: 4, New: 10}, {}}
	tokens := []impl.Token{{Conf: 2, Round: 8, Seq: 5}, {Conf: 9, Round: 1}, {}}
	items := []impl.Item{itemOf(4), itemOf(1), itemOf(6), {}}
	for _, d := range slices.Concat(wrongDaemons(), someDaemons(), oddDaemons()) {
		wantAllAsByHand(t, d, rings, bundles, tokens, items)
	}
}

func strangeDaemons() []impl.Daemon {
	var list []impl.Daemon
	for _, n := range []int{math.MinInt, math.MinInt + 1, -1, 0, 6, 10, math.MaxInt - 1, math.MaxInt} {
		ring := impl.Ring{Id: n, Members: []int{n, n}}
		item := impl.Item{Seq: n, From: n, Level: n, Text: longText(200)}
		token := impl.Token{Conf: n, Round: n, Seq: n, Aru: n, By: n, Wants: []int{n, n}}
		mate := impl.Mate{Id: n, Ring: ring, Items: []impl.Item{item, item}, Level: []int{n}, Texts: []string{"", longText(100)}, Round: n, Seen: n, Line: n, Heard: n, Last: token}
		bundle := impl.Bundle{From: n, New: n, Old: n, Items: []impl.Item{item}}
		event := impl.Event{Kind: n, Ring: ring, Item: item, With: []int{n}}
		for _, dead := range []bool{false, true} {
			list = append(list, impl.Daemon{Id: n, Dead: dead, Mate: mate, Most: n, Old: n, Joining: ring, Bundles: []impl.Bundle{bundle, {}}, Log: []impl.Event{event, {}}}, impl.Daemon{Id: n, Dead: dead, Mate: mate, Most: n, Old: n})
			list = append(list, impl.Daemon{Id: 3, Dead: dead, Most: n, Old: n, Joining: impl.Ring{Id: 5, Members: []int{n}}}, impl.Daemon{Id: 3, Dead: dead, Old: n, Joining: impl.Ring{Id: 5}}, impl.Daemon{Id: 3, Dead: dead, Mate: impl.Mate{Ring: impl.Ring{Id: 5}}, Most: n})
		}
	}
	return list
}

func TestDaemonsAtStrangeArguments(t *testing.T) {
	wild := []int{math.MinInt, -1, 0, 5, 6, 10, math.MaxInt}
	rings := []impl.Ring{{}, {Id: 5, Members: make([]int, 3000)}}
	bundles := []impl.Bundle{{From: 4, New: 5, Old: 4, Items: itemsOf(1)}, {From: 3, New: 5}, {From: 1, New: 5}}
	var tokens []impl.Token
	var items []impl.Item
	for _, n := range wild {
		rings = append(rings, impl.Ring{Id: n, Members: []int{3}}, impl.Ring{Id: n, Members: []int{n}}, impl.Ring{Id: 9, Members: []int{n}})
		bundles = append(bundles, impl.Bundle{From: n, New: n, Old: n}, impl.Bundle{From: n, New: 5}, impl.Bundle{From: 1, New: 5, Old: n}, impl.Bundle{From: 1, New: n})
		tokens = append(tokens, impl.Token{Conf: n, Round: n, Seq: n, Aru: n, By: n}, impl.Token{Conf: n, Round: 1}, impl.Token{Conf: 2, Round: n}, impl.Token{Conf: 2, Round: 9, Seq: n})
		items = append(items, impl.Item{Seq: n, From: 1, Level: 1}, impl.Item{Seq: 1, From: n, Level: 1}, impl.Item{Seq: 1, From: 1, Level: n})
	}
	for _, d := range slices.Concat(strangeDaemons(), someDaemons(), []impl.Daemon{{}}) {
		wantAllAsByHand(t, d, rings, bundles, tokens, items)
		for _, n := range wild {
			wantSaidByAsByHand(t, d, n, "a")
			wantItemTakenAsByHand(t, d, n, itemOf(1))
		}
	}
}

// daemonCalls are few enough for every order of some of them to be tried with one daemon, 1.
func daemonCalls() []func(t *testing.T, d impl.Daemon) impl.Daemon {
	orAsItWas := func(d, after impl.Daemon, ok bool) impl.Daemon {
		if ok {
			return after
		}
		return d
	}
	move := func(id int, members ...int) func(t *testing.T, d impl.Daemon) impl.Daemon {
		return func(t *testing.T, d impl.Daemon) impl.Daemon {
			after, _, ok := wantMoveAsByHand(t, d, impl.Ring{Id: id, Members: members})
			return orAsItWas(d, after, ok)
		}
	}
	bundle := func(from, conf, old int, seqs ...int) func(t *testing.T, d impl.Daemon) impl.Daemon {
		return func(t *testing.T, d impl.Daemon) impl.Daemon {
			after, _ := wantTakenAsByHand(t, d, impl.Bundle{From: from, New: conf, Old: old, Items: itemsOf(seqs...)})
			return after
		}
	}
	token := func(k impl.Token) func(t *testing.T, d impl.Daemon) impl.Daemon {
		return func(t *testing.T, d impl.Daemon) impl.Daemon {
			after, _, _, _ := wantTokenTakenAsByHand(t, d, k)
			return after
		}
	}
	return []func(t *testing.T, d impl.Daemon) impl.Daemon{
		move(1, 1, 2), move(2, 1), move(3, 1, 2, 3), bundle(2, 1, 0), bundle(2, 3, 2, 1, 2), bundle(3, 3, 1, 1), bundle(2, 3, 1, 2, 3),
		func(t *testing.T, d impl.Daemon) impl.Daemon {
			if k, ok := wantFirstOfAsByHand(t, d); ok {
				return token(k)(t, d)
			}
			return d
		},
		token(impl.Token{Conf: 1, Round: 3, Seq: 1, Aru: 1}), func(t *testing.T, d impl.Daemon) impl.Daemon { return wantItemTakenAsByHand(t, d, 1, itemOf(2)) },
		func(t *testing.T, d impl.Daemon) impl.Daemon {
			after, ok := wantSaidByAsByHand(t, d, 1, "said")
			return orAsItWas(d, after, ok)
		},
		func(t *testing.T, d impl.Daemon) impl.Daemon { return wantCrashed(t, d, crashByHand(d)) },
		func(t *testing.T, d impl.Daemon) impl.Daemon {
			want, ok := wakeByHand(d)
			return orAsItWas(d, wantWoken(t, d, want, ok), ok)
		},
	}
}

// A call that changes nothing is passed over: what follows it follows the daemon as it was, too.
func TestDaemonsOfEveryFewCalls(t *testing.T) {
	calls := daemonCalls()
	rings, refused := map[int]int{}, map[string]int{}
	var goOn func(d impl.Daemon, left int)
	goOn = func(d impl.Daemon, left int) {
		rings[d.Old]++
		wantRefusalChangesNothing(t, d, refused)
		if left == 0 || t.Failed() {
			return
		}
		for _, call := range calls {
			after := call(t, d)
			wantDaemonOk(t, after, true)
			if !sameDaemon(after, d) {
				goOn(after, left-1)
			}
		}
	}
	d, _ := impl.DaemonNew(1)
	goOn(d, 9)
	if rings[1] < 3000 || rings[2] < 3000 || rings[3] < 3000 {
		t.Errorf("in which rings it came to be, how often: %v", rings)
	}
	enough(t, refused, 1000, "not right", "not below MaxNumber", "of another ring", "held already", "Dead", "on its way", "without a ring")
}

// sentTo is what is on its way to a daemon: one of the three.
type sentTo struct {
	to     int
	conf   int
	item   impl.Item
	token  impl.Token
	bundle impl.Bundle
}

// daemonLife is five daemons, between whom things are lost, come twice and late; rings are those that they go to.
type daemonLife struct {
	rings    []impl.Ring
	daemons  map[int]impl.Daemon
	way      []sentTo
	numbered map[int][]impl.Item
	texts    int
	seen     map[string]int
}

func newDaemonLife(t *testing.T, rings []impl.Ring) *daemonLife {
	t.Helper()
	w := &daemonLife{rings: rings, daemons: map[int]impl.Daemon{}, numbered: map[int][]impl.Item{}, seen: map[string]int{}}
	for _, id := range upTo(5) {
		d, ok := impl.DaemonNew(id)
		if !ok {
			t.Fatalf("DaemonNew(%d) is false", id)
		}
		w.daemons[id] = d
	}
	return w
}

func drawnRings(l *lot) []impl.Ring {
	var rings []impl.Ring
	all := rightRings()[:31]
	for id := 1; id <= 9; id++ {
		r := all[l.below(31)]
		for len(r.Members) < 3 && l.below(3) > 0 {
			r = all[l.below(31)]
		}
		rings = append(rings, impl.Ring{Id: id, Members: r.Members})
	}
	return rings
}

func (w *daemonLife) tell(r impl.Ring, from int, list []impl.Item) {
	for _, x := range list {
		for _, d := range r.Members {
			if d != from {
				w.way = append(w.way, sentTo{to: d, conf: r.Id, item: x})
			}
		}
	}
}

func (w *daemonLife) takeToken(t *testing.T, id int, k impl.Token) {
	t.Helper()
	d := w.daemons[id]
	after, said, next, ok := wantTokenTakenAsByHand(t, d, k)
	w.daemons[id] = after
	if !ok {
		w.seen["token refused"]++
		return
	}
	w.seen["token"]++
	w.tell(d.Mate.Ring, id, said)
	w.way = append(w.way, sentTo{to: impl.NextOf(d.Mate.Ring, id), conf: k.Conf, token: next})
	for _, x := range said {
		if x.Seq > k.Seq {
			w.numbered[k.Conf] = append(w.numbered[k.Conf], x)
		}
	}
}

func (w *daemonLife) come(t *testing.T, s sentTo) {
	t.Helper()
	switch d := w.daemons[s.to]; {
	case s.bundle.From != 0:
		after, ok := wantTakenAsByHand(t, d, s.bundle)
		w.daemons[s.to] = after
		w.seen[fmt.Sprintf("bundle %t", ok)]++
		if after.Old != d.Old {
			w.seen["installed"]++
		}
	case s.token.Conf != 0:
		w.takeToken(t, s.to, s.token)
	default:
		w.daemons[s.to] = wantItemTakenAsByHand(t, d, s.conf, s.item)
		w.seen["item"]++
	}
}

func (w *daemonLife) move(t *testing.T, id int, r impl.Ring) {
	t.Helper()
	d := w.daemons[id]
	after, told, ok := wantMoveAsByHand(t, d, r)
	if !ok {
		w.seen["move refused"]++
		return
	}
	w.seen["move"]++
	if d.Joining.Id != 0 {
		w.seen["move on the way"]++
	}
	w.daemons[id] = after
	for _, other := range r.Members {
		if other != id {
			w.way = append(w.way, sentTo{to: other, bundle: told[0]})
			told = told[1:]
		}
	}
	if len(told) > 0 {
		t.Errorf("Move to %v told %d too many", r, len(told))
	}
}

func (w *daemonLife) again(id int) {
	d := w.daemons[id]
	if d.Mate.Last.Conf == 0 || d.Joining.Id != 0 {
		return
	}
	w.way = append(w.way, sentTo{to: impl.NextOf(d.Mate.Ring, id), conf: d.Old, token: d.Mate.Last})
	w.tell(d.Mate.Ring, id, slices.DeleteFunc(slices.Clone(d.Mate.Items), func(x impl.Item) bool { return x.From != id }))
}

func (w *daemonLife) say(t *testing.T, l *lot, id int) {
	t.Helper()
	w.texts++
	if after, ok := wantSaidByAsByHand(t, w.daemons[id], 1+l.below(2), fmt.Sprintf("%d of %d", w.texts, id)); ok {
		w.daemons[id] = after
	}
}

// fallOrWake asks each one to wake, so that nobody lies for long; a second fall changes nothing.
func (w *daemonLife) fallOrWake(t *testing.T, l *lot, id int) {
	t.Helper()
	for _, each := range upTo(5) {
		want, ok := wakeByHand(w.daemons[each])
		if after := wantWoken(t, w.daemons[each], want, ok); ok && l.below(3) > 0 {
			w.daemons[each] = after
			w.seen["wake"]++
		}
	}
	if l.below(2) == 0 {
		w.daemons[id] = wantCrashed(t, w.daemons[id], crashByHand(w.daemons[id]))
		w.seen["crash"]++
	}
}

// carry takes the first one mostly, so that things come to pass.
func (w *daemonLife) carry(t *testing.T, l *lot, late int) {
	t.Helper()
	place := 0
	if l.below(100) < late {
		place = l.below(len(w.way))
	}
	s := w.way[place]
	if l.below(12) > 0 {
		w.way = slices.Delete(w.way, place, place+1)
	}
	w.come(t, s)
}

func (w *daemonLife) step(t *testing.T, l *lot, late int) {
	t.Helper()
	id := 1 + l.below(5)
	switch pick := l.below(100); {
	case pick < 12:
		w.say(t, l, id)
	case pick < 22:
		if k, ok := wantFirstOfAsByHand(t, w.daemons[id]); ok {
			w.takeToken(t, id, k)
			w.seen["first"]++
		}
	case pick < 24 || len(w.way) == 0:
		w.again(id)
	case pick < 26:
		w.fallOrWake(t, l, id)
	case pick == 26:
		place := l.below(len(w.way))
		w.way = slices.Delete(w.way, place, place+1)
	default:
		w.carry(t, l, late)
	}
}

// goTo lets members of a ring go to it, now and then not all of them; some things come in between.
func (w *daemonLife) goTo(t *testing.T, l *lot, r impl.Ring, late int) {
	t.Helper()
	for _, id := range shuffled(l, r.Members) {
		if l.below(12) > 0 {
			w.move(t, id, r)
		}
		for range l.below(6) {
			w.step(t, l, late)
		}
	}
}

// strange comes from nobody: drawn things, right and wrong, of rings that are and that are not.
func (w *daemonLife) strange(t *testing.T, l *lot) {
	t.Helper()
	id := 1 + l.below(5)
	d := w.daemons[id]
	near := []int{d.Old, d.Joining.Id, d.Most, d.Most + 1, l.below(11)}[l.below(5)]
	switch l.below(4) {
	case 0:
		b := drawnBundle(l, impl.Ring{Id: near})
		w.come(t, sentTo{to: id, bundle: changedBundle(b, l, d)})
	case 1:
		k := drawnToken(l)
		if l.below(4) > 0 {
			k.Conf = near
		}
		w.takeToken(t, id, k)
	case 2:
		w.come(t, sentTo{to: id, conf: near, item: drawnItem(l)})
	default:
		r := impl.Ring{Id: near, Members: rightRings()[l.below(31)].Members}
		if after, _, ok := wantMoveAsByHand(t, d, r); ok && l.below(3) == 0 {
			w.daemons[id] = after
		}
	}
}

// changedBundle is of somebody who is wanted, mostly.
func changedBundle(b impl.Bundle, l *lot, d impl.Daemon) impl.Bundle {
	if n := len(d.Joining.Members); n > 0 && l.below(3) > 0 {
		b.From = d.Joining.Members[l.below(n)]
	}
	if b.From == 0 {
		b.From = 1
	}
	return b
}

func (w *daemonLife) hold(t *testing.T) {
	t.Helper()
	for _, id := range upTo(5) {
		wantDaemonOk(t, w.daemons[id], true)
	}
}

func (w *daemonLife) refuse(t *testing.T) {
	t.Helper()
	for _, id := range upTo(5) {
		wantRefusalChangesNothing(t, w.daemons[id], w.seen)
	}
}

func enough(t *testing.T, seen map[string]int, least int, what ...string) {
	t.Helper()
	for _, thing := range what {
		if seen[thing] < least {
			t.Errorf("%q came to pass %d times: too few to tell; all: %v", thing, seen[thing], seen)
		}
	}
}

func addTo(seen, more map[string]int) {
	for thing, often := range more {
		seen[thing] += often
	}
}

// Promise 14, whatever comes: also what nobody ever said.
func TestDaemonsStayRightWhateverComes(t *testing.T) {
	l := &lot{14}
	seen := map[string]int{}
	for range 400 {
		w := newDaemonLife(t, drawnRings(l))
		for _, r := range w.rings {
			w.goTo(t, l, r, 40)
			for range 10 + l.below(60) {
				if l.below(4) == 0 {
					w.strange(t, l)
				} else {
					w.step(t, l, 40)
				}
				w.hold(t)
			}
		}
		w.refuse(t)
		addTo(seen, w.seen)
	}
	enough(t, seen, 200, "token", "token refused", "item", "bundle true", "bundle false", "installed", "move", "move on the way", "first", "crash", "wake")
	enough(t, seen, 50, "not right", "not below MaxNumber", "of another ring", "held already", "Dead", "on its way", "without a ring")
}

// heardIn are the items of a ring, in order, and whether there is an IsPart of it, and with whom.
func heardIn(log []impl.Event, conf int) ([]impl.Item, []int) {
	var list []impl.Item
	var with []int
	for _, e := range log {
		if e.Ring.Id == conf && e.Kind == impl.IsItem {
			list = append(list, e.Item)
		}
		if e.Ring.Id == conf && e.Kind == impl.IsPart {
			with = e.With
		}
	}
	return list, with
}

// nextWhole is the ring that began behind the end of this one; 0 when none did.
func nextWhole(log []impl.Event, conf int) int {
	ended := false
	for _, e := range log {
		if ended && e.Kind == impl.IsWhole {
			return e.Ring.Id
		}
		ended = ended || e.Kind == impl.IsPart && e.Ring.Id == conf
	}
	return 0
}

// wantOneOrderOfLogs: what is heard in a ring is a beginning of what was numbered there, and who goes on together heard the same.
func (w *daemonLife) wantOneOrderOfLogs(t *testing.T) {
	t.Helper()
	for conf := 1; conf <= 9; conf++ {
		for _, id := range upTo(5) {
			heard, with := heardIn(w.daemons[id].Log, conf)
			if all := w.numbered[conf]; len(heard) > len(all) || !slices.Equal(heard, all[:len(heard)]) {
				t.Errorf("in ring %d %d heard %s; numbered were %s", conf, id, shownItems(heard), shownItems(all))
			}
			next := nextWhole(w.daemons[id].Log, conf)
			for _, other := range with {
				list, otherWith := heardIn(w.daemons[other].Log, conf)
				if next == 0 || other == id || nextWhole(w.daemons[other].Log, conf) != next {
					continue
				}
				w.seen["together"]++
				if !slices.Equal(list, heard) || !slices.Equal(with, otherWith) {
					t.Errorf("from ring %d to %d %d goes on with %v and heard %s; %d with %v and heard %s", conf, next, id, with, shownItems(heard), other, otherWith, shownItems(list))
				}
				if len(list) > 0 {
					w.seen["together behind something"]++
				}
			}
		}
	}
}

// In lives where nothing comes that was not said, Logs are in one order.
func TestDaemonsInDrawnLives(t *testing.T) {
	l := &lot{1414}
	seen := map[string]int{}
	for range 600 {
		w := newDaemonLife(t, drawnRings(l))
		late := []int{0, 5, 50}[l.below(3)]
		for _, r := range w.rings {
			w.goTo(t, l, r, late)
			for range 10 + l.below(80) {
				w.step(t, l, late)
			}
		}
		w.hold(t)
		w.refuse(t)
		w.wantOneOrderOfLogs(t)
		addTo(seen, w.seen)
	}
	enough(t, seen, 200, "token", "token refused", "item", "bundle true", "bundle false", "installed", "move", "move on the way", "first", "crash", "wake", "together")
	enough(t, seen, 50, "together behind something")
}

func drawnDaemon(l *lot) impl.Daemon {
	list := [][]impl.Daemon{someDaemons(), oddDaemons(), {{Id: 1 + l.below(5), Most: l.below(10)}}}[l.below(3)]
	d := list[l.below(len(list))]
	if l.below(2) == 0 {
		m := drawnMate(l)
		d = impl.Daemon{Id: m.Id, Mate: m, Most: m.Ring.Id + l.below(5), Old: m.Ring.Id, Log: someLog()}
	}
	if l.below(2) == 0 {
		d.Joining = impl.Ring{Id: 1 + l.below(9), Members: rightRings()[l.below(31)].Members}
		d.Most = max(d.Most, d.Joining.Id)
		d.Bundles = nil
		for range l.below(6) {
			d.Bundles = append(d.Bundles, changedBundle(drawnBundle(l, d.Joining), l, d))
		}
	}
	if l.below(12) == 0 {
		d.Dead = !d.Dead
	}
	return d
}

func TestDaemonsInDrawnArguments(t *testing.T) {
	l := &lot{141}
	right, done := map[bool]int{}, map[string]int{}
	for range 5000 {
		d := drawnDaemon(l)
		right[daemonRightByHand(d)]++
		wantDaemonOk(t, d, daemonRightByHand(d))
		r := impl.Ring{Id: 1 + l.below(9), Members: rightRings()[l.below(31)].Members}
		_, _, moved := wantMoveAsByHand(t, d, r)
		b := changedBundle(drawnBundle(l, d.Joining), l, d)
		after, taken := wantTakenAsByHand(t, d, b)
		k := drawnToken(l)
		k.Conf = d.Mate.Ring.Id
		_, _, _, held := wantTokenTakenAsByHand(t, d, k)
		wantItemTakenAsByHand(t, d, d.Mate.Ring.Id, drawnItem(l))
		_, said := wantSaidByAsByHand(t, d, l.below(4), longText(l.below(63)))
		_, first := wantFirstOfAsByHand(t, d)
		for what, ok := range map[string]bool{"moved": moved, "taken": taken, "installed": taken && after.Old != d.Old, "held": held, "said": said, "first": first} {
			if ok {
				done[what]++
			}
		}
	}
	if right[true] < 1000 || right[false] < 1000 {
		t.Errorf("right were %v: too few to tell", right)
	}
	enough(t, done, 100, "moved", "taken", "installed", "held", "said")
}

// daemonsToLookAt are right and wrong ones, with lists of several sizes.
func daemonsToLookAt() []impl.Daemon {
	list := slices.Concat(someDaemons(), oddDaemons(), []impl.Daemon{{}})
	for i, d := range wrongDaemons() {
		if i%40 == 0 {
			list = append(list, d)
		}
	}
	for i, d := range strangeDaemons() {
		if i%6 == 0 {
			list = append(list, d)
		}
	}
	return list
}

func TestDaemonsLeaveArgumentsAlone(t *testing.T) {
	for _, plain := range daemonsToLookAt() {
		k := &keeper{}
		d, text := kept(k, plain), kept(k, "said")
		rings := kept(k, []impl.Ring{{Id: 9, Members: upTo(5)}, {Id: 9, Members: []int{3}}, {Id: 6, Members: []int{1, 3}}, {Id: 1, Members: []int{3}}, {Id: 9, Members: []int{3, 1}}})
		bundles := kept(k, []impl.Bundle{{From: 4, New: 5, Old: 2, Items: itemsOf(4, 6)}, {From: 2, New: 5, Old: 2, Items: itemsOf(4)}, {From: 1, New: 5}, {From: 4, New: 9, Old: 8, Items: fullItems()}, {From: 4, New: 5, Old: 2, Items: wrongItems()}})
		tokens := kept(k, []impl.Token{{Conf: 2, Round: 8, Seq: 6, Aru: 5, Wants: []int{1, 2, 4}}, {Conf: 2, Round: 7}, {Conf: 2, Round: 9, Seq: 2, Wants: []int{2, 1}}})
		items := kept(k, []impl.Item{itemOf(4), itemOf(6), itemOf(1), {Text: longText(61)}})
		k.ready()
		if !sameDaemon(d, plain) || impl.DaemonOk(d) != daemonRightByHand(plain) {
			t.Errorf("DaemonOk(%s) looks into spare room", shownDaemon(plain))
		}
		k.untouched(t, "DaemonOk")
		fallen, other := impl.Crash(d), impl.Crash(d)
		k.untouched(t, "Crash", fallen, other)
		woken, _ := impl.Wake(d)
		again, _ := impl.Wake(d)
		k.untouched(t, "Wake", woken, again)
		first, _ := impl.FirstOf(d)
		k.untouched(t, "FirstOf", first)
		said, _ := impl.SayDaemon(d, 1, text)
		told, _ := impl.SayDaemon(d, 1, text)
		k.untouched(t, "SayDaemon", said, told)
		for _, r := range rings {
			moved, sent, _ := impl.Move(d, r)
			twice, sentAgain, _ := impl.Move(d, r)
			k.untouched(t, "Move", moved, sent, twice, sentAgain)
		}
		for _, b := range bundles {
			taken, _ := impl.TakeBundle(d, b)
			twice, _ := impl.TakeBundle(d, b)
			k.untouched(t, "TakeBundle", taken, twice)
		}
		for _, token := range tokens {
			held, said, next, _ := impl.TakeToken(d, token)
			twice, saidAgain, nextAgain, _ := impl.TakeToken(d, token)
			k.untouched(t, "TakeToken", held, said, next, twice, saidAgain, nextAgain)
		}
		for _, x := range items {
			caught, twice := impl.TakeItem(d, 2, x), impl.TakeItem(d, 2, x)
			k.untouched(t, "TakeItem", caught, twice, impl.TakeItem(d, 3, x))
		}
	}
}

// One list may stand in many fields of a daemon, and in what comes to it: the answer has one for each.
func TestDaemonsPartOneListInMany(t *testing.T) {
	one, items, texts := []int{1, 2}, itemsOf(1, 2), []string{"a", "b"}
	r := impl.Ring{Id: 2, Members: one}
	log := []impl.Event{{Kind: 3, Ring: r, With: one}, {Kind: 1, Ring: r, Item: items[0]}, {Kind: 2, Ring: r, With: one}}
	mate := impl.Mate{Id: 1, Ring: r, Items: items, Level: one, Texts: texts, Last: impl.Token{Conf: 2, Round: 1, Seq: 2, Wants: one}}
	in := impl.Daemon{Id: 1, Mate: mate, Most: 2, Old: 2, Log: log}
	on := in
	on.Most, on.Joining, on.Bundles = 3, impl.Ring{Id: 3, Members: one}, []impl.Bundle{{From: 1, New: 3, Old: 2, Items: items}}
	k := &keeper{}
	k.ready()
	wantDaemonOk(t, in, true)
	wantDaemonOk(t, on, true)
	moved, told, _ := wantMoveOf(t, in, impl.Ring{Id: 4, Members: upTo(3)})
	k.untouched(t, "Move", moved, told)
	alone, _, _ := impl.Move(on, impl.Ring{Id: 4, Members: one[:1]})
	k.untouched(t, "Move alone", alone)
	held, said, next, _ := impl.TakeToken(in, impl.Token{Conf: 2, Round: 5, Seq: 2, Aru: 2, Wants: one})
	k.untouched(t, "TakeToken", held, said, next)
	installed, _ := impl.TakeBundle(on, impl.Bundle{From: 2, New: 3, Old: 2, Items: items})
	k.untouched(t, "TakeBundle", installed)
	for _, d := range []impl.Daemon{in, on, {Id: 1, Dead: true, Most: 3, Log: log}} {
		refused, _ := impl.TakeBundle(d, impl.Bundle{})
		k.untouched(t, "TakeBundle of nothing", refused)
		asItWas, said, next, _ := impl.TakeToken(d, impl.Token{Conf: 3, Round: 1, Seq: 2, Wants: one})
		k.untouched(t, "TakeToken of another ring", asItWas, said, next)
		late, _, _, _ := impl.TakeToken(d, impl.Token{})
		k.untouched(t, "TakeToken of nothing", late)
		k.untouched(t, "TakeItem", impl.TakeItem(d, 2, items[1]), impl.TakeItem(d, 9, items[1]))
		spoken, _ := impl.SayDaemon(d, 1, texts[0])
		k.untouched(t, "SayDaemon", spoken)
		k.untouched(t, "Crash", impl.Crash(d))
		woken, _ := impl.Wake(d)
		k.untouched(t, "Wake", woken)
	}
}

func wantMoveOf(t *testing.T, d impl.Daemon, r impl.Ring) (impl.Daemon, []impl.Bundle, bool) {
	t.Helper()
	wantMoveAsByHand(t, d, r)
	return impl.Move(d, r)
}

func TestDaemonsDoNotLookIntoSpareRoom(t *testing.T) {
	members, items, bundles := []int{1, 3, 4}, itemsOf(1, 2, 2), []impl.Bundle{{From: 1, New: 5, Old: 2, Items: itemsOf(1)}, {From: 3, New: 5, Old: 2}, {From: 4, New: 7}}
	log := []impl.Event{{Kind: 1}, {Kind: 2}}
	d := impl.Daemon{Id: 1, Most: 5, Joining: impl.Ring{Id: 5, Members: members[:2]}, Bundles: bundles[:1], Log: log[:1]}
	wantDaemonOk(t, d, true)
	d.Bundles = bundles
	wantDaemonOk(t, d, false)
	d.Bundles = bundles[:1]
	wantTakenAsByHand(t, d, impl.Bundle{From: 3, New: 5, Old: 2})
	if bundles[1].Old != 2 || log[1].Kind != 2 {
		t.Error("something was written into spare room")
	}
	d = impl.Daemon{Id: 1, Mate: impl.Mate{Id: 1, Ring: impl.Ring{Id: 2, Members: members[:2]}, Items: items[:2]}, Most: 2, Old: 2, Log: log[:1]}
	wantMoveAsByHand(t, d, impl.Ring{Id: 5, Members: members[:2]})
	wantMoveAsByHand(t, d, impl.Ring{Id: 5, Members: members[:1]})
	wantTokenTakenAsByHand(t, d, impl.Token{Conf: 2, Round: 1})
	wantItemTakenAsByHand(t, d, 2, itemOf(3))
	wantNotMoved(t, impl.Daemon{Id: 4}, impl.Ring{Id: 5, Members: members[:2]})
	if !slices.Equal(items, itemsOf(1, 2, 2)) || log[1].Kind != 2 || members[2] != 4 {
		t.Error("something was written into spare room")
	}
}

func TestTwoFromOneDaemon(t *testing.T) {
	d := inRing()
	left, _ := impl.SayDaemon(d, 1, "left")
	right, _ := impl.SayDaemon(d, 2, "right")
	one, two := impl.TakeItem(left, 2, itemOf(4)), impl.TakeItem(left, 2, otherOf(4))
	if left.Mate.Texts[2] != "left" || right.Mate.Texts[2] != "right" || len(left.Log) != len(d.Log) || !slices.Contains(one.Mate.Items, itemOf(4)) || !slices.Contains(two.Mate.Items, otherOf(4)) {
		t.Errorf("two from one: %s and %s", shownDaemon(one), shownDaemon(two))
	}
	east, _, _ := impl.Move(one, impl.Ring{Id: 4, Members: []int{3}})
	west, _, _ := impl.Move(one, impl.Ring{Id: 5, Members: []int{3}})
	if east.Log[len(east.Log)-1].Ring.Id != 4 || west.Log[len(west.Log)-1].Ring.Id != 5 {
		t.Errorf("two from one: %s and %s", shownLog(east.Log), shownLog(west.Log))
	}
	on, _, _ := impl.Move(one, impl.Ring{Id: 4, Members: []int{1, 2, 3}})
	first, _ := impl.TakeBundle(on, impl.Bundle{From: 1, New: 4})
	second, _ := impl.TakeBundle(on, impl.Bundle{From: 2, New: 4})
	if first.Bundles[1].From != 1 || second.Bundles[1].From != 2 || len(on.Bundles) != 1 {
		t.Errorf("two from one: %s and %s", shownDaemon(first), shownDaemon(second))
	}
	if !sameDaemon(d, inRing()) {
		t.Errorf("the daemon became %s", shownDaemon(d))
	}
}

func TestDaemonsKeepNothing(t *testing.T) {
	for range 3 {
		d := onItsWay()
		wantAllAsByHand(t, d, []impl.Ring{{Id: 6, Members: []int{3}}, {Id: 4, Members: []int{3}}}, []impl.Bundle{{From: 4, New: 5, Old: 2}, {}}, nil, nil)
		wantAllAsByHand(t, inRing(), nil, nil, []impl.Token{{Conf: 2, Round: 8, Seq: 5}, {Conf: 2, Round: 7}}, itemsOf(4, 4))
		here, _ := impl.TakeBundle(d, impl.Bundle{From: 4, New: 5, Old: 2})
		here.Log[0], here.Mate.Ring.Members[0], here.Log[len(here.Log)-1].With[0] = impl.Event{}, 9, 9
		moved, told, _ := impl.Move(d, impl.Ring{Id: 7, Members: []int{3, 4}})
		moved.Bundles[0].Items[0], told[0].Items[1], moved.Joining.Members[0] = impl.Item{}, impl.Item{}, 9
		if !sameDaemon(d, onItsWay()) {
			t.Errorf("the daemon became %s", shownDaemon(d))
		}
		made, _ := impl.DaemonNew(3)
		made.Most = 9
		wantDaemonNew(t, 3, impl.Daemon{Id: 3}, true)
	}
}
