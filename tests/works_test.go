package tests

import (
	"bytes"
	"cmp"
	"fmt"
	"math"
	"reflect"
	"slices"
	"strings"
	"testing"
	"unsafe"

	"loop.example/g00183/impl"
)

func turnRightByHand(r impl.Ring, e impl.Turn) bool {
	if !ringRightByHand(r) || !slices.Contains(r.Members, e.Id) || e.At < 0 {
		return false
	}
	switch e.Kind {
	case 1:
		return (e.Level == 1 || e.Level == 2) && len(e.Text) <= 60
	case 2, 3, 4, 5, 6, 7:
		return e.Level == 0 && len(e.Text) == 0
	}
	return false
}

// workLife is a ring at work by the chapter's sentences alone; it has its members by their Ids.
type workLife struct {
	ring  impl.Ring
	mates map[int]impl.Mate
	heard map[int][]impl.Item
	way   []impl.Fly
	said  []impl.Item
	held  int
	stale int
	given int
}

// lifeOf is for a Work with a right ring, a Mate of each member, and as many lists in Heard.
func lifeOf(w impl.Work) *workLife {
	l := &workLife{ring: w.Ring, mates: map[int]impl.Mate{}, heard: map[int][]impl.Item{}, way: slices.Clone(w.Flying), said: slices.Clone(w.Said)}
	for i, d := range w.Ring.Members {
		l.mates[d], l.heard[d] = w.Mates[i], slices.Clone(w.Heard[i])
	}
	return l
}

func newWorkLife(r impl.Ring) *workLife {
	l := &workLife{ring: r, mates: map[int]impl.Mate{}, heard: map[int][]impl.Item{}}
	for _, d := range r.Members {
		l.mates[d] = impl.Mate{Id: d, Ring: r}
	}
	l.way = []impl.Fly{{To: r.Members[0], Token: true, Tok: impl.Token{Conf: r.Id, Round: 1}}}
	return l
}

func (l *workLife) work() impl.Work {
	w := impl.Work{Ring: l.ring, Flying: slices.Clone(l.way), Said: slices.Clone(l.said)}
	for _, d := range l.ring.Members {
		w.Mates = append(w.Mates, l.mates[d])
		w.Heard = append(w.Heard, slices.Clone(l.heard[d]))
	}
	return w
}

func (l *workLife) tell(from int, list []impl.Item) {
	for _, x := range list {
		for _, d := range l.ring.Members {
			if d != from {
				l.way = append(l.way, impl.Fly{To: d, Item: x})
			}
		}
	}
}

func (l *workLife) pass(from int, k impl.Token) {
	l.way = append(l.way, impl.Fly{To: nextByHand(l.ring, from), Token: true, Tok: k})
}

func (l *workLife) come(place int) int {
	f := l.way[place]
	l.way = slices.Delete(slices.Clone(l.way), place, place+1)
	if !f.Token {
		l.mates[f.To] = catchByHand(l.mates[f.To], f.Item)
		return 0
	}
	m, said, next, ok := holdByHand(l.mates[f.To], f.Tok)
	if !ok {
		l.stale++
		return 1
	}
	l.held++
	l.mates[f.To] = m
	for _, x := range said {
		if x.Seq > f.Tok.Seq {
			l.said = append(l.said, x)
		} else {
			l.given++
		}
	}
	l.tell(f.To, said)
	l.pass(f.To, next)
	return 0
}

func (l *workLife) again(d int) int {
	m := l.mates[d]
	if sameToken(m.Last, impl.Token{}) {
		return 1
	}
	l.pass(d, m.Last)
	l.tell(d, slices.DeleteFunc(slices.Clone(m.Items), func(x impl.Item) bool { return x.From != d }))
	return 0
}

func (l *workLife) hear(d int) {
	m, items := hearByHand(l.mates[d])
	l.mates[d] = m
	l.heard[d] = append(l.heard[d], items...)
}

func (l *workLife) turn(e impl.Turn) int {
	switch e.Kind {
	case 1:
		m, ok := sayByHand(l.mates[e.Id], e.Level, e.Text)
		if !ok {
			return 1
		}
		l.mates[e.Id] = m
		return 0
	case 6:
		return l.again(e.Id)
	case 7:
		l.hear(e.Id)
		return 0
	}
	if len(l.way) == 0 {
		return 1
	}
	place := e.At % len(l.way)
	switch e.Kind {
	case 4:
		l.way = slices.Delete(slices.Clone(l.way), place, place+1)
	case 5:
		l.way = append(l.way, l.way[place])
	default:
		return l.come(place)
	}
	return 0
}

func (l *workLife) quiet(steps int) {
	for range min(steps, 5000) {
		if len(l.way) > 0 {
			l.come(0)
			continue
		}
		for _, d := range l.ring.Members {
			l.again(d)
		}
	}
	for _, d := range l.ring.Members {
		l.hear(d)
	}
}

func runByHand(r impl.Ring, events []impl.Turn) (impl.Work, []int, bool) {
	if !ringRightByHand(r) || len(events) > 90 || slices.ContainsFunc(events, func(e impl.Turn) bool { return !turnRightByHand(r, e) }) {
		return impl.Work{}, nil, false
	}
	l := newWorkLife(r)
	var numbers []int
	for _, e := range events {
		numbers = append(numbers, l.turn(e))
	}
	return l.work(), numbers, true
}

// oneOrderByHand holds any two lists against each other.
func oneOrderByHand(lists [][]impl.Item) bool {
	for i, a := range lists {
		for _, b := range lists[:i] {
			if n := min(len(a), len(b)); !slices.Equal(a[:n], b[:n]) {
				return false
			}
		}
	}
	return true
}

func safeHeardByHand(w impl.Work) bool {
	for _, x := range slices.Concat(w.Heard...) {
		for _, m := range w.Mates {
			if x.Level == 2 && !slices.Contains(m.Items, x) {
				return false
			}
		}
	}
	return true
}

func sameFly(a, b impl.Fly) bool {
	return a.To == b.To && a.Token == b.Token && sameToken(a.Tok, b.Tok) && a.Item == b.Item
}

func sameWork(a, b impl.Work) bool {
	return a.Ring.Id == b.Ring.Id && slices.Equal(a.Ring.Members, b.Ring.Members) && slices.EqualFunc(a.Mates, b.Mates, sameMate) &&
		slices.EqualFunc(a.Flying, b.Flying, sameFly) && slices.EqualFunc(a.Heard, b.Heard, slices.Equal[[]impl.Item]) && slices.Equal(a.Said, b.Said)
}

func shownFly(f impl.Fly) string {
	if f.Token {
		return fmt.Sprintf("%d<%+v %s", f.To, f.Tok, strings.TrimPrefix(shownItem(f.Item), `{0 0 0 ""}`))
	}
	return fmt.Sprintf("%d<%s %s", f.To, shownItem(f.Item), strings.TrimPrefix(fmt.Sprint(f.Tok), "{0 0 0 0 0 []}"))
}

func shownWork(w impl.Work) string {
	var b strings.Builder
	fmt.Fprintf(&b, "{Ring %.80s", fmt.Sprint(w.Ring))
	for _, m := range w.Mates[:min(len(w.Mates), 8)] {
		fmt.Fprintf(&b, "\n  %s", shownMate(m))
	}
	fmt.Fprintf(&b, "\n  Flying %d of", len(w.Flying))
	for _, f := range w.Flying[:min(len(w.Flying), 25)] {
		fmt.Fprintf(&b, " %s", shownFly(f))
	}
	fmt.Fprintf(&b, "\n  Heard %d of", len(w.Heard))
	for _, list := range w.Heard[:min(len(w.Heard), 8)] {
		fmt.Fprintf(&b, " %s", shown(seqsOf(list)))
	}
	fmt.Fprintf(&b, "\n  Said %s}", shownItems(w.Said))
	return b.String()
}

func wantTurnOk(t *testing.T, r impl.Ring, e impl.Turn, want bool) {
	t.Helper()
	if got := impl.TurnOk(r, e); got != want {
		t.Errorf("TurnOk(%.80s, {%d %d %d %d %.70q}): %t; want %t", fmt.Sprint(r), e.Kind, e.Id, e.At, e.Level, e.Text, got, want)
	}
}

func wantWorkNew(t *testing.T, r impl.Ring, want impl.Work, wantOk bool) {
	t.Helper()
	if got, ok := impl.WorkNew(r); !sameWork(got, want) || ok != wantOk {
		t.Errorf("WorkNew(%.80s): %s, %t; want %s, %t", fmt.Sprint(r), shownWork(got), ok, shownWork(want), wantOk)
	}
}

func wantRun(t *testing.T, r impl.Ring, events []impl.Turn, want impl.Work, wantNumbers []int, wantOk bool) impl.Work {
	t.Helper()
	got, numbers, ok := impl.RunWork(r, events)
	if !sameWork(got, want) || !slices.Equal(numbers, wantNumbers) || ok != wantOk {
		t.Errorf("RunWork(%.80s, %.4000s):\n%s, %v, %t; want\n%s, %v, %t", fmt.Sprint(r), fmt.Sprint(events), shownWork(got), numbers, ok, shownWork(want), wantNumbers, wantOk)
	}
	return got
}

func wantNotRun(t *testing.T, r impl.Ring, events []impl.Turn) {
	t.Helper()
	wantRun(t, r, events, impl.Work{}, nil, false)
}

func wantRunAsByHand(t *testing.T, r impl.Ring, events ...impl.Turn) impl.Work {
	t.Helper()
	want, numbers, ok := runByHand(r, events)
	return wantRun(t, r, events, want, numbers, ok)
}

// wantNumbersOf holds the answer of events against the reckoning by hand, and their numbers against those that a test names.
func wantNumbersOf(t *testing.T, r impl.Ring, events []impl.Turn, want ...int) impl.Work {
	t.Helper()
	w := wantRunAsByHand(t, r, events...)
	if _, numbers, _ := impl.RunWork(r, events); !slices.Equal(numbers, want) {
		t.Errorf("RunWork(%v, %v): numbers %v; want %v", r, events, numbers, want)
	}
	return w
}

func wantFlying(t *testing.T, w impl.Work, want ...impl.Fly) {
	t.Helper()
	if !slices.EqualFunc(w.Flying, want, sameFly) {
		t.Errorf("on the way: %s; want %s", shownWork(w), shownWork(impl.Work{Flying: want}))
	}
}

func wantQuiet(t *testing.T, w impl.Work, steps int, want impl.Work) impl.Work {
	t.Helper()
	got := impl.Quiet(w, steps)
	if !sameWork(got, want) {
		t.Errorf("Quiet(%s, %d):\n%s; want\n%s", shownWork(w), steps, shownWork(got), shownWork(want))
	}
	return got
}

func wantQuietAsByHand(t *testing.T, w impl.Work, steps int) impl.Work {
	t.Helper()
	l := lifeOf(w)
	l.quiet(steps)
	return wantQuiet(t, w, steps, l.work())
}

func wantOneOrder(t *testing.T, want bool, lists ...[]impl.Item) {
	t.Helper()
	if got := impl.OneOrder(lists); got != want {
		t.Errorf("OneOrder(%.400s): %t; want %t", fmt.Sprint(lists), got, want)
	}
}

func wantSafeHeard(t *testing.T, w impl.Work, want bool) {
	t.Helper()
	if got := impl.SafeHeard(w); got != want {
		t.Errorf("SafeHeard(%s): %t; want %t", shownWork(w), got, want)
	}
}

// wantPromiseOfWork holds the promise itself, without a reckoning of what was done.
func wantPromiseOfWork(t *testing.T, w impl.Work) {
	t.Helper()
	for _, m := range w.Mates {
		if !mateRightByHand(m) || !impl.MateOk(m) {
			t.Errorf("a member is not right any more: %s", shownMate(m))
		}
		if slices.ContainsFunc(m.Items, func(x impl.Item) bool { return !slices.Contains(w.Said, x) }) {
			t.Errorf("%d has what was not said: %s", m.Id, shownWork(w))
		}
	}
	if !slices.Equal(seqsOf(w.Said), upTo(len(w.Said))) {
		t.Errorf("numbers %v were given", seqsOf(w.Said))
	}
	if !oneOrderByHand(w.Heard) || !impl.OneOrder(w.Heard) {
		t.Errorf("not one order: %s", shownWork(w))
	}
	if !safeHeardByHand(w) || !impl.SafeHeard(w) {
		t.Errorf("somebody lacks what is safe: %s", shownWork(w))
	}
	for i, list := range w.Heard {
		if len(list) > len(w.Said) || !slices.Equal(list, w.Said[:len(list)]) || len(list) != w.Mates[i].Heard {
			t.Errorf("%d heard %s; said was %s", w.Mates[i].Id, shownItems(list), shownItems(w.Said))
		}
	}
}

func turn(kind, id, at int) impl.Turn { return impl.Turn{Kind: kind, Id: id, At: at} }

func saying(id, level int, text string) impl.Turn {
	return impl.Turn{Kind: impl.EvSay, Id: id, Level: level, Text: text}
}

func itemTo(d int, x impl.Item) impl.Fly { return impl.Fly{To: d, Item: x} }

func tokenTo(d int, k impl.Token) impl.Fly { return impl.Fly{To: d, Token: true, Tok: k} }

func smallRing(members ...int) impl.Ring { return impl.Ring{Id: 2, Members: members} }

func TestWorkConstants(t *testing.T) {
	if impl.EvSay != 1 || impl.EvToken != 2 || impl.EvItem != 3 || impl.EvLose != 4 || impl.EvTwice != 5 || impl.EvAgain != 6 || impl.EvHear != 7 {
		t.Error("the constants of works are not the document's")
	}
}

// rightTurn is right of each of the seven kinds.
func rightTurn(kind, id int) impl.Turn {
	if kind == impl.EvSay {
		return saying(id, impl.Safe, "a")
	}
	return turn(kind, id, 3)
}

func TestTurnOkKinds(t *testing.T) {
	r := smallRing(1, 3, 4)
	for kind := 1; kind <= 7; kind++ {
		wantTurnOk(t, r, rightTurn(kind, 3), true)
	}
	for _, kind := range slices.Concat(numbersBeside(), []int{8, 9, 10, 1<<32 + 7, 263}) {
		for _, e := range []impl.Turn{turn(kind, 3, 0), {Kind: kind, Id: 3, Level: 1}, {Kind: kind, Id: 3, Level: 2, Text: "a"}} {
			wantTurnOk(t, r, e, false)
		}
	}
}

func TestTurnOkIds(t *testing.T) {
	for _, r := range rightRings() {
		for kind := 1; kind <= 7; kind++ {
			for _, id := range slices.Concat(numbersBeside(), upTo(7)) {
				wantTurnOk(t, r, rightTurn(kind, id), slices.Contains(r.Members, id))
			}
		}
	}
	members := []int{1, 3, 4}
	wantTurnOk(t, impl.Ring{Id: 1, Members: members[:2]}, turn(2, 4, 0), false)
	wantTurnOk(t, impl.Ring{Id: 1, Members: members[:2]}, turn(2, 3, 0), true)
}

func TestTurnOkPlaces(t *testing.T) {
	r := smallRing(1, 3, 4)
	for kind := 1; kind <= 7; kind++ {
		e := rightTurn(kind, 1)
		for _, at := range []int{0, 1, 2, 60, 89, 90, 91, 5000, 5001, 1 << 32, math.MaxInt - 1, math.MaxInt} {
			e.At = at
			wantTurnOk(t, r, e, true)
		}
		for _, at := range []int{-1, -2, -256, -1 << 32, math.MinInt + 1, math.MinInt} {
			e.At = at
			wantTurnOk(t, r, e, false)
		}
	}
}

func TestTurnOkSayings(t *testing.T) {
	r := smallRing(1, 3, 4)
	for _, level := range slices.Concat(numbersBeside(), []int{1, 2, 3}) {
		for _, text := range []string{"", "a", longText(59), longText(60), longText(61), longText(256), longText(impl.MaxText + 1), strings.Repeat("ü", 30), strings.Repeat("ü", 31), "\x00", "\xff"} {
			wantTurnOk(t, r, saying(4, level, text), (level == 1 || level == 2) && len(text) <= 60)
			for kind := 2; kind <= 7; kind++ {
				wantTurnOk(t, r, impl.Turn{Kind: kind, Id: 4, Level: level, Text: text}, level == 0 && text == "")
			}
		}
	}
	wantTurnOk(t, r, saying(4, impl.Agreed, longText(60)), true)
	wantTurnOk(t, r, saying(4, impl.Agreed, longText(61)), false)
	wantTurnOk(t, r, impl.Turn{Kind: impl.EvHear, Id: 4, Level: impl.Agreed}, false)
	wantTurnOk(t, r, impl.Turn{Kind: impl.EvHear, Id: 4, Text: "a"}, false)
	wantTurnOk(t, r, impl.Turn{}, false)
}

func TestTurnOkRings(t *testing.T) {
	for _, r := range wrongRings() {
		for kind := 1; kind <= 7; kind++ {
			for _, id := range append(r.Members[:min(len(r.Members), 4):min(len(r.Members), 4)], 0, 1, 3, 5) {
				wantTurnOk(t, r, rightTurn(kind, id), false)
			}
		}
	}
}

func TestWorkNewOfEveryRing(t *testing.T) {
	for _, r := range rightRings() {
		wantWorkNew(t, r, newWorkLife(r).work(), true)
		w, _ := impl.WorkNew(r)
		wantFlying(t, w, tokenTo(r.Members[0], impl.Token{Conf: r.Id, Round: 1}))
		if len(w.Heard) != len(r.Members) || len(w.Mates) != len(r.Members) || len(w.Said) != 0 || len(slices.Concat(w.Heard...)) != 0 {
			t.Errorf("WorkNew(%v): %s", r, shownWork(w))
		}
		for i, d := range r.Members {
			if !sameMate(w.Mates[i], impl.Mate{Id: d, Ring: r}) {
				t.Errorf("WorkNew(%v): %s", r, shownWork(w))
			}
		}
		wantPromiseOfWork(t, w)
	}
	wantWorkNew(t, impl.Ring{Id: 9, Members: []int{4}}, impl.Work{
		Ring: impl.Ring{Id: 9, Members: []int{4}}, Mates: []impl.Mate{{Id: 4, Ring: impl.Ring{Id: 9, Members: []int{4}}}},
		Flying: []impl.Fly{{To: 4, Token: true, Tok: impl.Token{Conf: 9, Round: 1}}}, Heard: [][]impl.Item{nil},
	}, true)
}

func TestWorkNewRefuses(t *testing.T) {
	for _, r := range wrongRings() {
		wantWorkNew(t, r, impl.Work{}, false)
		wantNotRun(t, r, nil)
		for _, id := range []int{1, 3, 5} {
			wantNotRun(t, r, []impl.Turn{turn(impl.EvHear, id, 0)})
		}
	}
}

func TestRunWorkCounts(t *testing.T) {
	for _, r := range []impl.Ring{smallRing(3), smallRing(1, 2), smallRing(upTo(5)...)} {
		d := r.Members[0]
		w := wantRunAsByHand(t, r)
		wantRun(t, r, []impl.Turn{}, w, nil, true)
		wantWorkNew(t, r, w, true)
		for _, kind := range []int{1, 2, 3, 5, 7} {
			events := slices.Repeat([]impl.Turn{rightTurn(kind, d)}, 91)
			wantRunAsByHand(t, r, events[:89]...)
			wantRunAsByHand(t, r, events[:90]...)
			wantNotRun(t, r, events)
			wantNotRun(t, r, slices.Repeat(events, 60))
		}
		if _, numbers, ok := impl.RunWork(r, slices.Repeat([]impl.Turn{turn(impl.EvHear, d, 0)}, 90)); len(numbers) != 90 || !ok {
			t.Errorf("of 90 events: %v, %t", numbers, ok)
		}
	}
}

func TestRunWorkRefusesOneWrongEvent(t *testing.T) {
	r := smallRing(1, 3, 4)
	wrong := []impl.Turn{
		{}, {Kind: 0, Id: 1}, {Kind: 8, Id: 1}, {Kind: -1, Id: 1}, {Kind: math.MinInt, Id: 1}, {Kind: math.MaxInt, Id: 1}, {Kind: 2}, {Kind: 2, Id: 2}, {Kind: 7, Id: 5}, {Kind: 7, Id: -1},
		{Kind: 3, Id: 1, At: -1}, {Kind: 3, Id: 1, At: math.MinInt}, {Kind: 1, Id: 1}, {Kind: 1, Id: 1, Level: 3}, {Kind: 1, Id: 1, Level: 1, Text: longText(61)},
		{Kind: 2, Id: 1, Level: 1}, {Kind: 4, Id: 1, Text: "a"}, {Kind: 5, Id: 1, Level: 2}, {Kind: 6, Id: 1, Level: 1}, {Kind: 7, Id: 1, Text: "a"}, {Kind: 1, Id: 1, At: -1, Level: 1},
	}
	for _, e := range wrong {
		wantTurnOk(t, r, e, false)
		wantNotRun(t, r, []impl.Turn{e})
		for _, count := range []int{2, 10, 90} {
			for _, place := range []int{0, count / 2, count - 1} {
				events := slices.Repeat([]impl.Turn{saying(3, 1, "a")}, count)
				wantRunAsByHand(t, r, events...)
				events[place] = e
				wantNotRun(t, r, events)
			}
		}
	}
}

func TestSayingsThatWait(t *testing.T) {
	for _, r := range []impl.Ring{smallRing(3), smallRing(3, 4), smallRing(upTo(5)...)} {
		var events []impl.Turn
		for i := range 19 {
			events = append(events, saying(3, 1+i%2, fmt.Sprint("text ", i)))
		}
		wantNumbersOf(t, r, events, make([]int, 19)...)
		events = append(events, saying(3, 2, "the last"))
		full := wantNumbersOf(t, r, events, make([]int, 20)...)
		place := slices.Index(r.Members, 3)
		if m := full.Mates[place]; len(m.Texts) != 20 || m.Texts[19] != "the last" || m.Level[19] != 2 || m.Texts[0] != "text 0" {
			t.Errorf("20 texts wait: %s", shownMate(m))
		}
		events = append(events, saying(3, 1, "too many"))
		over := wantNumbersOf(t, r, events, append(make([]int, 20), 1)...)
		if !sameWork(over, full) {
			t.Errorf("what is refused leaves something behind: %s", shownWork(over))
		}
		if len(r.Members) > 1 {
			events = append(events, saying(4, 1, "of another one"))
			wantNumbersOf(t, r, events, append(make([]int, 20), 1, 0)...)
		}
	}
	r := smallRing(3)
	events := slices.Repeat([]impl.Turn{saying(3, 1, "a")}, 20)
	events = append(events, saying(3, 1, "b"), turn(impl.EvToken, 3, 0), saying(3, 1, "c"), saying(3, 1, "d"), saying(3, 1, "e"), saying(3, 1, "f"))
	w := wantNumbersOf(t, r, events, append(make([]int, 20), 1, 0, 0, 0, 0, 1)...)
	if !slices.Equal(w.Mates[0].Texts[17:], []string{"c", "d", "e"}) || len(w.Said) != 3 {
		t.Errorf("three are gone, three come: %s", shownWork(w))
	}
}

func TestHearInWork(t *testing.T) {
	r := smallRing(1, 2)
	hear := turn(impl.EvHear, 1, 0)
	w := wantNumbersOf(t, r, []impl.Turn{hear, hear, turn(impl.EvHear, 2, 0)}, 0, 0, 0)
	wantWorkNew(t, r, w, true)
	a, b, c := impl.Item{Seq: 1, From: 1, Level: 1, Text: "a"}, impl.Item{Seq: 2, From: 1, Level: 1, Text: "b"}, impl.Item{Seq: 3, From: 2, Level: 1, Text: "c"}
	events := []impl.Turn{saying(1, 1, "a"), saying(1, 1, "b"), hear, turn(impl.EvToken, 1, 0), hear, hear}
	w = wantNumbersOf(t, r, events, make([]int, 6)...)
	if !slices.Equal(w.Heard[0], []impl.Item{a, b}) || len(w.Heard[1]) != 0 || w.Mates[0].Heard != 2 {
		t.Errorf("heard twice: %s", shownWork(w))
	}
	events = append(events, saying(2, 1, "c"), turn(impl.EvToken, 1, 2), hear, turn(impl.EvItem, 1, 2), hear, hear, turn(impl.EvHear, 2, 0))
	w = wantNumbersOf(t, r, events, make([]int, 13)...)
	if !slices.Equal(w.Heard[0], []impl.Item{a, b, c}) || len(w.Heard[1]) != 0 {
		t.Errorf("heard behind something new: %s", shownWork(w))
	}
	events = append(events, turn(impl.EvItem, 2, 1), turn(impl.EvHear, 2, 0), turn(impl.EvItem, 2, 0), turn(impl.EvHear, 2, 0))
	w = wantNumbersOf(t, r, events, make([]int, 17)...)
	if !slices.Equal(w.Heard[0], w.Heard[1]) || !slices.Equal(w.Heard[1], w.Said) {
		t.Errorf("heard by both: %s", shownWork(w))
	}
}

// What is safe is heard by nobody ahead of the round behind that in which all had it.
func TestSafeWaits(t *testing.T) {
	r := smallRing(1, 2)
	events := []impl.Turn{saying(1, 2, "a"), turn(impl.EvToken, 1, 0), turn(impl.EvItem, 1, 0)}
	heardAt := [2]int{}
	for step := range 8 {
		events = append(events, turn(impl.EvHear, 1, 0), turn(impl.EvHear, 2, 0))
		w := wantRunAsByHand(t, r, events...)
		wantPromiseOfWork(t, w)
		for i, list := range w.Heard {
			if len(list) == 1 && heardAt[i] == 0 {
				heardAt[i] = step
			}
		}
		events = append(events, turn(impl.EvToken, 1, 0))
	}
	if heardAt != [2]int{4, 3} {
		t.Errorf("heard behind %v further tokens", heardAt)
	}
}

func TestTokenSaysInOrder(t *testing.T) {
	r := smallRing(1, 3, 4)
	a, b := impl.Item{Seq: 1, From: 1, Level: 1, Text: "a"}, impl.Item{Seq: 2, From: 1, Level: 2, Text: "b"}
	events := []impl.Turn{saying(1, 1, "a"), saying(1, 2, "b"), turn(impl.EvToken, 4, 0)}
	w := wantNumbersOf(t, r, events, 0, 0, 0)
	second := impl.Token{Conf: 2, Round: 2, Seq: 2, Aru: 2}
	wantFlying(t, w, itemTo(3, a), itemTo(4, a), itemTo(3, b), itemTo(4, b), tokenTo(3, second))
	if !slices.Equal(w.Said, []impl.Item{a, b}) || !slices.Equal(w.Mates[0].Items, w.Said) || !sameToken(w.Mates[0].Last, second) || w.Mates[0].Round != 1 {
		t.Errorf("said: %s", shownWork(w))
	}

	// 3 has b alone and says three of its four; 4 has a alone: what it gives goes ahead of what is new.
	events = append(events, saying(3, 1, "c"), saying(3, 1, "d"), saying(3, 1, "e"), saying(3, 1, "f"), turn(impl.EvItem, 1, 2), turn(impl.EvToken, 1, 3))
	w = wantNumbersOf(t, r, events, make([]int, 9)...)
	c, d, e := impl.Item{Seq: 3, From: 3, Level: 1, Text: "c"}, impl.Item{Seq: 4, From: 3, Level: 1, Text: "d"}, impl.Item{Seq: 5, From: 3, Level: 1, Text: "e"}
	third := impl.Token{Conf: 2, Round: 3, Seq: 5, Aru: 0, By: 3, Wants: []int{1}}
	wantFlying(t, w, itemTo(3, a), itemTo(4, a), itemTo(4, b), itemTo(1, c), itemTo(4, c), itemTo(1, d), itemTo(4, d), itemTo(1, e), itemTo(4, e), tokenTo(4, third))
	if !slices.Equal(w.Said, []impl.Item{a, b, c, d, e}) || !slices.Equal(w.Mates[1].Texts, []string{"f"}) {
		t.Errorf("said: %s", shownWork(w))
	}
	events = append(events, saying(4, 2, "g"), turn(impl.EvLose, 1, 0), turn(impl.EvItem, 1, 0), turn(impl.EvToken, 1, 7))
	w = wantNumbersOf(t, r, events, make([]int, 13)...)
	g := impl.Item{Seq: 6, From: 4, Level: 2, Text: "g"}
	fourth := impl.Token{Conf: 2, Round: 4, Seq: 6, Aru: 0, By: 3, Wants: []int{2, 3, 4, 5}}
	wantFlying(t, w, itemTo(4, b), itemTo(1, c), itemTo(4, c), itemTo(1, d), itemTo(4, d), itemTo(1, e), itemTo(4, e), itemTo(1, a), itemTo(3, a), itemTo(1, g), itemTo(3, g), tokenTo(1, fourth))
	if !slices.Equal(w.Said, []impl.Item{a, b, c, d, e, g}) {
		t.Errorf("what is said again is put behind Said: %s", shownWork(w))
	}

	// 1 gives two of its own, and of what others said none that it lacks; nothing new: Said stays.
	events = append(events, turn(impl.EvToken, 1, 11))
	again := wantNumbersOf(t, r, events, make([]int, 14)...)
	if !slices.Equal(again.Said, w.Said) || !slices.EqualFunc(again.Flying[11:13], []impl.Fly{itemTo(3, b), itemTo(4, b)}, sameFly) || len(again.Flying) != 14 {
		t.Errorf("said again: %s", shownWork(again))
	}
	wantPromiseOfWork(t, again)
}

func TestAgainKnown(t *testing.T) {
	r := smallRing(1, 3, 4)
	fresh, _ := impl.WorkNew(r)
	for _, d := range r.Members {
		w := wantNumbersOf(t, r, []impl.Turn{turn(impl.EvAgain, d, 0)}, 1)
		if !sameWork(w, fresh) {
			t.Errorf("again of who never held the token: %s", shownWork(w))
		}
	}
	a, b, c := impl.Item{Seq: 1, From: 1, Level: 1, Text: "a"}, impl.Item{Seq: 2, From: 1, Level: 2, Text: "b"}, impl.Item{Seq: 3, From: 3, Level: 1, Text: "c"}
	events := []impl.Turn{saying(1, 1, "a"), saying(1, 2, "b"), saying(3, 1, "c"), turn(impl.EvToken, 1, 0), turn(impl.EvItem, 1, 0), turn(impl.EvItem, 1, 1), turn(impl.EvToken, 1, 2)}
	w := wantNumbersOf(t, r, events, make([]int, 7)...)
	second, third := w.Mates[0].Last, w.Mates[1].Last
	if second.Round != 2 || third.Round != 3 {
		t.Errorf("two held the token: %s", shownWork(w))
	}
	ahead := []impl.Fly{itemTo(4, a), itemTo(4, b), itemTo(1, c), itemTo(4, c), tokenTo(4, third)}
	wantFlying(t, w, ahead...)
	ofOne := []impl.Fly{tokenTo(3, second), itemTo(3, a), itemTo(4, a), itemTo(3, b), itemTo(4, b)}
	ofThree := []impl.Fly{tokenTo(4, third), itemTo(1, c), itemTo(4, c)}
	one, three, four := turn(impl.EvAgain, 1, 5), turn(impl.EvAgain, 3, 9), turn(impl.EvAgain, 4, 0)
	for _, c := range []struct {
		turns   []impl.Turn
		numbers []int
		more    []impl.Fly
	}{
		{[]impl.Turn{one}, []int{0}, ofOne}, {[]impl.Turn{three}, []int{0}, ofThree}, {[]impl.Turn{four}, []int{1}, nil},
		{[]impl.Turn{one, one}, []int{0, 0}, slices.Concat(ofOne, ofOne)}, {[]impl.Turn{three, four, one}, []int{0, 1, 0}, slices.Concat(ofThree, ofOne)},
	} {
		got := wantNumbersOf(t, r, append(slices.Clone(events), c.turns...), append(make([]int, 7), c.numbers...)...)
		wantFlying(t, got, append(slices.Clone(ahead), c.more...)...)
		if !slices.EqualFunc(got.Mates, w.Mates, sameMate) || !slices.Equal(got.Said, w.Said) {
			t.Errorf("again changed more than what is on the way: %s", shownWork(got))
		}
	}
}

func TestAgainOfOneMember(t *testing.T) {
	r := smallRing(4)
	again, token := turn(impl.EvAgain, 4, 0), turn(impl.EvToken, 4, 0)
	wantNumbersOf(t, r, []impl.Turn{again}, 1)
	events := []impl.Turn{saying(4, 2, "a"), token, again, again}
	w := wantNumbersOf(t, r, events, 0, 0, 0, 0)
	last := impl.Token{Conf: 2, Round: 2, Seq: 1, Aru: 1}
	wantFlying(t, w, tokenTo(4, last), tokenTo(4, last), tokenTo(4, last))
	events = append(events, token, token, token, token, token, token)
	wantNumbersOf(t, r, events, 0, 0, 0, 0, 0, 1, 1, 0, 0, 0)
	events = append(events[:4:4], turn(impl.EvLose, 4, 2), turn(impl.EvLose, 4, 1), turn(impl.EvLose, 4, 0), token, again, token)
	w = wantNumbersOf(t, r, events, 0, 0, 0, 0, 0, 0, 0, 1, 0, 0)
	wantFlying(t, w, tokenTo(4, impl.Token{Conf: 2, Round: 3, Seq: 1, Aru: 1}))
}

func TestNothingOnTheWay(t *testing.T) {
	for _, r := range []impl.Ring{smallRing(3), smallRing(1, 2), smallRing(upTo(5)...)} {
		d := r.Members[len(r.Members)-1]
		events := []impl.Turn{turn(impl.EvLose, d, 0)}
		empty := wantNumbersOf(t, r, events, 0)
		wantFlying(t, empty)
		for _, kind := range []int{impl.EvToken, impl.EvItem, impl.EvLose, impl.EvTwice} {
			for _, at := range []int{0, 1, 2, math.MaxInt} {
				w := wantNumbersOf(t, r, append(slices.Clone(events), turn(kind, d, at)), 0, 1)
				if !sameWork(w, empty) {
					t.Errorf("kind %d with nothing on the way: %s", kind, shownWork(w))
				}
			}
		}
		wantNumbersOf(t, r, append(slices.Clone(events), saying(d, 1, "a"), turn(impl.EvHear, d, 0), turn(impl.EvAgain, d, 0)), 0, 0, 0, 1)
	}
}

// manyOnTheWay has six items and a token on the way; no two of them are alike.
func manyOnTheWay() (impl.Ring, []impl.Turn) {
	return smallRing(1, 3, 4), []impl.Turn{saying(1, 1, "a"), saying(1, 2, "b"), saying(1, 1, "c"), saying(3, 1, "d"), turn(impl.EvToken, 1, 0)}
}

func TestPlacesOnTheWay(t *testing.T) {
	r, events := manyOnTheWay()
	before := wantNumbersOf(t, r, events, make([]int, 5)...)
	count := len(before.Flying)
	if count != 7 {
		t.Fatalf("%d are on the way", count)
	}
	places := append(fromTo(0, 3*count), 70, 71, 6999, 7000, math.MaxInt-1, math.MaxInt, math.MaxInt/count*count, math.MaxInt/count*count-1)
	for _, at := range places {
		place := at % count
		without := slices.Delete(slices.Clone(before.Flying), place, place+1)
		lost := wantNumbersOf(t, r, append(slices.Clone(events), turn(impl.EvLose, 3, at)), make([]int, 6)...)
		wantFlying(t, lost, without...)
		twice := wantNumbersOf(t, r, append(slices.Clone(events), turn(impl.EvTwice, 3, at)), make([]int, 6)...)
		wantFlying(t, twice, append(slices.Clone(before.Flying), before.Flying[place])...)
		for _, w := range []impl.Work{lost, twice} {
			if !slices.EqualFunc(w.Mates, before.Mates, sameMate) || !slices.Equal(w.Said, before.Said) || len(slices.Concat(w.Heard...)) != 0 {
				t.Errorf("at %d more than what is on the way changed: %s", at, shownWork(w))
			}
		}
		byToken := wantNumbersOf(t, r, append(slices.Clone(events), turn(impl.EvToken, 3, at)), make([]int, 6)...)
		byItem := wantNumbersOf(t, r, append(slices.Clone(events), turn(impl.EvItem, 4, at)), make([]int, 6)...)
		if !sameWork(byToken, byItem) || !slices.EqualFunc(byItem.Flying[:count-1], without, sameFly) {
			t.Errorf("at %d a token and an item come otherwise: %s and %s", at, shownWork(byToken), shownWork(byItem))
		}
		f := before.Flying[place]
		m := byToken.Mates[slices.Index(r.Members, f.To)]
		if f.Token && (m.Round != 2 || len(byItem.Flying) != count+2) || !f.Token && (!slices.Equal(m.Items, []impl.Item{f.Item}) || len(byItem.Flying) != count-1) {
			t.Errorf("at %d %s came: %s", at, shownFly(f), shownWork(byItem))
		}
	}
}

// The member that an event names is nothing to what is on the way.
func TestIdIsNothingToTheWay(t *testing.T) {
	r, events := manyOnTheWay()
	for kind := impl.EvToken; kind <= impl.EvTwice; kind++ {
		for at := range 8 {
			want := wantRunAsByHand(t, r, append(slices.Clone(events), turn(kind, 1, at))...)
			for _, d := range []int{3, 4} {
				if w := wantRunAsByHand(t, r, append(slices.Clone(events), turn(kind, d, at))...); !sameWork(w, want) {
					t.Errorf("kind %d at %d hangs on the Id: %s", kind, at, shownWork(w))
				}
			}
		}
	}
}

func TestTokenToldTwice(t *testing.T) {
	r := smallRing(1, 2)
	twice, token := turn(impl.EvTwice, 1, 0), turn(impl.EvToken, 1, 0)
	say := []impl.Turn{saying(1, 1, "a"), saying(1, 1, "b"), saying(1, 1, "c"), saying(1, 1, "d")}

	// At once: it gives no numbers a second time, and goes on once.
	events := append(slices.Clone(say), twice, token)
	once := wantNumbersOf(t, r, events, make([]int, 6)...)
	w := wantNumbersOf(t, r, append(slices.Clone(events), token), append(make([]int, 6), 1)...)
	if len(w.Said) != 3 || len(w.Flying) != 4 || !slices.EqualFunc(w.Mates, once.Mates, sameMate) {
		t.Errorf("a token came twice at once: %s", shownWork(w))
	}

	// A round later: 1 has more to say, and must not say it by the old token.
	events = append(events, turn(impl.EvToken, 1, 4), turn(impl.EvToken, 1, 4), turn(impl.EvHear, 1, 0))
	round := wantNumbersOf(t, r, events, make([]int, 9)...)
	if len(round.Said) != 4 || round.Mates[0].Round != 3 || round.Flying[0].Tok.Round != 1 {
		t.Fatalf("a round later: %s", shownWork(round))
	}
	events = append(events, saying(1, 1, "e"), token)
	w = wantNumbersOf(t, r, events, append(make([]int, 10), 1)...)
	if len(w.Said) != 4 || len(w.Flying) != len(round.Flying)-1 || !slices.Equal(w.Mates[0].Texts, []string{"e"}) {
		t.Errorf("a token came twice, a round later: %s", shownWork(w))
	}
	wantPromiseOfWork(t, wantQuietAsByHand(t, w, 100))

	// Told twice again and again, only the first of them all goes on.
	events = append(slices.Clone(say), slices.Repeat([]impl.Turn{twice}, 20)...)
	events = append(events, slices.Repeat([]impl.Turn{token}, 21)...)
	w = wantNumbersOf(t, r, events, append(make([]int, 25), slices.Repeat([]int{1}, 20)...)...)
	if len(w.Said) != 3 || len(w.Flying) != 4 {
		t.Errorf("a token came 21 times: %s", shownWork(w))
	}
}

func TestItemComesTwice(t *testing.T) {
	r := smallRing(1, 2)
	events := []impl.Turn{saying(1, 1, "a"), turn(impl.EvToken, 1, 0), turn(impl.EvTwice, 1, 0), turn(impl.EvItem, 1, 0), turn(impl.EvHear, 2, 0)}
	once := wantNumbersOf(t, r, events, make([]int, 5)...)
	events = append(events, turn(impl.EvItem, 1, 1), turn(impl.EvHear, 2, 0))
	w := wantNumbersOf(t, r, events, make([]int, 7)...)
	if len(w.Heard[1]) != 1 || len(w.Mates[1].Items) != 1 || len(w.Flying) != 1 || !slices.EqualFunc(w.Mates, once.Mates, sameMate) {
		t.Errorf("an item came twice: %s", shownWork(w))
	}
}

// fillUp lets a ring of few give all numbers: three texts, and a token for each of them.
func fillUp(r impl.Ring) []impl.Turn {
	var events []impl.Turn
	d := r.Members[0]
	for len(events) < 80 {
		events = append(events, saying(d, 1, "a"), saying(d, 2, "b"), saying(d, 1, "c"), turn(impl.EvToken, d, 0))
	}
	return events
}

func TestNumbersAtTheirLimit(t *testing.T) {
	r := smallRing(5)
	events := fillUp(r)
	w := wantNumbersOf(t, r, events, make([]int, 80)...)
	if len(w.Said) != 60 || w.Flying[0].Tok.Seq != 60 || w.Flying[0].Tok.Aru != 60 {
		t.Fatalf("all numbers are given: %s", shownWork(w))
	}
	events = append(events, saying(5, 1, "x"), saying(5, 2, "y"), saying(5, 1, "z"), saying(5, 1, "more"), turn(impl.EvToken, 5, 0), turn(impl.EvHear, 5, 0))
	w = wantNumbersOf(t, r, events, make([]int, 86)...)
	if len(w.Said) != 60 || len(w.Heard[0]) != 58 || !slices.Equal(w.Mates[0].Texts, []string{"more"}) || len(w.Flying) != 1 || w.Flying[0].Tok.Round != 22 {
		t.Errorf("without numbers: %s", shownWork(w))
	}
	wantPromiseOfWork(t, w)
	events[76], events[77] = turn(impl.EvHear, 5, 0), turn(impl.EvHear, 5, 0)
	w = wantRunAsByHand(t, r, events...)
	if len(w.Said) != 60 || w.Said[58].Text != "x" || w.Said[59].Text != "y" {
		t.Errorf("with two numbers for three texts: %s", shownWork(w))
	}
}

// workOf has a ring of members, each of whom held the token of this round last.
func workOf(round int, members ...int) impl.Work {
	r := smallRing(members...)
	w, _ := impl.WorkNew(r)
	for i := range w.Mates {
		w.Mates[i].Round = round - len(members) + i
		w.Mates[i].Last = impl.Token{Conf: r.Id, Round: w.Mates[i].Round + 1}
	}
	w.Flying[0].Tok.Round = round
	return w
}

func TestRoundAtItsLimit(t *testing.T) {
	for _, members := range [][]int{{2}, {1, 2}, {1, 3, 4}} {
		for _, round := range []int{impl.MaxNumber - 4, impl.MaxNumber - 2, impl.MaxNumber - 1, impl.MaxNumber} {
			w := workOf(round, members...)
			w.Mates[0].Texts, w.Mates[0].Level = []string{"a"}, []int{1}
			for steps := range 30 {
				got := wantQuietAsByHand(t, w, steps)
				wantPromiseOfWork(t, got)
				for _, f := range got.Flying {
					if f.Tok.Round > impl.MaxNumber {
						t.Errorf("a token beyond its limit: %s", shownFly(f))
					}
				}
			}
		}
	}
	w := workOf(impl.MaxNumber-1, 1, 2)
	got := impl.Quiet(w, 1)
	wantFlying(t, got, tokenTo(2, impl.Token{Conf: 2, Round: impl.MaxNumber}))
	wantFlying(t, impl.Quiet(w, 2))
	w = workOf(impl.MaxNumber, 1, 2)
	w.Mates[0].Texts, w.Mates[0].Level = []string{"a"}, []int{1}
	got = impl.Quiet(w, 1)
	if len(got.Flying) != 0 || len(got.Said) != 0 || !slices.EqualFunc(got.Mates, w.Mates, sameMate) {
		t.Errorf("a token at its limit was held: %s", shownWork(got))
	}
}

func TestNumbersAtTheirLimitInQuiet(t *testing.T) {
	for _, seq := range []int{57, 58, 59, 60} {
		w := workOf(50, 1, 2)
		for i := range w.Mates {
			w.Mates[i].Items = itemsOf(upTo(seq)...)
		}
		w.Said = itemsOf(upTo(seq)...)
		w.Flying[0].Tok.Seq, w.Flying[0].Tok.Aru = seq, seq
		w.Mates[0].Texts, w.Mates[0].Level = saidTexts(4), []int{1, 1, 2, 1}
		for _, steps := range []int{0, 1, 2, 3, 20} {
			got := wantQuietAsByHand(t, w, steps)
			if want := seq + min(steps, 1)*min(3, 60-seq); steps < 3 && len(got.Said) != want || len(got.Said) > 60 {
				t.Errorf("Quiet of Seq %d, %d steps: %d are said", seq, steps, len(got.Said))
			}
		}
	}
}

func lifeToTell() (impl.Ring, []impl.Turn) {
	return smallRing(1, 3, 4), []impl.Turn{
		saying(1, 1, "a"), saying(1, 2, "b"), saying(3, 2, "c"), saying(4, 1, "d"), turn(impl.EvToken, 1, 0), turn(impl.EvLose, 1, 1), turn(impl.EvTwice, 1, 3),
		turn(impl.EvToken, 1, 3), turn(impl.EvItem, 1, 0), turn(impl.EvHear, 3, 0), turn(impl.EvToken, 1, 5), turn(impl.EvAgain, 3, 0), turn(impl.EvLose, 1, 2),
	}
}

func TestQuietSteps(t *testing.T) {
	r, events := lifeToTell()
	for count := range len(events) + 1 {
		w := wantRunAsByHand(t, r, events[:count]...)
		hearsOnly := wantQuietAsByHand(t, w, 0)
		for _, steps := range []int{-1, -2, -5000, -5001, math.MinInt + 1, math.MinInt} {
			wantQuiet(t, w, steps, hearsOnly)
		}
		for steps := 1; steps <= 40; steps++ {
			wantPromiseOfWork(t, wantQuietAsByHand(t, w, steps))
		}
		if !slices.EqualFunc(hearsOnly.Flying, w.Flying, sameFly) || !slices.Equal(hearsOnly.Said, w.Said) {
			t.Errorf("no steps: %s", shownWork(hearsOnly))
		}
	}
}

func TestQuietAtMost5000Steps(t *testing.T) {
	r, events := lifeToTell()
	for _, w := range []impl.Work{wantRunAsByHand(t, r, events...), wantRunAsByHand(t, smallRing(2)), wantRunAsByHand(t, smallRing(1, 5))} {
		before := wantQuietAsByHand(t, w, 4999)
		last := wantQuietAsByHand(t, w, 5000)
		if sameWork(before, last) {
			t.Errorf("step 5000 did nothing: %s", shownWork(last))
		}
		for _, steps := range []int{5001, 5002, 10000, 1 << 32, math.MaxInt - 1, math.MaxInt} {
			wantQuiet(t, w, steps, last)
		}
		wantPromiseOfWork(t, last)
	}
}

func TestQuietWithNothingOnTheWay(t *testing.T) {
	for _, r := range []impl.Ring{smallRing(3), smallRing(1, 2), smallRing(upTo(5)...)} {
		d := r.Members[0]
		empty := wantRunAsByHand(t, r, saying(d, 1, "a"), turn(impl.EvLose, d, 0))
		for _, steps := range []int{-1, 0, 1, 2, 90, 5000, math.MaxInt} {
			wantQuiet(t, empty, steps, empty)
		}
		held := wantRunAsByHand(t, r, saying(d, 1, "a"), turn(impl.EvToken, d, 0))
		lost := held
		lost.Flying = nil
		a := held.Said[0]
		last := held.Mates[0].Last
		sent := wantQuietAsByHand(t, lost, 1)
		want := []impl.Fly{tokenTo(r.Members[1%len(r.Members)], last)}
		for _, d := range r.Members[1:] {
			want = append(want, itemTo(d, a))
		}
		wantFlying(t, sent, want...)
		for steps := range 60 {
			wantPromiseOfWork(t, wantQuietAsByHand(t, lost, steps))
		}
		atLast := wantQuietAsByHand(t, lost, 60)
		for i, list := range atLast.Heard {
			if !slices.Equal(list, []impl.Item{a}) {
				t.Errorf("%d heard at last %s", r.Members[i], shownItems(list))
			}
		}
	}
}

// EvAgain of all stands in the place of one step: each in order of the members, who never held the token not at all.
func TestQuietSaysAgainInOrder(t *testing.T) {
	r := smallRing(1, 3, 4)
	events := []impl.Turn{saying(1, 1, "a"), saying(3, 2, "b"), turn(impl.EvToken, 1, 0), turn(impl.EvToken, 1, 2)}
	w := wantRunAsByHand(t, r, events...)
	w.Flying = nil
	a, b := w.Said[0], w.Said[1]
	ofOne := []impl.Fly{tokenTo(3, w.Mates[0].Last), itemTo(3, a), itemTo(4, a)}
	ofThree := []impl.Fly{tokenTo(4, w.Mates[1].Last), itemTo(1, b), itemTo(4, b)}
	wantFlying(t, wantQuietAsByHand(t, w, 1), slices.Concat(ofOne, ofThree)...)
	wantFlying(t, wantQuietAsByHand(t, w, 2), append(ofOne[1:], ofThree...)...)
	wantFlying(t, wantQuietAsByHand(t, w, 3), append(ofOne[2:], ofThree...)...)
}

func TestQuietWithTokensTwice(t *testing.T) {
	for _, r := range []impl.Ring{smallRing(3), smallRing(1, 2), smallRing(upTo(5)...)} {
		d := r.Members[0]
		events := slices.Repeat([]impl.Turn{saying(d, 2, "a")}, 7)
		events = append(events, slices.Repeat([]impl.Turn{turn(impl.EvTwice, d, 0)}, 9)...)
		w := wantRunAsByHand(t, r, events...)
		if len(w.Flying) != 10 {
			t.Fatalf("on the way: %s", shownWork(w))
		}
		for steps := range 40 {
			wantPromiseOfWork(t, wantQuietAsByHand(t, w, steps))
		}
		late := w
		late.Flying = slices.Concat(w.Flying[:1], slices.Repeat([]impl.Fly{tokenTo(d, impl.Token{Conf: 2, Round: 1})}, 3))
		got := wantQuietAsByHand(t, late, 300)
		wantPromiseOfWork(t, got)
		if len(got.Said) != 7 || len(got.Heard[len(r.Members)-1]) != 7 {
			t.Errorf("tokens on the way twice: %s", shownWork(got))
		}
	}
}

func TestQuietOfNothing(t *testing.T) {
	for _, steps := range []int{math.MinInt, -1, 0, 1, 2, 5000, 5001, math.MaxInt} {
		wantQuiet(t, impl.Work{}, steps, impl.Work{})
		wantQuiet(t, impl.Work{Mates: []impl.Mate{}, Flying: []impl.Fly{}, Heard: [][]impl.Item{}, Said: []impl.Item{}}, steps, impl.Work{})
	}
}

func TestQuietWithFewerLists(t *testing.T) {
	r := smallRing(1, 3, 4)
	events := []impl.Turn{saying(1, 1, "a"), saying(1, 1, "b"), turn(impl.EvToken, 1, 0), turn(impl.EvItem, 1, 0), turn(impl.EvHear, 3, 0)}
	whole := wantRunAsByHand(t, r, events...)
	for _, steps := range []int{math.MinInt, 0, 1, 2, 3, 4, 30, 5000} {
		want := wantQuietAsByHand(t, whole, steps)
		for count := range 3 {
			w, fewer := whole, want
			w.Heard = slices.Clone(whole.Heard[:count])
			fewer.Heard = slices.Clone(want.Heard)
			if count < 2 { // what 3 heard ahead stood in the list that is not there
				fewer.Heard[1] = fewer.Heard[1][1:]
			}
			wantQuiet(t, w, steps, fewer)
		}
		more, wantMore := whole, want
		more.Heard = append(slices.Clone(whole.Heard), nil, itemsOf(7, 9))
		wantMore.Heard = append(slices.Clone(want.Heard), nil, itemsOf(7, 9))
		wantQuiet(t, more, steps, wantMore)
	}
}

// strangeWorks are such as RunWork makes none of.
func strangeWorks() []impl.Work {
	r, events := lifeToTell()
	base, _, _ := runByHand(r, events)
	list := []impl.Work{{}, {Ring: r}, {Mates: base.Mates}, {Flying: base.Flying}, {Heard: base.Heard}, {Said: base.Said}, {Ring: r, Flying: base.Flying}, {Mates: base.Mates, Flying: base.Flying}}
	for _, ring := range wrongRings() {
		w := base
		w.Ring = ring
		list = append(list, w)
	}
	for _, m := range wrongMates() {
		w := base
		w.Mates = slices.Clone(base.Mates)
		w.Mates[1] = m
		list = append(list, w)
	}
	for _, k := range wrongTokens() {
		w := base
		w.Flying = append([]impl.Fly{tokenTo(1, k), itemTo(1, impl.Item{})}, base.Flying...)
		list = append(list, w)
	}
	for _, x := range wrongItems() {
		w := base
		w.Flying = append([]impl.Fly{itemTo(4, x)}, base.Flying...)
		list = append(list, w)
	}
	for _, to := range slices.Concat(numbersBeside(), upTo(6)) {
		w := base
		w.Flying = []impl.Fly{tokenTo(to, base.Mates[0].Last), itemTo(to, base.Said[0]), tokenTo(to, impl.Token{Conf: 2, Round: 40, Seq: 60, Wants: upTo(20)})}
		list = append(list, w)
	}
	twice, other, mixed := base, base, base
	twice.Mates = slices.Concat(base.Mates, base.Mates, base.Mates)
	other.Ring = smallRing(2, 3)
	mixed.Flying = []impl.Fly{{To: 1, Token: true, Tok: impl.Token{Conf: 2, Round: 9}, Item: base.Said[0]}, {To: 3, Tok: impl.Token{Conf: 2, Round: 9}, Item: base.Said[0]}}
	return append(list, twice, other, mixed)
}

func startsWith(list, beginning []impl.Item) bool {
	return len(list) >= len(beginning) && slices.Equal(list[:len(beginning)], beginning)
}

// What is there stays: a strange Work is gone on with as far as its sentences reach, and nothing panics.
func TestQuietOfStrangeWorks(t *testing.T) {
	for _, w := range strangeWorks() {
		for _, steps := range []int{math.MinInt, 0, 1, 2, 5, 40} {
			got := impl.Quiet(w, steps)
			if got.Ring.Id != w.Ring.Id || !slices.Equal(got.Ring.Members, w.Ring.Members) || len(got.Mates) != len(w.Mates) || len(got.Heard) != max(len(w.Mates), len(w.Heard)) || !startsWith(got.Said, w.Said) {
				t.Errorf("Quiet(%s, %d): %s", shownWork(w), steps, shownWork(got))
			}
			for i := range w.Heard {
				if !startsWith(got.Heard[i], w.Heard[i]) {
					t.Errorf("Quiet(%s, %d): %s", shownWork(w), steps, shownWork(got))
				}
			}
			if steps <= 0 && !slices.EqualFunc(got.Flying, w.Flying, sameFly) {
				t.Errorf("Quiet(%s, %d): %s", shownWork(w), steps, shownWork(got))
			}
		}
		if impl.SafeHeard(w) != safeHeardByHand(w) || impl.OneOrder(w.Heard) != oneOrderByHand(w.Heard) {
			t.Errorf("SafeHeard or OneOrder of %s", shownWork(w))
		}
	}
	if len(strangeWorks()) < 1500 {
		t.Errorf("%d strange works: too few to tell", len(strangeWorks()))
	}
}

// What comes to nobody is on the way no more, and goes no further.
func TestQuietToNobody(t *testing.T) {
	w, _ := impl.WorkNew(smallRing(1, 3))
	for _, to := range append(numbersBeside(), 2, 4, 5, 6) {
		w.Flying = []impl.Fly{tokenTo(to, impl.Token{Conf: 2, Round: 1}), itemTo(to, itemOf(1)), itemTo(3, itemOf(1))}
		want := w
		for steps := range 3 {
			want.Flying = w.Flying[steps:]
			wantQuiet(t, w, steps, want)
		}
	}
}

// Where NextOf has nobody, nobody is told anything: a token that is held there ends, and what it gave a number is said all the same.
func TestQuietInNoRing(t *testing.T) {
	whole := wantRunAsByHand(t, smallRing(1, 3, 4), saying(1, 1, "a"))
	for _, r := range append(wrongRings(), smallRing(3, 4)) {
		w := whole
		w.Ring = r
		for _, steps := range []int{1, 2, 3, 50} {
			got := impl.Quiet(w, steps)
			wantFlying(t, got)
			if len(got.Said) != 1 || !slices.Equal(got.Heard[0], got.Said) || got.Mates[0].Round != 1 || !slices.EqualFunc(got.Mates[1:], w.Mates[1:], sameMate) {
				t.Errorf("Quiet(%s, %d): %s", shownWork(w), steps, shownWork(got))
			}
		}
	}
}

func TestOneOrderKnown(t *testing.T) {
	none, one, two, three := []impl.Item{}, itemsOf(1), itemsOf(1, 2), itemsOf(1, 2, 3)
	wantOneOrder(t, true)
	for _, list := range [][]impl.Item{nil, none, one, two, three, itemsOf(upTo(60)...), itemsOf(5, 3, 3)} {
		wantOneOrder(t, true, list)
		wantOneOrder(t, true, list, slices.Clone(list))
		wantOneOrder(t, true, list, nil)
		wantOneOrder(t, true, none, list, none)
		wantOneOrder(t, true, list, list, list, list, list)
	}
	wantOneOrder(t, true, nil, none)
	wantOneOrder(t, true, one, three, two, nil, three)
	wantOneOrder(t, true, three, two, one, none)
	wantOneOrder(t, false, itemsOf(1, 2, 3), itemsOf(2, 2, 3))
	wantOneOrder(t, false, itemsOf(1, 2, 3), itemsOf(1, 2, 4))
	wantOneOrder(t, false, itemsOf(1, 2, 3), itemsOf(1, 3))
	wantOneOrder(t, false, itemsOf(1, 2, 3), itemsOf(2))
	wantOneOrder(t, false, itemsOf(2), nil, itemsOf(1, 2, 3))
	wantOneOrder(t, false, itemsOf(1, 2), itemsOf(2, 1))
	wantOneOrder(t, false, one, two, three, itemsOf(1, 3))
	long := itemsOf(upTo(60)...)
	for place := range long {
		for _, other := range othersOf(long[place]) {
			list := slices.Clone(long)
			list[place] = other
			wantOneOrder(t, false, long, list)
			wantOneOrder(t, false, list[:place+1], long)
			wantOneOrder(t, false, nil, long[:place+1], list[:place+1])
			wantOneOrder(t, true, list, long[:place])
			wantOneOrder(t, true, list[:place], long)
		}
	}
}

// othersOf differ from the item in one field each.
func othersOf(x impl.Item) []impl.Item {
	seq, from, level, text, longer := x, x, x, x, x
	seq.Seq++
	from.From++
	level.Level = 3 - level.Level
	text.Text = "X" + text.Text[1:]
	longer.Text += "\x00"
	return []impl.Item{seq, from, level, text, longer}
}

func TestOneOrderOfEveryFewLists(t *testing.T) {
	var all [][]impl.Item
	for size := range 4 {
		everyText(size, "\x01\x02", func(s string) {
			list := []impl.Item{}
			for _, b := range []byte(s) {
				list = append(list, itemOf(int(b)))
			}
			all = append(all, list)
		})
	}
	for _, a := range all {
		for _, b := range all {
			for _, c := range all {
				wantOneOrder(t, oneOrderByHand([][]impl.Item{a, b, c}), a, b, c)
			}
		}
	}
}

func TestSafeHeardKnown(t *testing.T) {
	agreed, safe := impl.Item{Seq: 1, From: 1, Level: 1, Text: "a"}, impl.Item{Seq: 2, From: 1, Level: 2, Text: "b"}
	wantSafeHeard(t, impl.Work{}, true)
	wantSafeHeard(t, impl.Work{Heard: [][]impl.Item{nil, {safe}}}, true)
	for _, members := range [][]int{{3}, {1, 2}, upTo(5)} {
		w, _ := impl.WorkNew(smallRing(members...))
		wantSafeHeard(t, w, true)
		for by := range members {
			w.Heard = make([][]impl.Item, len(members))
			w.Heard[by] = []impl.Item{agreed}
			wantSafeHeard(t, w, true)
			w.Heard[by] = []impl.Item{agreed, safe}
			wantSafeHeard(t, w, false)
			for i := range w.Mates {
				w.Mates[i].Items = []impl.Item{safe}
			}
			wantSafeHeard(t, w, true)
			for i := range w.Mates {
				w.Mates[i].Items = nil
				wantSafeHeard(t, w, false)
				for _, other := range append(othersOf(safe), agreed) {
					w.Mates[i].Items = []impl.Item{agreed, other}
					wantSafeHeard(t, w, false)
				}
				w.Mates[i].Items = []impl.Item{agreed, safe}
				wantSafeHeard(t, w, true)
			}
			for i := range w.Mates {
				w.Mates[i].Items = nil
			}
		}
	}
	w, _ := impl.WorkNew(smallRing(1, 2))
	list := itemsOf(upTo(60)...)
	for i := range w.Mates {
		w.Mates[i].Items, w.Heard[i] = slices.Clone(list), slices.Clone(list)
	}
	wantSafeHeard(t, w, true)
	for place, x := range list {
		for i := range w.Mates {
			w.Mates[i].Items = slices.Delete(slices.Clone(list), place, place+1)
			wantSafeHeard(t, w, x.Level == 1)
			w.Mates[i].Items = slices.Clone(list)
		}
	}
}

// weather is how often, of a hundred, each kind of event comes; the rest are tokens and items that come.
type weather struct{ say, lose, twice, again, hear, late int }

func weathers() []weather {
	return []weather{
		{say: 25, hear: 8}, {say: 20, lose: 6, twice: 4, again: 4, hear: 10, late: 40}, {say: 15, lose: 15, twice: 5, again: 10, hear: 10, late: 60},
		{say: 15, twice: 25, again: 5, hear: 8, late: 80}, {say: 20, lose: 2, twice: 2, again: 25, hear: 5, late: 50}, {say: 15, lose: 25, again: 25, hear: 10, late: 100}, {say: 10, lose: 3, twice: 8, again: 2, hear: 7},
	}
}

// drawnTurn looks at what is on the way, so that tokens come often enough: of late, it takes whatever there is.
func drawnTurn(l *lot, w *workLife, s weather, text string) impl.Turn {
	d := w.ring.Members[l.below(len(w.ring.Members))]
	pick := l.below(100)
	for _, c := range []struct {
		often int
		e     impl.Turn
	}{
		{s.say, saying(d, 1+l.below(2), text)}, {s.lose, turn(impl.EvLose, d, l.below(1000))}, {s.twice, turn(impl.EvTwice, d, l.below(1000))},
		{s.again, turn(impl.EvAgain, d, l.below(1000))}, {s.hear, turn(impl.EvHear, d, l.below(1000))},
	} {
		if pick < c.often {
			return c.e
		}
		pick -= c.often
	}
	kind, at := impl.EvToken+l.below(2), l.below(1000)
	if l.below(100) >= s.late {
		at = 0
		if l.below(3) == 0 {
			at = max(0, slices.IndexFunc(w.way, func(f impl.Fly) bool { return f.Token && f.Tok.Round > w.mates[f.To].Round }))
		}
	}
	return turn(kind, d, at)
}

// drawnLife is of up to 90 events; with it comes what the reckoning by hand made of it.
func drawnLife(l *lot, r impl.Ring) ([]impl.Turn, *workLife) {
	w, s := newWorkLife(r), weathers()[l.below(len(weathers()))]
	var events []impl.Turn
	for i := range 60 + l.below(31) {
		e := drawnTurn(l, w, s, fmt.Sprintf("%d of %d", i, l.below(100)))
		if e.Kind == impl.EvLose && w.held == 0 && l.below(4) > 0 { // with the first token all would end
			continue
		}
		events = append(events, e)
		w.turn(e)
	}
	return events, w
}

// tally is what drawn lives must have seen enough of to tell anything.
type tally struct{ said, stale, given, safe, parted int }

func (c *tally) add(w *workLife, inBetween impl.Work) {
	c.said += len(w.said)
	c.stale += w.stale
	c.given += w.given
	for _, list := range inBetween.Heard {
		c.safe += len(slices.DeleteFunc(slices.Clone(list), func(x impl.Item) bool { return x.Level != 2 }))
		if len(list) != len(inBetween.Heard[0]) {
			c.parted++
		}
	}
}

func (c *tally) enough(t *testing.T, lives int) {
	t.Helper()
	if c.said < 8*lives || c.stale < 2*lives || c.given < lives || c.safe < lives || c.parted < lives/3 {
		t.Errorf("in %d lives too little came to pass to tell: %+v", lives, *c)
	}
}

// wantEndOfLife: when the token goes on long enough, all hear all that was said, and nothing is left to be said.
func wantEndOfLife(t *testing.T, w impl.Work, held bool) {
	t.Helper()
	wantPromiseOfWork(t, w)
	for i, m := range w.Mates {
		if held && (!slices.Equal(w.Heard[i], w.Said) || len(m.Texts) > 0) {
			t.Errorf("at last %d heard %d of %d: %s", m.Id, len(w.Heard[i]), len(w.Said), shownWork(w))
		}
	}
}

func TestWorksInDrawnLives(t *testing.T) {
	l, c, lives := &lot{11}, &tally{}, 0
	for range 2 {
		for _, r := range rightRings() {
			events, byHand := drawnLife(l, r)
			w := wantRunAsByHand(t, r, events...)
			wantPromiseOfWork(t, w)
			c.add(byHand, w)
			lives++
			quiet := wantQuietAsByHand(t, w, l.below(60))
			wantPromiseOfWork(t, quiet)
			for i := range w.Heard {
				if !startsWith(quiet.Heard[i], w.Heard[i]) {
					t.Errorf("Quiet of %s forgot what was heard: %s", shownWork(w), shownWork(quiet))
				}
			}
			wantEndOfLife(t, impl.Quiet(w, 800), byHand.held > 0)
		}
	}
	c.enough(t, lives)
}

// In between each two events of a life, all must be so, and stay so when all hear at once.
func TestWorksInBetween(t *testing.T) {
	l, c, lives := &lot{1111}, &tally{}, 0
	for _, r := range rightRings() {
		events, byHand := drawnLife(l, r)
		lives++
		before, _, _ := impl.RunWork(r, nil)
		for count := range len(events) + 1 {
			w, numbers, ok := impl.RunWork(r, events[:count])
			if !ok || len(numbers) != count {
				t.Fatalf("RunWork(%v, %v): %v, %t", r, events[:count], numbers, ok)
			}
			wantPromiseOfWork(t, w)
			wantPromiseOfWork(t, impl.Quiet(w, 0))
			if !startsWith(w.Said, before.Said) {
				t.Errorf("what was said is another one: %s", shownWork(w))
			}
			for i := range w.Mates {
				wantGoesOn(t, "an event", before.Mates[i], w.Mates[i])
				if !startsWith(w.Heard[i], before.Heard[i]) {
					t.Errorf("what was heard is another one: %s", shownWork(w))
				}
			}
			before = w
		}
		wantRunAsByHand(t, r, events...)
		c.add(byHand, before)
	}
	c.enough(t, lives)
}

// Every short life of a ring of two is tried, of the events that change what is on the way.
func TestWorksOfEveryShortLife(t *testing.T) {
	r := smallRing(1, 2)
	turns := []impl.Turn{turn(impl.EvToken, 1, 0), turn(impl.EvItem, 1, 1), turn(impl.EvLose, 1, 0), turn(impl.EvTwice, 2, 1), turn(impl.EvAgain, 1, 0), turn(impl.EvAgain, 2, 0), saying(2, 2, "b")}
	letters := ""
	for i := range turns {
		letters += string(rune('0' + i))
	}
	everyText(5, letters, func(s string) {
		events := []impl.Turn{saying(1, 2, "a"), turn(impl.EvToken, 1, 0)}
		for _, b := range []byte(s) {
			events = append(events, turns[b-'0'])
		}
		events = append(events, turn(impl.EvHear, 1, 0), turn(impl.EvHear, 2, 0))
		wantPromiseOfWork(t, wantRunAsByHand(t, r, events...))
	})
}

// room is memory that a list or a text takes.
type room struct {
	from, to uintptr
	what     string
}

// roomsWithin are the rooms of all lists and texts within a value, spare room and all.
func roomsWithin(what string, v reflect.Value) []room {
	var list []room
	switch v.Kind() {
	case reflect.Slice:
		if v.Cap() > 0 {
			list = append(list, room{v.Pointer(), v.Pointer() + uintptr(v.Cap())*v.Type().Elem().Size(), what})
		}
		for i := range v.Len() {
			list = append(list, roomsWithin(fmt.Sprintf("%s[%d]", what, i), v.Index(i))...)
		}
	case reflect.String:
		if s := v.String(); s != "" {
			from := uintptr(unsafe.Pointer(unsafe.StringData(s)))
			list = append(list, room{from, from + uintptr(len(s)), what})
		}
	case reflect.Struct:
		for i := range v.NumField() {
			list = append(list, roomsWithin(what+"."+v.Type().Field(i).Name, v.Field(i))...)
		}
	}
	return list
}

// wantRoomsApart fails where any two of the rooms share memory.
func wantRoomsApart(t *testing.T, call string, rooms ...room) {
	t.Helper()
	slices.SortFunc(rooms, func(a, b room) int { return cmp.Compare(a.from, b.from) })
	for i := 1; i < len(rooms); i++ {
		if rooms[i-1].to > rooms[i].from {
			t.Errorf("%s: %s and %s share memory", call, rooms[i-1].what, rooms[i].what)
		}
		rooms[i].to = max(rooms[i].to, rooms[i-1].to)
	}
}

// keeper makes arguments whose lists have spare room on both sides and whose texts lie in bytes of their own, and looks after all that memory.
type keeper struct {
	memory [][]byte
	before [][]byte
	rooms  []room
}

func (k *keeper) keep(memory []byte) {
	k.memory = append(k.memory, memory)
	from := uintptr(unsafe.Pointer(unsafe.SliceData(memory)))
	k.rooms = append(k.rooms, room{from, from + uintptr(len(memory)), "an argument"})
}

func (k *keeper) copyOf(v reflect.Value) reflect.Value {
	own := reflect.New(v.Type()).Elem()
	own.Set(v)
	switch v.Kind() {
	case reflect.Slice:
		whole := reflect.MakeSlice(v.Type(), v.Len()+9, v.Len()+9)
		for i := range whole.Len() {
			if v.Len() > 0 {
				whole.Index(i).Set(k.copyOf(v.Index((i + v.Len() - 2%v.Len()) % v.Len())))
			}
		}
		k.keep(unsafe.Slice((*byte)(whole.UnsafePointer()), uintptr(whole.Len())*v.Type().Elem().Size()))
		own.Set(whole.Slice3(2, 2+v.Len(), whole.Len()))
	case reflect.String:
		text := newArgument(v.String())
		k.keep(text.whole)
		own.SetString(text.text)
	case reflect.Struct:
		for i := range v.NumField() {
			own.Field(i).Set(k.copyOf(v.Field(i)))
		}
	}
	return own
}

func kept[T any](k *keeper, x T) T { return k.copyOf(reflect.ValueOf(x)).Interface().(T) }

func (k *keeper) ready() {
	k.before = nil
	for _, memory := range k.memory {
		k.before = append(k.before, bytes.Clone(memory))
	}
}

// untouched fails when an argument was written to, when an answer lies in its memory, or when two lists of the answer share any.
func (k *keeper) untouched(t *testing.T, call string, answers ...any) {
	t.Helper()
	if !slices.EqualFunc(k.memory, k.before, bytes.Equal) {
		t.Errorf("%s wrote into its argument", call)
	}
	var own []room
	for i, answer := range answers {
		own = append(own, roomsWithin(fmt.Sprintf("result %d", i), reflect.ValueOf(answer))...)
	}
	wantRoomsApart(t, call, slices.Clone(own)...)
	wantRoomsApart(t, call+", with its argument", slices.Concat(own, k.rooms)...)
}

func TestKeeperCopiesAll(t *testing.T) {
	r, events := lifeToTell()
	w, _, _ := runByHand(r, events)
	k := &keeper{}
	own := kept(k, w)
	k.ready()
	if !sameWork(own, w) || len(k.rooms) < 50 || len(roomsWithin("", reflect.ValueOf(own))) < 50 {
		t.Errorf("kept: %s; want %s", shownWork(own), shownWork(w))
	}
	if spare := own.Said[:len(own.Said)+1]; !slices.Contains(w.Said, spare[len(own.Said)]) {
		t.Errorf("the spare room has %v", spare)
	}
}

func livesToLookAt() ([]impl.Ring, [][]impl.Turn) {
	r, events := lifeToTell()
	rings, lives := []impl.Ring{r, smallRing(2), smallRing(1, 2), smallRing(5)}, [][]impl.Turn{events, nil, {saying(2, 2, "a"), turn(impl.EvTwice, 1, 0)}, fillUp(smallRing(5))}
	l := &lot{111}
	for i := range 60 {
		r := rightRings()[(i*41)%len(rightRings())]
		events, _ := drawnLife(l, r)
		rings, lives = append(rings, r), append(lives, events)
	}
	return rings, lives
}

func TestRunWorkLeavesArgumentsAlone(t *testing.T) {
	rings, lives := livesToLookAt()
	for i := range rings {
		for _, wrong := range [][]impl.Turn{nil, {{Kind: 8, Text: "a"}}} {
			k := &keeper{}
			r, events := kept(k, rings[i]), kept(k, append(slices.Clone(lives[i]), wrong...))
			k.ready()
			w, numbers, _ := impl.RunWork(r, events)
			k.untouched(t, "RunWork", w, numbers)
			fresh, _ := impl.WorkNew(r)
			k.untouched(t, "WorkNew", fresh)
			for _, e := range events {
				impl.TurnOk(r, e)
			}
			k.untouched(t, "TurnOk")
			other, again, _ := impl.RunWork(r, events)
			k.untouched(t, "RunWork twice", w, numbers, other, again, fresh)
		}
	}
	for _, r := range wrongRings() {
		k := &keeper{}
		own := kept(k, r)
		k.ready()
		w, numbers, _ := impl.RunWork(own, nil)
		fresh, _ := impl.WorkNew(own)
		k.untouched(t, "RunWork and WorkNew of a wrong ring", w, numbers, fresh)
	}
}

func TestQuietLeavesArgumentsAlone(t *testing.T) {
	rings, lives := livesToLookAt()
	var works []impl.Work
	for i, w := range strangeWorks() {
		if i%7 == 0 && len(w.Ring.Members) < 10 && len(w.Mates) < 4 {
			works = append(works, w)
		}
	}
	for i := range rings {
		w, _, _ := runByHand(rings[i], lives[i])
		lost := w
		lost.Flying = nil
		works = append(works, w, lost)
	}
	for _, w := range works {
		k := &keeper{}
		own := kept(k, w)
		k.ready()
		for _, steps := range []int{-1, 0, 1, 2, 30} {
			got := impl.Quiet(own, steps)
			k.untouched(t, "Quiet", got)
			k.untouched(t, "Quiet twice", got, impl.Quiet(own, steps))
		}
		impl.OneOrder(own.Heard)
		impl.SafeHeard(own)
		k.untouched(t, "OneOrder and SafeHeard")
	}
}

// One list may stand in many places of a Work: the answer has one for each.
func TestQuietPartsOneListInMany(t *testing.T) {
	one, texts, items := []int{1, 2}, []string{"a", "b"}, itemsOf(1, 2)
	token := impl.Token{Conf: 1, Round: 3, Seq: 2, Wants: one}
	r := impl.Ring{Id: 1, Members: one}
	m := impl.Mate{Id: 1, Ring: r, Items: items, Level: one, Texts: texts, Last: token}
	n := m
	n.Id = 2
	w := impl.Work{Ring: r, Mates: []impl.Mate{m, n}, Flying: []impl.Fly{tokenTo(1, token), tokenTo(2, token), itemTo(1, items[0]), itemTo(2, items[0])}, Heard: [][]impl.Item{items, items}, Said: items}
	for steps := range 12 {
		wantRoomsApart(t, "Quiet", roomsWithin("it", reflect.ValueOf(wantQuietAsByHand(t, w, steps)))...)
	}
}

// What is put on the way twice is two: a change of one token leaves the other one, and Last, alone.
func TestToldTwiceIsTwo(t *testing.T) {
	r := smallRing(1, 3, 4)
	events := []impl.Turn{saying(1, 1, "a"), turn(impl.EvToken, 1, 0), turn(impl.EvLose, 1, 0), turn(impl.EvToken, 1, 1), turn(impl.EvTwice, 1, 1), turn(impl.EvAgain, 3, 0)}
	w := wantRunAsByHand(t, r, events...)
	want := impl.Token{Conf: 2, Round: 3, Seq: 1, Aru: 0, By: 3, Wants: []int{1}}
	wantFlying(t, w, itemTo(4, w.Said[0]), tokenTo(4, want), tokenTo(4, want), tokenTo(4, want))
	w.Flying[1].Tok.Wants[0] = 9
	if w.Flying[2].Tok.Wants[0] != 1 || w.Flying[3].Tok.Wants[0] != 1 || w.Mates[1].Last.Wants[0] != 1 {
		t.Errorf("tokens told twice share their Wants: %s", shownWork(w))
	}
}

func TestWorksDoNotLookIntoSpareRoom(t *testing.T) {
	members, events := []int{1, 3, 4}, []impl.Turn{saying(1, 1, "a"), turn(impl.EvToken, 1, 0), turn(impl.EvToken, 3, 0), turn(impl.EvToken, 4, 0), {}}
	r := impl.Ring{Id: 2, Members: members[:2]}
	w := wantRunAsByHand(t, r, events[:3]...)
	wantNotRun(t, r, events[:4])
	w.Flying = append(w.Flying, tokenTo(4, impl.Token{}))[:len(w.Flying)]
	w.Mates = append(w.Mates, impl.Mate{Id: 4})[:2]
	w.Heard = append(w.Heard, itemsOf(9))[:2]
	for steps := range 10 {
		wantPromiseOfWork(t, wantQuietAsByHand(t, w, steps))
	}
	lists := [][]impl.Item{itemsOf(1), itemsOf(1, 2), itemsOf(3)}
	wantOneOrder(t, true, lists[:2]...)
	lists[0] = itemsOf(1, 3)[:1]
	wantOneOrder(t, true, lists[:2]...)
}

func TestTwoFromOneWork(t *testing.T) {
	r, events := lifeToTell()
	w := wantRunAsByHand(t, r, events...)
	before := shownWork(w)
	for steps := range 20 {
		one := impl.Quiet(w, steps)
		two := wantQuietAsByHand(t, w, steps+1)
		wantQuietAsByHand(t, w, steps)
		wantQuietAsByHand(t, one, 3)
		wantQuietAsByHand(t, two, 3)
	}
	if shownWork(w) != before {
		t.Errorf("the Work became %s; was %s", shownWork(w), before)
	}
}

func TestWorksKeepNothing(t *testing.T) {
	r, events := lifeToTell()
	for range 3 {
		w := wantRunAsByHand(t, r, events...)
		wantWorkNew(t, r, newWorkLife(r).work(), true)
		wantNotRun(t, r, append(slices.Clone(events), impl.Turn{}))
		wantWorkNew(t, impl.Ring{}, impl.Work{}, false)
		wantQuietAsByHand(t, w, 9)
		wantTurnOk(t, r, events[0], true)
		wantOneOrder(t, true, w.Heard...)
		wantSafeHeard(t, w, true)
		w.Ring.Members[0], w.Mates[0].Ring.Members[1], w.Mates[0].Items[0], w.Said[0], w.Flying[0] = 9, 9, impl.Item{}, impl.Item{}, impl.Fly{}
	}
}
