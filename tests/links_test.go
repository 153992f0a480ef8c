package tests

import (
	"fmt"
	"math"
	"slices"
	"strings"
	"testing"

	"loop.example/g00183/impl"
)

func endRightByHand(e impl.End) bool {
	if e.Acked < 0 || e.Acked > 1000 || e.Got < 0 || e.Got > 1000 || e.Got != len(e.Out) || len(e.Queue) > 30 {
		return false
	}
	// Counted up from Acked, as no sum of a wild Next can be leaned on.
	sent := slices.Index([]int{e.Acked, e.Acked + 1, e.Acked + 2, e.Acked + 3, e.Acked + 4}, e.Next)
	if sent < 0 || sent > len(e.Queue) {
		return false
	}
	tooLong := func(text string) bool { return len(text) > 60 }
	return !slices.ContainsFunc(slices.Concat(e.Queue, e.Out), tooLong)
}

func offerByHand(e impl.End, s string) (impl.End, bool) {
	if !endRightByHand(e) || len(s) > 60 || len(e.Queue) > 29 || e.Acked+len(e.Queue) > 999 {
		return impl.End{}, false
	}
	e.Queue = slices.Concat(e.Queue, []string{s})
	return e, true
}

// parcelsByHand goes through all of Queue and leaves out what is not asked for.
func parcelsByHand(e impl.End, above, last int) []impl.Parcel {
	var list []impl.Parcel
	num := e.Acked
	for _, text := range e.Queue {
		num++
		if num > above && num <= last {
			list = append(list, impl.Parcel{Num: num, Ack: e.Got, Text: text})
		}
	}
	return list
}

func sendNewByHand(e impl.End) (impl.End, []impl.Parcel) {
	if !endRightByHand(e) {
		return e, nil
	}
	list := parcelsByHand(e, e.Next, e.Acked+4)
	e.Next += len(list)
	return e, list
}

func sendAgainByHand(e impl.End) []impl.Parcel {
	if !endRightByHand(e) {
		return nil
	}
	list := parcelsByHand(e, e.Acked, e.Next)
	if len(list) == 0 {
		list = []impl.Parcel{{Num: 0, Ack: e.Got, Text: ""}}
	}
	return list
}

func receiveByHand(e impl.End, p impl.Parcel) (impl.End, bool) {
	if !endRightByHand(e) || p.Num < 0 || len(p.Text) > 60 {
		return e, false
	}
	for e.Acked < p.Ack && p.Ack <= e.Next {
		e.Queue = slices.Delete(slices.Clone(e.Queue), 0, 1)
		e.Acked++
	}
	if p.Num-1 != e.Got || e.Got == 1000 {
		return e, false
	}
	e.Out = slices.Concat(e.Out, []string{p.Text})
	e.Got++
	return e, true
}

// talkByHand has no texts on the way, and no ends: the numbers tell which text of the list comes.
func talkByHand(list []string, picks []int) ([]string, bool) {
	tooLong := func(text string) bool { return len(text) > 60 }
	belowNone := func(pick int) bool { return pick < 0 }
	if len(list) > 20 || len(picks) > 200 || slices.ContainsFunc(list, tooLong) || slices.ContainsFunc(picks, belowNone) {
		return nil, false
	}
	var there, back []int
	sent, acked, got := 0, 0, 0
	for _, pick := range picks {
		comes := pick%8 < 4
		switch pick % 4 {
		case 0:
			for sent < len(list) && sent < acked+4 {
				sent++
				there = append(there, sent)
			}
		case 1:
			there = append(there, fromTo(acked+1, sent)...)
			if sent == acked {
				there = append(there, 0)
			}
		case 2:
			if len(there) > 0 && comes {
				if there[0] == got+1 {
					got++
				}
				back = append(back, got)
			}
			there = there[min(1, len(there)):]
		case 3:
			if len(back) > 0 && comes && back[0] > acked {
				acked = back[0]
			}
			back = back[min(1, len(back)):]
		}
	}
	return list[:got], true
}

func sameEnd(a, b impl.End) bool {
	return a.Next == b.Next && a.Acked == b.Acked && a.Got == b.Got && slices.Equal(a.Queue, b.Queue) && slices.Equal(a.Out, b.Out)
}

func isBeginning(heard, said []string) bool {
	return len(heard) <= len(said) && slices.Equal(heard, said[:len(heard)])
}

func shownEnd(e impl.End) string {
	return fmt.Sprintf("{Next %d, Acked %d, Queue %s, Got %d, Out %s}", e.Next, e.Acked, shown(e.Queue), e.Got, shown(e.Out))
}

func shownParcel(p impl.Parcel) string {
	return fmt.Sprintf("{%d %d %.70q}", p.Num, p.Ack, p.Text)
}

func wantEndOk(t *testing.T, e impl.End, want bool) {
	t.Helper()
	if got := impl.EndOk(e); got != want {
		t.Errorf("EndOk(%s): %t; want %t", shownEnd(e), got, want)
	}
}

func wantOffer(t *testing.T, e impl.End, s string, want impl.End, wantOk bool) {
	t.Helper()
	got, ok := impl.Offer(e, s)
	if !sameEnd(got, want) || ok != wantOk {
		t.Errorf("Offer(%s, %.70q): %s, %t; want %s, %t", shownEnd(e), s, shownEnd(got), ok, shownEnd(want), wantOk)
	}
}

func wantSendNew(t *testing.T, e, want impl.End, wantList ...impl.Parcel) {
	t.Helper()
	got, list := impl.SendNew(e)
	if !sameEnd(got, want) || !slices.Equal(list, wantList) {
		t.Errorf("SendNew(%s): %s, %s; want %s, %s", shownEnd(e), shownEnd(got), shown(list), shownEnd(want), shown(wantList))
	}
}

func wantSendAgain(t *testing.T, e impl.End, want ...impl.Parcel) {
	t.Helper()
	if got := impl.SendAgain(e); !slices.Equal(got, want) {
		t.Errorf("SendAgain(%s): %s; want %s", shownEnd(e), shown(got), shown(want))
	}
}

func wantReceive(t *testing.T, e impl.End, p impl.Parcel, want impl.End, wantTaken bool) {
	t.Helper()
	got, taken := impl.Receive(e, p)
	if !sameEnd(got, want) || taken != wantTaken {
		t.Errorf("Receive(%s, %s): %s, %t; want %s, %t", shownEnd(e), shownParcel(p), shownEnd(got), taken, shownEnd(want), wantTaken)
	}
}

func wantTalk(t *testing.T, list []string, picks []int, want []string, wantOk bool) {
	t.Helper()
	got, ok := impl.Talk(list, picks)
	if !slices.Equal(got, want) || ok != wantOk {
		t.Errorf("Talk(%s, %s): %s, %t; want %s, %t", shown(list), shown(picks), shown(got), ok, shown(want), wantOk)
	}
}

// saidTexts have no two alike, so that one in the place of another is seen.
func saidTexts(count int) []string {
	list := []string{}
	for n := 1; n <= count; n++ {
		list = append(list, fmt.Sprintf("said %d", n))
	}
	return list
}

// endOf is an end with that many sent of so many in its Queue.
func endOf(acked, sent, queued, got int) impl.End {
	return impl.End{Next: acked + sent, Acked: acked, Queue: saidTexts(queued), Got: got, Out: saidTexts(got)}
}

func endsAround() []impl.End {
	var list []impl.End
	for _, acked := range []int{math.MinInt, -1, 0, 1, 970, 971, 996, 999, 1000, 1001, math.MaxInt} {
		for _, sent := range []int{-1001, -1, 0, 1, 3, 4, 5, 1001} {
			for _, queued := range []int{0, 1, 3, 4, 5, 29, 30, 31} {
				for _, got := range []int{0, 1, 9} {
					list = append(list, endOf(acked, sent, queued, got))
				}
			}
		}
	}
	for _, acked := range []int{0, 7} {
		for _, sent := range []int{0, 3} {
			for _, got := range []int{math.MinInt, -1, 0, 1, 2, 999, 1000, 1001, math.MaxInt} {
				for _, out := range []int{0, 1, 2, 998, 999, 1000, 1001} {
					e := endOf(acked, sent, 4, out)
					e.Got = got
					list = append(list, e)
				}
			}
		}
	}
	for _, size := range []int{59, 60, 61, impl.MaxText + 1} {
		for place := range 5 {
			queue, out := endOf(3, 2, 5, 5), endOf(3, 2, 5, 5)
			queue.Queue[place] = longText(size)
			out.Out[place] = longText(size)
			list = append(list, queue, out)
		}
	}
	return append(list, impl.End{}, impl.End{Queue: []string{}, Out: []string{}})
}

// parcelsAround have every number that an end could look at twice: its own, those beside, and those far off.
func parcelsAround(e impl.End) []impl.Parcel {
	var list []impl.Parcel
	nums := []int{math.MinInt, -1, 0, 1, e.Got - 1, e.Got, e.Got + 1, e.Got + 2, math.MaxInt}
	acks := []int{math.MinInt, -1, 0, e.Acked - 1, e.Acked, e.Acked + 1, e.Next - 1, e.Next, e.Next + 1, math.MaxInt}
	for _, num := range nums {
		for _, ack := range acks {
			for _, text := range []string{"", "new", longText(60), longText(61)} {
				list = append(list, impl.Parcel{Num: num, Ack: ack, Text: text})
			}
		}
	}
	return list
}

// lot draws the same numbers in every run.
type lot struct{ state uint64 }

func (l *lot) below(n int) int {
	l.state = l.state*6364136223846793005 + 1442695040888963407
	return int(l.state>>33) % n
}

func TestLinkConstants(t *testing.T) {
	if impl.Window != 4 || impl.MaxQueue != 30 {
		t.Error("the constants of links are not the document's")
	}
}

func TestEndOkNumbers(t *testing.T) {
	wantEndOk(t, impl.End{}, true)
	wantEndOk(t, impl.End{Queue: []string{}, Out: []string{}}, true)
	for _, acked := range []int{0, 1, 999, 1000} {
		for sent := range 5 {
			wantEndOk(t, endOf(acked, sent, 4, 0), true)
		}
		wantEndOk(t, endOf(acked, -1, 4, 0), false)
		wantEndOk(t, endOf(acked, 5, 5, 0), false)
		wantEndOk(t, endOf(acked, 5, 30, 0), false)
	}
	for _, acked := range []int{math.MinInt, math.MinInt + 3, -4, -1, 1001, math.MaxInt - 3, math.MaxInt} {
		for sent := range 5 {
			wantEndOk(t, endOf(acked, sent, 4, 0), false)
		}
	}
	for _, next := range []int{math.MinInt, -1, 6, 12, math.MaxInt} {
		wantEndOk(t, impl.End{Next: next, Acked: 7, Queue: saidTexts(5)}, false)
	}
	for next := 7; next <= 11; next++ {
		wantEndOk(t, impl.End{Next: next, Acked: 7, Queue: saidTexts(5)}, true)
	}
}

func TestEndOkQueue(t *testing.T) {
	for sent := range 5 {
		for queued := range 33 {
			wantEndOk(t, endOf(2, sent, queued, 1), queued >= sent && queued <= 30)
		}
	}
	wantEndOk(t, impl.End{Next: 1}, false)
	wantEndOk(t, endOf(0, 0, 1000, 0), false)
	wantEndOk(t, endOf(1000, 4, 30, 0), true)
}

func TestEndOkOut(t *testing.T) {
	for _, got := range []int{0, 1, 2, 30, 31, 999, 1000} {
		for _, out := range []int{got - 1, got, got + 1} {
			if out < 0 {
				continue
			}
			wantEndOk(t, impl.End{Got: got, Out: saidTexts(out)}, out == got)
		}
	}
	for _, got := range []int{math.MinInt, -1, 1001, math.MaxInt} {
		for _, out := range []int{0, 1, 1000, 1001} {
			wantEndOk(t, impl.End{Got: got, Out: saidTexts(out)}, false)
		}
	}
	wantEndOk(t, impl.End{Got: 1}, false)
	wantEndOk(t, impl.End{Out: []string{""}}, false)
}

func TestEndOkTexts(t *testing.T) {
	for _, c := range []struct {
		text string
		want bool
	}{
		{"", true}, {longText(59), true}, {longText(60), true}, {longText(61), false}, {longText(impl.MaxText + 1), false},
		{strings.Repeat("ü", 30), true}, {strings.Repeat("ü", 30) + "x", false}, // bytes count, not runes
	} {
		for place := range 30 {
			e := endOf(5, 2, 30, 30)
			e.Queue[place] = c.text
			wantEndOk(t, e, c.want)
			e = endOf(5, 2, 30, 30)
			e.Out[place] = c.text
			wantEndOk(t, e, c.want)
		}
		wantEndOk(t, impl.End{Queue: []string{c.text}}, c.want)
		wantEndOk(t, impl.End{Got: 1, Out: []string{c.text}}, c.want)
		whole := endOf(0, 0, 0, 1000)
		whole.Out[999] = c.text
		wantEndOk(t, whole, c.want)
	}
}

func TestEndOkAround(t *testing.T) {
	right := 0
	for _, e := range endsAround() {
		want := endRightByHand(e)
		wantEndOk(t, e, want)
		if want {
			right++
		}
	}
	if right < 300 {
		t.Errorf("only %d right ends to try", right)
	}
}

func TestOfferKnown(t *testing.T) {
	wantOffer(t, impl.End{}, "a", impl.End{Queue: []string{"a"}}, true)
	wantOffer(t, impl.End{}, "", impl.End{Queue: []string{""}}, true)
	wantOffer(t, impl.End{Next: 6, Acked: 5, Queue: []string{"a"}, Got: 1, Out: []string{"z"}}, "b",
		impl.End{Next: 6, Acked: 5, Queue: []string{"a", "b"}, Got: 1, Out: []string{"z"}}, true)
	for _, text := range []string{longText(60), strings.Repeat("ü", 30), strings.Repeat("\x00", 60)} {
		wantOffer(t, impl.End{}, text, impl.End{Queue: []string{text}}, true)
	}
	for _, text := range []string{longText(61), strings.Repeat("ü", 31), longText(impl.MaxText + 1)} {
		wantOffer(t, impl.End{}, text, impl.End{}, false)
		wantOffer(t, endOf(3, 2, 4, 5), text, impl.End{}, false)
	}
}

func TestOfferFull(t *testing.T) {
	wantOffer(t, endOf(3, 4, 29, 0), "said 30", endOf(3, 4, 30, 0), true)
	wantOffer(t, endOf(3, 4, 30, 0), "said 31", impl.End{}, false)
	wantOffer(t, endOf(3, 4, 31, 0), "said 32", impl.End{}, false)
	wantOffer(t, endOf(999, 0, 0, 0), "said 1", endOf(999, 0, 1, 0), true)
	wantOffer(t, endOf(1000, 0, 0, 0), "said 1", impl.End{}, false)
	wantOffer(t, endOf(1000, 0, 1, 0), "said 2", impl.End{}, false)
	wantOffer(t, endOf(1000, 4, 29, 0), "said 30", impl.End{}, false)
	wantOffer(t, endOf(995, 4, 4, 0), "said 5", endOf(995, 4, 5, 0), true)
	wantOffer(t, endOf(995, 4, 5, 0), "said 6", impl.End{}, false)
	wantOffer(t, endOf(970, 0, 29, 0), "said 30", endOf(970, 0, 30, 0), true)
	wantOffer(t, endOf(971, 0, 28, 0), "said 29", endOf(971, 0, 29, 0), true)
	wantOffer(t, endOf(971, 0, 29, 0), "said 30", impl.End{}, false)
	// What came in leaves what goes out its room.
	wantOffer(t, endOf(0, 0, 0, 1000), "said 1", endOf(0, 0, 1, 1000), true)
}

func TestOfferAround(t *testing.T) {
	for _, e := range endsAround() {
		for _, s := range []string{"", "new", longText(60), longText(61)} {
			want, ok := offerByHand(e, s)
			wantOffer(t, e, s, want, ok)
		}
	}
}

func TestSendNewKnown(t *testing.T) {
	queue := []string{"a", "b", "c", "d", "e", "f"}
	wantSendNew(t, impl.End{}, impl.End{})
	wantSendNew(t, impl.End{Got: 1, Out: []string{"z"}}, impl.End{Got: 1, Out: []string{"z"}})
	wantSendNew(t, impl.End{Queue: queue[:1]}, impl.End{Next: 1, Queue: queue[:1]}, impl.Parcel{Num: 1, Text: "a"})
	wantSendNew(t, impl.End{Queue: queue[:3]}, impl.End{Next: 3, Queue: queue[:3]},
		impl.Parcel{Num: 1, Text: "a"}, impl.Parcel{Num: 2, Text: "b"}, impl.Parcel{Num: 3, Text: "c"})
	for _, size := range []int{4, 5, 6} {
		wantSendNew(t, impl.End{Queue: queue[:size]}, impl.End{Next: 4, Queue: queue[:size]},
			impl.Parcel{Num: 1, Text: "a"}, impl.Parcel{Num: 2, Text: "b"}, impl.Parcel{Num: 3, Text: "c"}, impl.Parcel{Num: 4, Text: "d"})
	}
	// Some sent already, none acknowledged and some.
	wantSendNew(t, impl.End{Next: 2, Queue: queue, Got: 1, Out: []string{"z"}}, impl.End{Next: 4, Queue: queue, Got: 1, Out: []string{"z"}},
		impl.Parcel{Num: 3, Ack: 1, Text: "c"}, impl.Parcel{Num: 4, Ack: 1, Text: "d"})
	wantSendNew(t, impl.End{Next: 12, Acked: 10, Queue: queue[:3], Got: 2, Out: []string{"y", "z"}}, impl.End{Next: 13, Acked: 10, Queue: queue[:3], Got: 2, Out: []string{"y", "z"}},
		impl.Parcel{Num: 13, Ack: 2, Text: "c"})
	// All sent already, and as many as Window allows.
	wantSendNew(t, impl.End{Next: 13, Acked: 10, Queue: queue[:3]}, impl.End{Next: 13, Acked: 10, Queue: queue[:3]})
	wantSendNew(t, impl.End{Next: 14, Acked: 10, Queue: queue}, impl.End{Next: 14, Acked: 10, Queue: queue})
	wantSendNew(t, impl.End{Next: 999, Acked: 999, Queue: queue[:1]}, impl.End{Next: 1000, Acked: 999, Queue: queue[:1]}, impl.Parcel{Num: 1000, Text: "a"})
	wantSendNew(t, endOf(0, 0, 30, 1000), endOf(0, 4, 30, 1000),
		impl.Parcel{Num: 1, Ack: 1000, Text: "said 1"}, impl.Parcel{Num: 2, Ack: 1000, Text: "said 2"}, impl.Parcel{Num: 3, Ack: 1000, Text: "said 3"}, impl.Parcel{Num: 4, Ack: 1000, Text: "said 4"})
}

func TestSendNewOfWrongEnds(t *testing.T) {
	for _, e := range []impl.End{
		{Next: 1}, {Next: -1}, {Next: 5, Queue: saidTexts(6)}, {Acked: -1, Queue: saidTexts(2)}, {Next: 1001, Acked: 1001, Queue: saidTexts(2)}, {Got: 1, Queue: saidTexts(2)},
		{Queue: saidTexts(31)}, {Queue: []string{"a", longText(61)}}, {Queue: []string{"a"}, Got: 1, Out: []string{longText(61)}}, {Next: math.MaxInt, Acked: math.MaxInt, Queue: saidTexts(3)},
		{Next: math.MinInt, Acked: math.MinInt, Got: math.MinInt, Queue: saidTexts(3)},
	} {
		wantSendNew(t, e, e)
		wantSendAgain(t, e)
	}
}

func TestSendNewAround(t *testing.T) {
	for _, e := range endsAround() {
		want, list := sendNewByHand(e)
		wantSendNew(t, e, want, list...)
		// What was sent is not new any more.
		wantSendNew(t, want, want)
	}
}

func TestSendAgainKnown(t *testing.T) {
	queue := []string{"a", "b", "c", "d", "e", "f"}
	wantSendAgain(t, impl.End{}, impl.Parcel{})
	wantSendAgain(t, impl.End{Got: 2, Out: []string{"y", "z"}}, impl.Parcel{Ack: 2})
	// Texts that were not sent yet are not sent again.
	wantSendAgain(t, impl.End{Queue: queue}, impl.Parcel{})
	wantSendAgain(t, impl.End{Next: 9, Acked: 9, Queue: queue, Got: 1, Out: []string{"z"}}, impl.Parcel{Ack: 1})
	for _, size := range []int{1, 2, 6} {
		wantSendAgain(t, impl.End{Next: 1, Queue: queue[:size], Got: 1, Out: []string{"z"}}, impl.Parcel{Num: 1, Ack: 1, Text: "a"})
	}
	wantSendAgain(t, impl.End{Next: 12, Acked: 10, Queue: queue}, impl.Parcel{Num: 11, Text: "a"}, impl.Parcel{Num: 12, Text: "b"})
	for _, size := range []int{4, 5, 6} {
		wantSendAgain(t, impl.End{Next: 14, Acked: 10, Queue: queue[:size], Got: 1, Out: []string{"z"}},
			impl.Parcel{Num: 11, Ack: 1, Text: "a"}, impl.Parcel{Num: 12, Ack: 1, Text: "b"}, impl.Parcel{Num: 13, Ack: 1, Text: "c"}, impl.Parcel{Num: 14, Ack: 1, Text: "d"})
	}
	wantSendAgain(t, endOf(0, 0, 0, 1000), impl.Parcel{Ack: 1000})
	wantSendAgain(t, endOf(1000, 0, 0, 0), impl.Parcel{})
	wantSendAgain(t, endOf(999, 1, 1, 1), impl.Parcel{Num: 1000, Ack: 1, Text: "said 1"})
}

func TestSendAgainAround(t *testing.T) {
	for _, e := range endsAround() {
		wantSendAgain(t, e, sendAgainByHand(e)...)
	}
}

func TestReceiveAck(t *testing.T) {
	queue := []string{"a", "b", "c", "d", "e", "f"}
	before := impl.End{Next: 13, Acked: 10, Queue: queue, Got: 1, Out: []string{"z"}}
	for _, ack := range []int{math.MinInt, -1, 0, 1, 9, 10, 14, 15, 16, 17, math.MaxInt} {
		wantReceive(t, before, impl.Parcel{Ack: ack}, before, false)
	}
	for ack := 11; ack <= 13; ack++ {
		wantReceive(t, before, impl.Parcel{Ack: ack}, impl.End{Next: 13, Acked: ack, Queue: queue[ack-10:], Got: 1, Out: []string{"z"}}, false)
	}
	all := impl.End{Next: 14, Acked: 10, Queue: queue[:4]}
	wantReceive(t, all, impl.Parcel{Ack: 14}, impl.End{Next: 14, Acked: 14}, false)
	wantReceive(t, all, impl.Parcel{Ack: 15}, all, false)
	wantReceive(t, impl.End{}, impl.Parcel{Ack: 1}, impl.End{}, false)
	wantReceive(t, impl.End{Queue: queue}, impl.Parcel{Ack: 1}, impl.End{Queue: queue}, false)
	wantReceive(t, endOf(999, 1, 1, 0), impl.Parcel{Ack: 1000}, impl.End{Next: 1000, Acked: 1000}, false)
}

func TestReceiveNum(t *testing.T) {
	before := impl.End{Next: 6, Acked: 5, Queue: []string{"a"}, Got: 2, Out: []string{"y", "z"}}
	for _, num := range []int{math.MinInt, -3, -1, 0, 1, 2, 4, 5, math.MaxInt} {
		wantReceive(t, before, impl.Parcel{Num: num, Text: "new"}, before, false)
	}
	wantReceive(t, before, impl.Parcel{Num: 3, Text: "new"}, impl.End{Next: 6, Acked: 5, Queue: []string{"a"}, Got: 3, Out: []string{"y", "z", "new"}}, true)
	wantReceive(t, impl.End{}, impl.Parcel{Num: 1}, impl.End{Got: 1, Out: []string{""}}, true)
	wantReceive(t, impl.End{}, impl.Parcel{Text: "new"}, impl.End{}, false)
	wantReceive(t, impl.End{}, impl.Parcel{Num: 1, Text: longText(60)}, impl.End{Got: 1, Out: []string{longText(60)}}, true)
	for _, text := range []string{longText(61), strings.Repeat("ü", 31), longText(impl.MaxText + 1)} {
		wantReceive(t, impl.End{}, impl.Parcel{Num: 1, Text: text}, impl.End{}, false)
	}
	wantReceive(t, endOf(0, 0, 0, 998), impl.Parcel{Num: 999, Text: "said 999"}, endOf(0, 0, 0, 999), true)
	wantReceive(t, endOf(0, 0, 0, 999), impl.Parcel{Num: 1000, Text: "said 1000"}, endOf(0, 0, 0, 1000), true)
	for _, num := range []int{0, 999, 1000, 1001, 1002} {
		wantReceive(t, endOf(0, 0, 0, 1000), impl.Parcel{Num: num, Text: "new"}, endOf(0, 0, 0, 1000), false)
	}
}

func TestReceiveBoth(t *testing.T) {
	before := impl.End{Next: 7, Acked: 5, Queue: []string{"a", "b", "c"}, Got: 2, Out: []string{"y", "z"}}
	wantReceive(t, before, impl.Parcel{Num: 3, Ack: 6, Text: "new"}, impl.End{Next: 7, Acked: 6, Queue: []string{"b", "c"}, Got: 3, Out: []string{"y", "z", "new"}}, true)
	wantReceive(t, before, impl.Parcel{Num: 3, Ack: 7, Text: "new"}, impl.End{Next: 7, Acked: 7, Queue: []string{"c"}, Got: 3, Out: []string{"y", "z", "new"}}, true)
	for _, num := range []int{0, 2, 4, math.MaxInt} {
		wantReceive(t, before, impl.Parcel{Num: num, Ack: 7, Text: "new"}, impl.End{Next: 7, Acked: 7, Queue: []string{"c"}, Got: 2, Out: []string{"y", "z"}}, false)
	}
	for _, ack := range []int{math.MinInt, -1, 0, 5, 8, math.MaxInt} {
		wantReceive(t, before, impl.Parcel{Num: 3, Ack: ack, Text: "new"}, impl.End{Next: 7, Acked: 5, Queue: []string{"a", "b", "c"}, Got: 3, Out: []string{"y", "z", "new"}}, true)
	}
	// An Ack beside a Num below 0 or a text too long does not count, nor one that a full end would else take.
	for _, num := range []int{math.MinInt, -1} {
		wantReceive(t, before, impl.Parcel{Num: num, Ack: 7, Text: "new"}, before, false)
	}
	for _, num := range []int{0, 2, 3, 4} {
		wantReceive(t, before, impl.Parcel{Num: num, Ack: 7, Text: longText(61)}, before, false)
	}
	full := endOf(5, 2, 3, 1000)
	wantReceive(t, full, impl.Parcel{Num: 1001, Ack: 7, Text: "new"}, impl.End{Next: 7, Acked: 7, Queue: full.Queue[2:], Got: 1000, Out: full.Out}, false)
}

func TestReceiveAround(t *testing.T) {
	for _, e := range endsAround() {
		for _, p := range parcelsAround(e) {
			want, taken := receiveByHand(e, p)
			wantReceive(t, e, p, want, taken)
		}
	}
}

func TestReceiveStaysRight(t *testing.T) {
	for _, e := range endsAround() {
		// An end that Offer made never has more than 1000 together.
		if !endRightByHand(e) || e.Acked+len(e.Queue) > 1000 {
			continue
		}
		for _, p := range parcelsAround(e) {
			after, taken := impl.Receive(e, p)
			if !impl.EndOk(after) {
				t.Errorf("Receive(%s, %s): %s, which is not right", shownEnd(e), shownParcel(p), shownEnd(after))
			}
			again, twice := impl.Receive(after, p)
			if twice || !sameEnd(again, after) {
				t.Errorf("%s, taken %t, comes to %s again: %s, %t", shownParcel(p), taken, shownEnd(after), shownEnd(again), twice)
			}
		}
		offered, ok := impl.Offer(e, "new")
		sent, _ := impl.SendNew(e)
		if ok && !impl.EndOk(offered) || !impl.EndOk(sent) {
			t.Errorf("Offer or SendNew of %s is not right", shownEnd(e))
		}
	}
}

// pair is two ends that both tell and hear; what is on the way stays there, to come late, or twice, or never.
type pair struct {
	ends [2]impl.End
	said [2][]string
	ways [2][]impl.Parcel
}

func (p *pair) say(side int, text string) {
	after, ok := impl.Offer(p.ends[side], text)
	if ok {
		p.ends[side] = after
		p.said[side] = append(p.said[side], text)
	}
}

func (p *pair) sendNew(side int) {
	after, parcels := impl.SendNew(p.ends[side])
	p.ends[side] = after
	p.ways[side] = append(p.ways[side], parcels...)
}

func (p *pair) sendAgain(side int) {
	p.ways[side] = append(p.ways[side], impl.SendAgain(p.ends[side])...)
}

// come has a parcel come to the other side.
func (p *pair) come(side, place int) bool {
	after, taken := impl.Receive(p.ends[1-side], p.ways[side][place])
	p.ends[1-side] = after
	return taken
}

func (p *pair) hold(t *testing.T, call string) {
	t.Helper()
	for side := range 2 {
		if !impl.EndOk(p.ends[side]) {
			t.Fatalf("%s: the end %s is not right", call, shownEnd(p.ends[side]))
		}
		if !isBeginning(p.ends[1-side].Out, p.said[side]) {
			t.Fatalf("%s: heard %s of %s", call, shown(p.ends[1-side].Out), shown(p.said[side]))
		}
		if p.ends[side].Acked > p.ends[1-side].Got {
			t.Fatalf("%s: %d are acknowledged, %d came", call, p.ends[side].Acked, p.ends[1-side].Got)
		}
	}
}

func TestLinkInDrawnLives(t *testing.T) {
	heard := 0
	for life := range 200 {
		draw := &lot{state: uint64(life)}
		p := &pair{}
		for step := range 300 {
			side := draw.below(2)
			switch deed := draw.below(10); {
			case deed < 2:
				p.say(side, fmt.Sprintf("said %d of %d", step, side))
			case deed < 4:
				p.sendNew(side)
			case deed < 5:
				p.sendAgain(side)
			case len(p.ways[side]) > 0:
				// Mostly one of the last, now and then one that is as old as can be.
				place := draw.below(len(p.ways[side]))
				if draw.below(4) > 0 {
					place = max(place, len(p.ways[side])-1-draw.below(5))
				}
				p.come(side, place)
				if p.come(side, place) {
					t.Fatalf("life %d, step %d: %s was taken twice", life, step, shownParcel(p.ways[side][place]))
				}
			}
			p.hold(t, fmt.Sprintf("life %d, step %d", life, step))
		}
		heard += p.ends[0].Got + p.ends[1].Got
	}
	if heard < 2000 {
		t.Errorf("only %d texts were heard in all these lives", heard)
	}
}

func TestLinkBringsAllOver(t *testing.T) {
	p := &pair{}
	for round := range 400 {
		for n := range 4 {
			for side := range 2 {
				p.say(side, fmt.Sprintf("%d, %d of %d", round, n, side))
			}
		}
		for side := range 2 {
			p.sendNew(side)
			for place := range p.ways[side] {
				if taken := p.come(side, place); taken != (p.ways[side][place].Num > 0) {
					t.Fatalf("round %d: %s was taken: %t", round, shownParcel(p.ways[side][place]), taken)
				}
			}
			p.ways[side] = nil
		}
		// Who told first has not told yet what it heard since, and who told last may have nothing more to tell.
		for _, side := range []int{1, 0} {
			p.sendAgain(side)
			p.come(side, 0)
			p.ways[side] = nil
		}
		p.hold(t, fmt.Sprintf("round %d", round))
	}
	for side := range 2 {
		e := p.ends[side]
		if e.Got != 1000 || len(p.said[side]) != 1000 || !slices.Equal(p.ends[1-side].Out, p.said[side]) {
			t.Errorf("of %d said, %d came", len(p.said[side]), p.ends[1-side].Got)
		}
		if e.Acked != 1000 || len(e.Queue) != 0 {
			t.Errorf("all came, and the end is %s", shownEnd(e))
		}
		wantOffer(t, e, "one more", impl.End{}, false)
		wantReceive(t, e, impl.Parcel{Num: 1001, Text: "one more"}, e, false)
	}
}

func TestTalkKnown(t *testing.T) {
	list := []string{"a", "b", "c", "d", "e", "f"}
	for _, c := range []struct {
		picks []int
		heard int
	}{
		{nil, 0}, {[]int{}, 0}, {[]int{0}, 0}, {[]int{1}, 0}, {[]int{2}, 0}, {[]int{3}, 0},
		{[]int{0, 2}, 1}, {[]int{0, 2, 2}, 2}, {[]int{0, 2, 2, 2, 2}, 4},
		// Window holds back what comes behind it, until it is told what came.
		{[]int{0, 2, 2, 2, 2, 0, 2, 2}, 4},
		{[]int{0, 2, 3, 0, 2, 2, 2, 2}, 5},
		{[]int{0, 2, 2, 3, 3, 0, 2, 2, 2, 2}, 6},
		{[]int{0, 2, 2, 3, 0, 2, 2, 2, 2}, 5},
		// What is lost does not come, and what is behind it is not taken.
		{[]int{0, 6}, 0}, {[]int{0, 6, 2, 2, 2}, 0}, {[]int{0, 2, 6, 2, 2}, 1}, {[]int{0, 6, 6, 6, 6, 2}, 0},
		{[]int{0, 6, 1, 2, 2, 2, 2}, 1}, {[]int{0, 6, 1, 2, 2, 2, 2, 2, 2, 2}, 4},
		// What comes twice is taken once.
		{[]int{0, 1, 2, 2, 2, 2, 2, 2, 2, 2}, 4}, {[]int{0, 1, 1, 2, 2, 2, 2, 2, 2, 2, 2}, 4},
		// What is sent again is what was sent; what is acknowledged is not sent again.
		{[]int{0, 2, 3, 1, 2, 2, 2, 2, 2, 2}, 4}, {[]int{0, 6, 6, 6, 6, 1, 2, 2, 2, 2}, 4}, {[]int{0, 2, 3, 6, 6, 6, 1, 2, 2, 2, 2}, 4},
		{[]int{0, 2, 3, 6, 6, 6, 1, 0, 2, 2, 2, 2}, 5},
		// Without any sent, the bare Parcel is on the way like others.
		{[]int{1, 0, 2}, 0}, {[]int{1, 0, 2, 2}, 1}, {[]int{1, 0, 6, 2}, 1}, {[]int{1, 1, 0, 2, 2, 2}, 1},
		// What is lost on the way back is not known, until a later one tells it.
		{[]int{0, 2, 7, 0, 2, 2, 2, 2}, 4},
		{[]int{0, 2, 2, 7, 3, 0, 2, 2, 2, 2}, 6},
		{[]int{0, 2, 2, 3, 7, 0, 2, 2, 2, 2}, 5},
		// A Parcel that is not taken is answered too: three that tell nothing stand ahead of the one that does.
		{[]int{0, 6, 2, 1, 2, 2, 2, 3, 3, 3, 0, 2, 2, 2, 2}, 4},
		{[]int{0, 6, 2, 1, 2, 2, 2, 3, 3, 3, 3, 0, 2, 2, 2, 2}, 5},
		// A bare Parcel is answered: its answer, that tells nothing, stands ahead on the way back.
		{[]int{1, 2, 0, 2, 3, 0, 2, 2, 2, 2}, 4}, {[]int{1, 2, 0, 2, 3, 3, 0, 2, 2, 2, 2}, 5},
		// A lost Parcel is not answered.
		{[]int{1, 6, 0, 2, 3, 0, 2, 2, 2, 2}, 5},
		// Losing where nothing is on the way loses nothing later.
		{[]int{6, 0, 2}, 1}, {[]int{7, 0, 2, 3, 0, 2, 2, 2, 2}, 5}, {[]int{2, 3, 0, 2}, 1},
		// Sending is lost at no pick: nothing would come at it.
		{[]int{4, 2}, 1}, {[]int{0, 6, 6, 6, 6, 5, 2}, 1}, {[]int{12, 2}, 1}, {[]int{8, 2}, 1},
		// Only whether pick by 4 is odd counts.
		{[]int{0, 10}, 1}, {[]int{0, 14, 2}, 0}, {[]int{0, 2, 11, 0, 2, 2, 2, 2}, 5}, {[]int{0, 2, 15, 0, 2, 2, 2, 2}, 4},
		{[]int{0, 18, 26}, 2}, {[]int{0, 22, 2, 2}, 0}, {[]int{9, 2, 2}, 0},
		// The greatest int loses the first one on the way back; those below it do the other things.
		{[]int{0, 2, math.MaxInt, 0, 2, 2, 2, 2}, 4}, {[]int{0, 2, math.MaxInt - 4, 0, 2, 2, 2, 2}, 5},
		{[]int{0, math.MaxInt - 1, 2}, 0}, {[]int{0, math.MaxInt - 5, 2}, 2}, {[]int{math.MaxInt - 3, 2}, 1}, {[]int{0, 6, 6, 6, 6, math.MaxInt - 2, 2}, 1}, {[]int{math.MaxInt}, 0},
	} {
		wantTalk(t, list, c.picks, list[:c.heard], true)
	}
}

func TestTalkOfOtherLists(t *testing.T) {
	wantTalk(t, nil, nil, nil, true)
	wantTalk(t, []string{}, []int{}, nil, true)
	wantTalk(t, nil, []int{0, 1, 2, 3, 0, 2, 1, 6, 7}, nil, true)
	wantTalk(t, []string{""}, []int{0, 2}, []string{""}, true)
	wantTalk(t, []string{"", "", ""}, []int{0, 2, 2}, []string{"", ""}, true)
	wantTalk(t, []string{"x", "x", "y"}, []int{0, 1, 2, 2, 2, 2, 2, 2}, []string{"x", "x", "y"}, true)
	wantTalk(t, []string{"\x00\xff", "grüße"}, []int{0, 2, 2}, []string{"\x00\xff", "grüße"}, true)
	wantTalk(t, []string{"x", "y"}, []int{0, 6, 1, 2, 2}, []string{"x"}, true)
}

func TestTalkBringsAllOver(t *testing.T) {
	for size := range 21 {
		list := saidTexts(size)
		var picks []int
		for n := range size {
			wantTalk(t, list, picks, list[:n], true)
			picks = append(picks, 0, 2, 3)
		}
		wantTalk(t, list, picks, list, true)
		wantTalk(t, list, append(picks, 0, 1, 2, 2, 3, 3), list, true)
	}
}

func TestTalkLimits(t *testing.T) {
	wantTalk(t, saidTexts(20), []int{0, 2}, []string{"said 1"}, true)
	wantTalk(t, saidTexts(21), []int{0, 2}, nil, false)
	wantTalk(t, saidTexts(21), nil, nil, false)
	wantTalk(t, saidTexts(31), []int{0, 2}, nil, false)
	wantTalk(t, make([]string, 5000), nil, nil, false)
	for _, size := range []int{20, 1} {
		for place := range size {
			list := saidTexts(size)
			list[place] = longText(60)
			wantTalk(t, list, []int{0, 2}, list[:1], true)
			for _, long := range []int{61, impl.MaxText + 1} {
				list[place] = longText(long)
				wantTalk(t, list, []int{0, 2}, nil, false)
				wantTalk(t, list, nil, nil, false)
			}
		}
	}
	all := make([]int, 200)
	all[199] = 2
	wantTalk(t, []string{"a"}, all, []string{"a"}, true)
	wantTalk(t, []string{"a"}, append(all, 0), nil, false)
	wantTalk(t, nil, make([]int, 201), nil, false)
	wantTalk(t, nil, make([]int, 5000), nil, false)
	for _, below := range []int{-1, -2, -4, -8, math.MinInt, math.MinInt + 1} {
		for _, place := range []int{0, 1, 100, 199} {
			picks := slices.Clone(all)
			picks[place] = below
			wantTalk(t, []string{"a"}, picks, nil, false)
		}
		wantTalk(t, nil, []int{below}, nil, false)
	}
}

func TestTalkOfEveryShortLife(t *testing.T) {
	list := []string{"a", "b", "c", "d", "e"}
	for size := range 7 {
		everyText(size, "\x00\x01\x02\x03\x04\x05\x06\x07", func(text string) {
			var picks []int
			for _, b := range []byte(text) {
				picks = append(picks, int(b))
			}
			want, ok := talkByHand(list, picks)
			wantTalk(t, list, picks, want, ok)
		})
	}
}

func TestTalkInDrawnLives(t *testing.T) {
	whole := 0
	for life := range 3000 {
		draw := &lot{state: uint64(life)}
		list := saidTexts(draw.below(21))
		picks := make([]int, draw.below(201))
		odds := 1 + draw.below(8)
		for i := range picks {
			picks[i] = draw.below(4) + 8*draw.below(1000)
			// The fewer are lost, the further a life comes.
			if draw.below(odds) == 0 {
				picks[i] += 4
			}
		}
		want, ok := talkByHand(list, picks)
		wantTalk(t, list, picks, want, ok)
		heard, right := impl.Talk(list, picks)
		if !right || !isBeginning(heard, list) {
			t.Errorf("Talk(%s, %s): %s, %t", shown(list), shown(picks), shown(heard), right)
		}
		if len(list) > 4 && len(heard) == len(list) {
			whole++
		}
	}
	if whole < 100 {
		t.Errorf("only in %d lives a longer list came over whole", whole)
	}
}

// endArguments are an end whose texts lie in memory that the test can look at, in lists with spare room on both sides.
type endArguments struct {
	end    impl.End
	before impl.End
	texts  []argument
	queue  []string
	out    []string
}

func newEndArguments(e impl.End) *endArguments {
	a := &endArguments{before: e}
	a.queue = a.list(e.Queue)
	a.out = a.list(e.Out)
	e.Queue = a.queue[1 : 1+len(e.Queue)]
	e.Out = a.out[1 : 1+len(e.Out)]
	a.end = e
	return a
}

func (a *endArguments) list(texts []string) []string {
	whole := []string{"ahead"}
	for _, text := range texts {
		arg := newArgument(text)
		a.texts = append(a.texts, arg)
		whole = append(whole, arg.text)
	}
	return append(whole, "behind", "and more", "and most")
}

// untouched holds the lists too: the bytes of a text may stay while another stands in its place.
func (a *endArguments) untouched(t *testing.T, call string, answers ...string) {
	t.Helper()
	for _, text := range a.texts {
		text.untouched(t, call, answers...)
	}
	behind := []string{"behind", "and more", "and most"}
	if !slices.Equal(a.queue, slices.Concat([]string{"ahead"}, a.before.Queue, behind)) || !slices.Equal(a.out, slices.Concat([]string{"ahead"}, a.before.Out, behind)) {
		t.Errorf("%s of %s: wrote into its lists", call, shownEnd(a.before))
	}
}

func textsOf(parcels []impl.Parcel) []string {
	var list []string
	for _, p := range parcels {
		list = append(list, p.Text)
	}
	return list
}

// apart fails when two lists of texts share memory: their own, or that of their texts.
func apart(t *testing.T, call string, a, b []string) {
	t.Helper()
	if overlap(a, b) {
		t.Errorf("%s: two lists share their room", call)
	}
	for _, text := range a {
		for _, other := range b {
			if overlap(bytesOf(text), bytesOf(other)) {
				t.Errorf("%s: two lists share the text %.60q", call, text)
			}
		}
	}
}

func endsToLookAt() []impl.End {
	return []impl.End{
		{}, endOf(0, 0, 0, 3), endOf(0, 0, 6, 0), endOf(7, 2, 6, 3), endOf(7, 4, 4, 2), endOf(3, 1, 29, 2), endOf(3, 1, 30, 2), endOf(999, 1, 1, 1),
		{Next: -1, Queue: saidTexts(3), Got: 2, Out: saidTexts(2)}, {Queue: []string{longText(61), "a"}, Out: []string{"b"}}, endOf(0, 5, 6, 1), endOf(0, 0, 31, 1), // not right
	}
}

func TestLinksLeaveEndsAlone(t *testing.T) {
	for _, e := range endsToLookAt() {
		a := newEndArguments(e)
		impl.EndOk(a.end)
		a.untouched(t, "EndOk")
		for _, s := range []string{"", "new", longText(60), longText(61)} {
			text := newArgument(s)
			after, _ := impl.Offer(a.end, text.text)
			answers := slices.Concat(after.Queue, after.Out)
			text.untouched(t, "Offer", answers...)
			a.untouched(t, "Offer", answers...)
			apart(t, "Offer", after.Queue, after.Out)
			apart(t, "Offer", a.end.Queue, after.Queue)
			apart(t, "Offer", a.end.Out, after.Out)
		}
		after, parcels := impl.SendNew(a.end)
		a.untouched(t, "SendNew", slices.Concat(after.Queue, after.Out, textsOf(parcels))...)
		apart(t, "SendNew", after.Queue, after.Out)
		apart(t, "SendNew, Queue and parcels", after.Queue, textsOf(parcels))
		apart(t, "SendNew, Out and parcels", after.Out, textsOf(parcels))
		apart(t, "SendNew", a.end.Queue, after.Queue)
		apart(t, "SendNew", a.end.Out, after.Out)
		a.untouched(t, "SendAgain", textsOf(impl.SendAgain(a.end))...)
		for _, p := range parcelsAround(e) {
			text := newArgument(p.Text)
			p.Text = text.text
			after, _ := impl.Receive(a.end, p)
			answers := slices.Concat(after.Queue, after.Out)
			text.untouched(t, "Receive", answers...)
			a.untouched(t, "Receive", answers...)
			apart(t, "Receive", after.Queue, after.Out)
			apart(t, "Receive", a.end.Queue, after.Queue)
			apart(t, "Receive", a.end.Out, after.Out)
		}
	}
}

// One list may stand in both fields of an end: the answer has two.
func TestLinksPartOneListInTwo(t *testing.T) {
	both := saidTexts(3)
	for _, e := range []impl.End{{Queue: both, Got: 3, Out: both}, {Next: 2, Queue: both, Got: 3, Out: both}, {Next: -1, Queue: both, Got: 3, Out: both}} {
		offered, _ := impl.Offer(e, both[0])
		apart(t, "Offer", offered.Queue, offered.Out)
		sent, parcels := impl.SendNew(e)
		apart(t, "SendNew", sent.Queue, sent.Out)
		apart(t, "SendNew, Queue and parcels", sent.Queue, textsOf(parcels))
		apart(t, "SendNew, Out and parcels", sent.Out, textsOf(parcels))
		got, _ := impl.Receive(e, impl.Parcel{Num: 4, Ack: 1, Text: both[2]})
		apart(t, "Receive", got.Queue, got.Out)
	}
}

func TestTwoFromOneEnd(t *testing.T) {
	for _, e := range []impl.End{{}, endOf(7, 2, 6, 3), endOf(0, 0, 1, 1)} {
		a := newEndArguments(e)
		first, _ := impl.Offer(a.end, "first")
		second, _ := impl.Offer(a.end, "second")
		wantFirst, _ := offerByHand(e, "first")
		wantSecond, _ := offerByHand(e, "second")
		if !sameEnd(first, wantFirst) || !sameEnd(second, wantSecond) {
			t.Errorf("two offered to %s: %s and %s", shownEnd(e), shownEnd(first), shownEnd(second))
		}
		// Once more from an answer, whose lists may have room behind them.
		left, _ := impl.Offer(first, "left")
		right, _ := impl.Offer(first, "right")
		if left.Queue[len(left.Queue)-1] != "left" || right.Queue[len(right.Queue)-1] != "right" || !sameEnd(first, wantFirst) {
			t.Errorf("two offered to %s: %s and %s", shownEnd(first), shownEnd(left), shownEnd(right))
		}
		one, _ := impl.Receive(a.end, impl.Parcel{Num: e.Got + 1, Text: "one"})
		two, _ := impl.Receive(a.end, impl.Parcel{Num: e.Got + 1, Text: "two"})
		if one.Out[e.Got] != "one" || two.Out[e.Got] != "two" {
			t.Errorf("two came to %s: %s and %s", shownEnd(e), shownEnd(one), shownEnd(two))
		}
		three, _ := impl.Receive(one, impl.Parcel{Num: e.Got + 2, Text: "three"})
		four, _ := impl.Receive(one, impl.Parcel{Num: e.Got + 2, Text: "four"})
		if three.Out[e.Got+1] != "three" || four.Out[e.Got+1] != "four" {
			t.Errorf("two came to %s: %s and %s", shownEnd(one), shownEnd(three), shownEnd(four))
		}
		a.untouched(t, "two calls")
	}
}

func TestTalkLeavesArgumentsAlone(t *testing.T) {
	for _, texts := range [][]string{nil, saidTexts(3), saidTexts(20), saidTexts(21), {"a", longText(61)}} {
		for _, picks := range [][]int{nil, {0, 2, 3, 2, 2, 1, 6, 7}, {0, 2, -1}, make([]int, 201)} {
			a := newEndArguments(impl.End{Queue: texts})
			whole := slices.Concat([]int{99}, picks, []int{98, -97})
			before := slices.Clone(whole)
			heard, _ := impl.Talk(a.end.Queue, whole[1:1+len(picks)])
			a.untouched(t, "Talk", heard...)
			apart(t, "Talk", a.end.Queue, heard)
			if !slices.Equal(whole, before) {
				t.Errorf("Talk wrote into the picks %s", shown(picks))
			}
		}
	}
}

func TestLinksKeepNothing(t *testing.T) {
	list := []string{"a", "b", "c"}
	picks := []int{0, 2, 2}
	first, _ := impl.Talk(list, picks)
	for range 3 {
		wantTalk(t, list, picks, []string{"a", "b"}, true)
		next, _ := impl.Talk(list, picks)
		next[0] = "changed"
		wantTalk(t, list, []int{-1}, nil, false)
		wantOffer(t, impl.End{}, "a", impl.End{Queue: []string{"a"}}, true)
		wantOffer(t, impl.End{}, longText(61), impl.End{}, false)
		wantReceive(t, impl.End{}, impl.Parcel{Num: 1, Text: "a"}, impl.End{Got: 1, Out: []string{"a"}}, true)
		wantSendAgain(t, impl.End{}, impl.Parcel{})
	}
	if !slices.Equal(first, []string{"a", "b"}) {
		t.Errorf("what was heard first became %s", shown(first))
	}
}
