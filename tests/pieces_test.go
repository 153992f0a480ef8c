package tests

import (
	"fmt"
	"math"
	"slices"
	"strings"
	"testing"

	"loop.example/g00183/impl"
)

// readPiece is what ReadPiece answers of a text that is a piece.
type readPiece struct {
	num, place, count int
	part              string
}

func (x readPiece) text() string {
	return varByHand(x.num) + varByHand(x.place) + varByHand(x.count) + x.part
}

func (x readPiece) String() string {
	return fmt.Sprintf("(%d, %d, %d, %.50q of %d)", x.num, x.place, x.count, x.part, len(x.part))
}

// pieceText is a piece that may be none: any three numbers, and a part of any size.
func pieceText(num, place, count int, part string) string {
	return readPiece{num, place, count, part}.text()
}

// piecesByHand tells first how many there are, and cuts then.
func piecesByHand(num int, s string) ([]string, bool) {
	if num < 0 || num > 100000 || len(s) > 400 {
		return nil, false
	}
	count := max(1, (len(s)+39)/40)
	var list []string
	for place := range count {
		list = append(list, pieceText(num, place, count, s[40*place:min(len(s), 40*place+40)]))
	}
	return list, true
}

// readPieceByHand tries all the heads that a piece may have, once it has the number.
func readPieceByHand(text string) (readPiece, bool) {
	for size := 1; size <= min(3, len(text)); size++ {
		num := 0
		for i := size - 1; i >= 0; i-- {
			num = num*128 + int(text[i])%128
		}
		if num > 100000 || varByHand(num) != text[:size] {
			continue
		}
		for count := 1; count <= 10; count++ {
			for place := range count {
				part, ok := strings.CutPrefix(text, pieceText(num, place, count, ""))
				if ok && (len(part) == 40 || len(part) < 40 && place == count-1) {
					return readPiece{num, place, count, part}, true
				}
			}
		}
	}
	return readPiece{}, false
}

func addByHand(p impl.Pile, text string) (impl.Pile, string, bool) {
	x, ok := readPieceByHand(text)
	if !ok {
		return p, "", false
	}
	if x.place > 0 && (x.num != p.Num || x.count != p.Count || x.place != len(p.Parts)) {
		return p, "", false
	}
	parts := []string{x.part}
	if x.place > 0 {
		parts = slices.Concat(p.Parts, parts)
	}
	if x.place == x.count-1 {
		return impl.Pile{}, strings.Join(parts, ""), true
	}
	return impl.Pile{Num: x.num, Count: x.count, Parts: parts}, "", false
}

// joinByHand keeps no pile: behind each piece with place 0, up to the next such, it looks for those that go on from it.
func joinByHand(list []string) []string {
	var all []readPiece
	for _, text := range list {
		if x, ok := readPieceByHand(text); ok {
			all = append(all, x)
		}
	}
	var texts []string
	for at, first := range all {
		if first.place != 0 {
			continue
		}
		whole, next := first.part, 1
		for _, x := range all[at+1:] {
			if x.place == 0 {
				break
			}
			if x.num == first.num && x.count == first.count && x.place == next {
				whole, next = whole+x.part, next+1
			}
		}
		if next == first.count {
			texts = append(texts, whole)
		}
	}
	return texts
}

func samePile(a, b impl.Pile) bool {
	return a.Num == b.Num && a.Count == b.Count && slices.Equal(a.Parts, b.Parts)
}

func shownPile(p impl.Pile) string {
	return fmt.Sprintf("{%d %d %s}", p.Num, p.Count, shown(p.Parts))
}

func wantPieces(t *testing.T, num int, s string, want []string, wantOk bool) []string {
	t.Helper()
	list, ok := impl.Pieces(num, s)
	if !slices.Equal(list, want) || ok != wantOk {
		t.Errorf("Pieces(%d, %.20q of %d): %s, %t; want %s, %t", num, s, len(s), shown(list), ok, shown(want), wantOk)
	}
	return list
}

func wantPiecesAsByHand(t *testing.T, num int, s string) []string {
	t.Helper()
	want, wantOk := piecesByHand(num, s)
	return wantPieces(t, num, s, want, wantOk)
}

func wantPiece(t *testing.T, text string, want readPiece, wantOk bool) {
	t.Helper()
	var got readPiece
	var ok bool
	got.num, got.place, got.count, got.part, ok = impl.ReadPiece(text)
	if got != want || ok != wantOk {
		t.Errorf("ReadPiece(%.60q of %d): %v, %t; want %v, %t", text, len(text), got, ok, want, wantOk)
	}
}

func wantNoPiece(t *testing.T, text string) {
	t.Helper()
	wantPiece(t, text, readPiece{}, false)
}

// wantPieceAsByHand tells whether it was a piece, so that who asks can see to it that there were some.
func wantPieceAsByHand(t *testing.T, text string) bool {
	t.Helper()
	want, wantOk := readPieceByHand(text)
	wantPiece(t, text, want, wantOk)
	return wantOk
}

func wantAdd(t *testing.T, p impl.Pile, text string, want impl.Pile, wantWhole string, wantDone bool) impl.Pile {
	t.Helper()
	got, whole, done := impl.AddPiece(p, text)
	if !samePile(got, want) || whole != wantWhole || done != wantDone {
		t.Errorf("AddPiece(%s, %.60q): %s, %.60q, %t; want %s, %.60q, %t", shownPile(p), text, shownPile(got), whole, done, shownPile(want), wantWhole, wantDone)
	}
	return got
}

func wantAddAsByHand(t *testing.T, p impl.Pile, text string) (impl.Pile, string, bool) {
	t.Helper()
	want, whole, done := addByHand(p, text)
	wantAdd(t, p, text, want, whole, done)
	return want, whole, done
}

func wantNotAdded(t *testing.T, p impl.Pile, text string) {
	t.Helper()
	wantAdd(t, p, text, p, "", false)
}

func wantJoin(t *testing.T, list []string, want ...string) {
	t.Helper()
	if got := impl.Join(list); !slices.Equal(got, want) {
		t.Errorf("Join(%s): %s; want %s", shown(list), shown(got), shown(want))
	}
}

// numsToTry are the least and the greatest num, and those where VarText grows.
func numsToTry() []int {
	return []int{0, 1, 2, 5, 10, 126, 127, 128, 129, 255, 256, 16383, 16384, 16385, 99999, 100000}
}

// longTexts are texts of one size whose bytes look like lengths, like pieces, or differ from part to part.
func longTexts(size int) []string {
	fill := func(s string) string { return strings.Repeat(s, size/len(s)+1)[:size] }
	return []string{
		longText(size),
		fill("\x00"), fill("\x80"), fill("\xff"), fill("\x05\x00\x01"), fill("a"), fill("grüße "),
		fill(pieceText(5, 1, 3, longText(40))),
	}
}

func sizesAtEdges() []int {
	return []int{0, 1, 2, 39, 40, 41, 79, 80, 81, 119, 120, 121, 200, 359, 360, 361, 399, 400}
}

func TestPieceConstants(t *testing.T) {
	if impl.MaxLong != 400 || impl.PieceSize != 40 {
		t.Error("a constant of chapter 12 is not the document's")
	}
}

// Written out as bytes, so that the reckoning the other tests lean on is itself held to something.
func TestPiecesKnown(t *testing.T) {
	forty := strings.Repeat("a", 40)
	for _, c := range []struct {
		num  int
		text string
		want []string
	}{
		{5, "hi", []string{"\x05\x00\x01hi"}},
		{0, "", []string{"\x00\x00\x01"}},
		{100000, "", []string{"\xa0\x8d\x06\x00\x01"}},
		{127, "\x00", []string{"\x7f\x00\x01\x00"}},
		{128, "a", []string{"\x80\x01\x00\x01a"}},
		{16383, "a", []string{"\xff\x7f\x00\x01a"}},
		{16384, "a", []string{"\x80\x80\x01\x00\x01a"}},
		{7, forty[:39], []string{"\x07\x00\x01" + forty[:39]}},
		{7, forty, []string{"\x07\x00\x01" + forty}},
		{7, forty + "b", []string{"\x07\x00\x02" + forty, "\x07\x01\x02b"}},
		{300, forty + strings.Repeat("b", 40), []string{"\xac\x02\x00\x02" + forty, "\xac\x02\x01\x02" + strings.Repeat("b", 40)}},
		{0, forty + strings.Repeat("b", 40) + "c", []string{"\x00\x00\x03" + forty, "\x00\x01\x03" + strings.Repeat("b", 40), "\x00\x02\x03c"}},
	} {
		wantPieces(t, c.num, c.text, c.want, true)
		wantPiecesAsByHand(t, c.num, c.text)
		wantJoin(t, c.want, c.text)
	}
}

// The count is written out, so that it is not only as by hand.
func TestPiecesHowMany(t *testing.T) {
	for _, c := range []struct{ size, count, last int }{
		{0, 1, 0}, {1, 1, 1}, {39, 1, 39}, {40, 1, 40}, {41, 2, 1}, {79, 2, 39}, {80, 2, 40}, {81, 3, 1},
		{120, 3, 40}, {121, 4, 1}, {360, 9, 40}, {361, 10, 1}, {399, 10, 39}, {400, 10, 40},
	} {
		for _, num := range numsToTry() {
			list := wantPiecesAsByHand(t, num, longText(c.size))
			head := len(varByHand(num)) + 2
			if len(list) != c.count || len(list[c.count-1]) != head+c.last {
				t.Errorf("Pieces(%d, %d bytes): %s; want %d, the last one with %d bytes", num, c.size, shown(list), c.count, c.last)
			}
			for place, text := range list[:c.count-1] {
				if len(text) != head+40 {
					t.Errorf("Pieces(%d, %d bytes): the piece at %d has %d bytes; want %d", num, c.size, place, len(text), head+40)
				}
			}
		}
	}
}

func TestPiecesRefuse(t *testing.T) {
	texts := []string{"", "a", longText(39), longText(40), longText(41), longText(399), longText(400)}
	for _, num := range []int{-1, -2, 100001, 100002, -100000, impl.MaxNumber, impl.MaxNumber + 1, 1 << 32, 1<<32 + 5, -1 << 32, math.MinInt, math.MinInt + 1, math.MaxInt, math.MaxInt - 1} {
		for _, text := range texts {
			wantPieces(t, num, text, nil, false)
		}
	}
	for _, size := range []int{401, 402, 440, 441, 800, 65536, 65537, impl.MaxText, impl.MaxText + 1} {
		for _, text := range longTexts(size) {
			for _, num := range append(numsToTry(), -1, 100001, math.MinInt, math.MaxInt) {
				wantPieces(t, num, text, nil, false)
			}
		}
	}
	wantPiecesAsByHand(t, 100000, longText(400))
}

// wantPromiseOfPieces is the promise itself, of one text, by the program's own functions.
func wantPromiseOfPieces(t *testing.T, num int, text string) {
	t.Helper()
	list := wantPiecesAsByHand(t, num, text)
	wantJoin(t, list, text)
	var p impl.Pile
	for at, piece := range list {
		wantPieceAsByHand(t, piece)
		next, whole, done := impl.AddPiece(p, piece)
		last := at == len(list)-1
		if done != last || last && (whole != text || !samePile(next, impl.Pile{})) || !last && (whole != "" || len(next.Parts) != at+1) {
			t.Errorf("the piece at %d of Pieces(%d, %.20q of %d): %s, %.20q, %t", at, num, text, len(text), shownPile(next), whole, done)
		}
		wantAddAsByHand(t, p, piece)
		if !last {
			wantJoin(t, list[:at+1])
		}
		p = next
	}
	wantJoin(t, list[1:])
	wantJoin(t, slices.Concat(list, list), text, text)
	wantJoin(t, slices.Concat(list[1:], list), text)
}

func TestPiecesOfEveryLength(t *testing.T) {
	nums := numsToTry()
	for size := range 401 {
		for i, text := range longTexts(size) {
			wantPromiseOfPieces(t, nums[(size+i*5)%len(nums)], text)
			wantPromiseOfPieces(t, (size*249+i*7919)%100001, text)
		}
	}
}

func TestPiecesOfManyNumbers(t *testing.T) {
	for _, num := range numsToTry() {
		for _, size := range sizesAtEdges() {
			wantPromiseOfPieces(t, num, longText(size))
		}
	}
	for num := 0; num <= 100000; num += 13 {
		text := longText(num % 401)
		wantJoin(t, wantPiecesAsByHand(t, num, text), text)
	}
}

func TestPiecesOfTwoTexts(t *testing.T) {
	for _, size := range sizesAtEdges() {
		for _, other := range sizesAtEdges() {
			one, two := longText(size), strings.Repeat("b", other)
			for _, nums := range [][2]int{{5, 6}, {5, 5}, {0, 100000}, {127, 128}} {
				list, _ := impl.Pieces(nums[0], one)
				behind, _ := impl.Pieces(nums[1], two)
				wantJoin(t, slices.Concat(list, behind), one, two)
				wantJoin(t, slices.Concat(behind, list), two, one)
				wantJoin(t, slices.Concat(list[:len(list)-1], behind), two)
				wantJoin(t, slices.Concat(list, behind[:len(behind)-1]), one)
				wantJoin(t, slices.Concat(list[:len(list)-1], behind, list), two, one)
			}
		}
	}
}

func TestReadPieceKnown(t *testing.T) {
	forty := strings.Repeat("a", 40)
	for _, c := range []struct {
		text string
		want readPiece
	}{
		{"\x05\x00\x01hi", readPiece{5, 0, 1, "hi"}},
		{"\x00\x00\x01", readPiece{0, 0, 1, ""}},
		{"\xa0\x8d\x06\x00\x01x", readPiece{100000, 0, 1, "x"}},
		{"\x80\x01\x00\x01\x80", readPiece{128, 0, 1, "\x80"}},
		{"\x05\x00\x02" + forty, readPiece{5, 0, 2, forty}},
		{"\x05\x01\x02" + forty, readPiece{5, 1, 2, forty}},
		{"\x05\x01\x02a", readPiece{5, 1, 2, "a"}},
		{"\x05\x09\x0aa", readPiece{5, 9, 10, "a"}},
		{"\x05\x08\x0a" + forty, readPiece{5, 8, 10, forty}},
	} {
		wantPiece(t, c.text, c.want, true)
		wantPieceAsByHand(t, c.text)
	}
}

func TestReadPieceOfNoText(t *testing.T) {
	for _, text := range []string{"", "\x00", "\x00\x00", "\x05", "\x05\x00", "\x80", "\xa0\x8d", "\xa0\x8d\x06", "\xa0\x8d\x06\x00", "\x00\x80", "\x00\x00\x80", "\x80\x80\x80\x80\x80\x80", "hi"} {
		wantNoPiece(t, text)
	}
}

// A piece that ends early is one only where it is the last one, and ends behind its numbers.
func TestReadPieceThatEndsEarly(t *testing.T) {
	for _, num := range numsToTry() {
		for _, where := range [][2]int{{0, 1}, {0, 2}, {1, 2}, {8, 10}, {9, 10}} {
			text := pieceText(num, where[0], where[1], longText(40))
			head := len(text) - 40
			for size := range len(text) {
				if size < head || where[0] < where[1]-1 {
					wantNoPiece(t, text[:size])
				} else {
					wantPiece(t, text[:size], readPiece{num, where[0], where[1], longText(40)[:size-head]}, true)
				}
			}
			wantPiece(t, text, readPiece{num, where[0], where[1], longText(40)}, true)
			wantNoPiece(t, text+"\x00")
			wantNoPiece(t, text+text)
		}
	}
}

func TestReadPieceOfLongerNumbers(t *testing.T) {
	for _, num := range numsToTry() {
		for _, part := range []string{"", "a", longText(39), longText(40)} {
			for _, where := range [][2]int{{0, 1}, {1, 2}, {9, 10}} {
				n, place, count := varByHand(num), varByHand(where[0]), varByHand(where[1])
				wantNoPiece(t, longerVar(num)+place+count+part)
				wantNoPiece(t, n+longerVar(where[0])+count+part)
				wantNoPiece(t, n+place+longerVar(where[1])+part)
				wantPiece(t, n+place+count+part, readPiece{num, where[0], where[1], part}, true)
			}
		}
	}
}

func TestReadPieceNums(t *testing.T) {
	for _, part := range []string{"", "a", longText(40)} {
		for _, num := range numsToTry() {
			wantPiece(t, pieceText(num, 0, 1, part), readPiece{num, 0, 1, part}, true)
		}
		for _, num := range []int{100001, 100002, 131071, 131072, 1 << 20, 1 << 21, impl.MaxNumber, impl.MaxNumber + 1, 1 << 32, 1<<32 + 5, 1<<35 - 1, 1 << 35, math.MaxInt} {
			wantNoPiece(t, pieceText(num, 0, 1, part))
			wantNoPiece(t, pieceText(num, 1, 2, part))
		}
	}
}

func TestReadPiecePlaces(t *testing.T) {
	counts := []int{0, 1, 2, 3, 9, 10, 11, 12, 20, 127, 128, 138, 16384, 100000, impl.MaxNumber, impl.MaxNumber + 1, 1<<32 + 1, math.MaxInt}
	for _, count := range counts {
		for _, place := range []int{0, 1, 2, 8, 9, 10, 11, 127, 128, count - 2, count - 1, count, count + 1, 2 * count, 100000, impl.MaxNumber - 1, impl.MaxNumber, impl.MaxNumber + 1, 1 << 32, math.MaxInt} {
			if place < 0 {
				continue
			}
			for _, part := range []string{"", "a", longText(39), longText(40), longText(41)} {
				text := pieceText(5, place, count, part)
				right := place < count && count <= 10 && (len(part) == 40 || place == count-1 && len(part) < 40)
				want := readPiece{5, place, count, part}
				if !right {
					want = readPiece{}
				}
				wantPiece(t, text, want, right)
			}
		}
	}
}

func TestReadPieceOfEverySize(t *testing.T) {
	sizes := append(fromTo(0, 130), 255, 256, 257, 296, 400, 401, impl.MaxText, impl.MaxText+1, 1<<16+40, 1<<20)
	for _, size := range sizes {
		part := longText(size)
		for count := 1; count <= 10; count++ {
			for place := range count {
				want, right := readPiece{5, place, count, part}, size == 40 || size < 40 && place == count-1
				if !right {
					want = readPiece{}
				}
				wantPiece(t, pieceText(5, place, count, part), want, right)
			}
		}
	}
}

func TestReadPieceTurned(t *testing.T) {
	pieces := 0
	for _, text := range []string{
		pieceText(5, 0, 1, "hi"), pieceText(0, 1, 2, ""), pieceText(100000, 3, 4, "a"), pieceText(300, 0, 3, longText(40)), pieceText(127, 9, 10, longText(40)),
	} {
		for place := range min(len(text), 10) {
			for turn := range 256 {
				if wantPieceAsByHand(t, turned(text, place, turn)) {
					pieces++
				}
			}
		}
	}
	if pieces < 1000 {
		t.Errorf("only %d of the turned texts are pieces", pieces)
	}
}

func TestReadPieceOfEveryShortText(t *testing.T) {
	pieces := 0
	for size := range 6 {
		everyText(size, "\x00\x01\x02\x06\x09\x0a\x0b\x80\x8d\xa0", func(text string) {
			if wantPieceAsByHand(t, text) {
				pieces++
			}
			wantPieceAsByHand(t, text+longText(40))
			wantPieceAsByHand(t, text+longText(39))
		})
	}
	if pieces < 500 {
		t.Errorf("only %d of the texts are pieces", pieces)
	}
}

// partsOf are as many parts as a pile may have, none like another.
func partsOf(count int) []string {
	var list []string
	for place := range count {
		list = append(list, strings.Repeat(string(rune('a'+place%26)), 40))
	}
	return list
}

func pileOf(num, count, parts int) impl.Pile {
	return impl.Pile{Num: num, Count: count, Parts: partsOf(parts)}
}

func TestAddPieceKnown(t *testing.T) {
	parts := partsOf(10)
	p := wantAdd(t, impl.Pile{}, pieceText(5, 0, 3, parts[0]), pileOf(5, 3, 1), "", false)
	p = wantAdd(t, p, pieceText(5, 1, 3, parts[1]), pileOf(5, 3, 2), "", false)
	p = wantAdd(t, p, pieceText(5, 2, 3, "z"), impl.Pile{}, parts[0]+parts[1]+"z", true)
	wantNotAdded(t, p, pieceText(5, 2, 3, "z"))
	wantNotAdded(t, p, pieceText(5, 1, 3, parts[1]))
	// The last one with all its bytes, and with none.
	wantAdd(t, pileOf(5, 3, 2), pieceText(5, 2, 3, parts[2]), impl.Pile{}, parts[0]+parts[1]+parts[2], true)
	wantAdd(t, pileOf(5, 3, 2), pieceText(5, 2, 3, ""), impl.Pile{}, parts[0]+parts[1], true)
	wantAdd(t, pileOf(5, 10, 9), pieceText(5, 9, 10, parts[9]), impl.Pile{}, strings.Join(parts, ""), true)
	wantAdd(t, pileOf(5, 10, 8), pieceText(5, 8, 10, parts[8]), pileOf(5, 10, 9), "", false)
}

func TestAddPieceOfOnePiece(t *testing.T) {
	for _, p := range []impl.Pile{{}, pileOf(5, 3, 1), pileOf(5, 3, 2), pileOf(6, 2, 1), pileOf(0, 10, 9)} {
		for _, num := range numsToTry() {
			for _, part := range []string{"", "a", longText(39), longText(40)} {
				wantAdd(t, p, pieceText(num, 0, 1, part), impl.Pile{}, part, true)
			}
			wantNotAdded(t, p, pieceText(num, 0, 1, longText(41)))
		}
	}
}

func TestAddPieceBeginsAnew(t *testing.T) {
	again := strings.Repeat("z", 40)
	for _, p := range []impl.Pile{{}, pileOf(5, 3, 1), pileOf(5, 3, 2), pileOf(5, 2, 1), pileOf(5, 10, 9)} {
		for _, num := range []int{0, 4, 5, 6, 100000} {
			for _, count := range []int{2, 3, 4, 10} {
				begun := impl.Pile{Num: num, Count: count, Parts: []string{again}}
				wantAdd(t, p, pieceText(num, 0, count, again), begun, "", false)
			}
			wantNotAdded(t, p, pieceText(num, 0, 11, again))
			wantNotAdded(t, p, pieceText(num, 0, 2, again[:39]))
		}
	}
}

func TestAddPieceThatDoesNotFit(t *testing.T) {
	full := strings.Repeat("z", 40)
	for begun := 1; begun < 10; begun++ {
		for count := begun + 1; count <= 10; count++ {
			p := pileOf(5, count, begun)
			for place := 1; place < 10; place++ {
				if place != begun {
					wantNotAdded(t, p, pieceText(5, place, count, full))
				}
				for _, num := range []int{0, 4, 6, 133, 16389, 99999, 100000, 100001} {
					wantNotAdded(t, p, pieceText(num, place, count, full))
				}
				for other := range 12 {
					if other != count {
						wantNotAdded(t, p, pieceText(5, place, other, full))
					}
				}
			}
			wantAddAsByHand(t, p, pieceText(5, begun, count, full))
		}
	}
	for place := 1; place < 10; place++ {
		for num := range 3 {
			wantNotAdded(t, impl.Pile{}, pieceText(num, place, place+1, full))
			wantNotAdded(t, impl.Pile{}, pieceText(num, place, 10, full))
		}
	}
}

// noPieces are texts that are near to being pieces of the number 5 out of 3, and others far from it.
func noPieces() []string {
	full := longText(40)
	return []string{
		"", "\x05", "\x05\x02", "hi", "\xff\xff\xff\xff\xff\xff", longText(400), longText(impl.MaxText + 1),
		pieceText(5, 0, 3, full[:39]), pieceText(5, 0, 3, full+"a"), pieceText(5, 0, 3, ""),
		pieceText(5, 1, 3, full[:39]), pieceText(5, 1, 3, full+"a"), pieceText(5, 1, 3, ""),
		pieceText(5, 2, 3, full+"a"), pieceText(5, 3, 3, full), pieceText(5, 3, 3, ""),
		longerVar(5) + "\x00\x03" + full, "\x05" + longerVar(0) + "\x03" + full, "\x05\x00" + longerVar(3) + full,
		longerVar(5) + "\x01\x03" + full, "\x05" + longerVar(1) + "\x03" + full, "\x05\x01" + longerVar(3) + full,
		pieceText(5, 0, 0, ""), pieceText(5, 0, 0, full), pieceText(5, 0, 11, full), pieceText(100001, 0, 1, ""), pieceText(100001, 0, 1, full),
	}
}

func TestAddPieceOfNoPiece(t *testing.T) {
	for _, p := range slices.Concat(pilesOfPieces(), strangePiles()) {
		for _, text := range noPieces() {
			wantNoPiece(t, text)
			wantNotAdded(t, p, text)
		}
	}
}

// pilesOfPieces are piles as AddPiece makes them.
func pilesOfPieces() []impl.Pile {
	list := []impl.Pile{{}}
	for _, num := range []int{0, 5, 100000} {
		for count := 2; count <= 10; count++ {
			for parts := 1; parts < count; parts++ {
				list = append(list, pileOf(num, count, parts))
			}
		}
	}
	return list
}

// strangePiles are those that AddPiece never makes.
func strangePiles() []impl.Pile {
	list := []impl.Pile{
		{Num: 5}, {Count: 3}, {Num: 5, Count: 3}, {Num: 5, Count: 1}, {Parts: []string{""}}, {Parts: partsOf(1)},
		{Num: 5, Parts: partsOf(1)}, {Num: 5, Parts: partsOf(3)},
		{Num: 5, Count: 3, Parts: []string{""}}, {Num: 5, Count: 3, Parts: []string{"a"}}, {Num: 5, Count: 3, Parts: []string{"a", ""}},
		{Num: 5, Count: 3, Parts: []string{"", ""}}, {Num: 5, Count: 2, Parts: []string{""}}, {Num: 5, Count: 2, Parts: []string{longText(41)}},
		{Num: 5, Count: 3, Parts: []string{longText(400), longText(401)}}, {Num: 5, Count: 2, Parts: []string{longText(impl.MaxText + 1)}},
		{Num: 5, Count: 1, Parts: partsOf(1)},
	}
	for _, parts := range []int{2, 3, 4, 9, 10, 11, 200} {
		list = append(list, pileOf(5, 2, parts), pileOf(5, parts, parts), pileOf(5, parts-1, parts), pileOf(5, 0, parts))
	}
	wild := []int{-1, -5, 11, 12, 128, 100001, impl.MaxNumber, 1 << 32, 1<<32 + 3, 1<<32 + 5, -1 << 32, math.MinInt, math.MinInt + 1, math.MaxInt - 1, math.MaxInt}
	for _, n := range wild {
		for _, parts := range []int{0, 1, 2, 3} {
			list = append(list, pileOf(n, 3, parts), pileOf(5, n, parts), pileOf(n, n, parts), pileOf(n, 0, parts))
		}
	}
	return list
}

// piecesAround are pieces of few numbers, at every place out of few.
func piecesAround() []string {
	var list []string
	for _, num := range []int{0, 4, 5, 6, 100000} {
		for _, count := range []int{1, 2, 3, 4, 9, 10} {
			for place := range count {
				list = append(list, pieceText(num, place, count, strings.Repeat("y", 40)))
			}
			list = append(list, pieceText(num, count-1, count, "z"), pieceText(num, count-1, count, ""))
		}
	}
	return list
}

func TestAddPieceAround(t *testing.T) {
	for _, p := range slices.Concat(pilesOfPieces(), strangePiles()) {
		for _, text := range slices.Concat(piecesAround(), noPieces()) {
			wantAddAsByHand(t, p, text)
		}
	}
}

// The words of the document alone: the next place is behind the Parts, whatever these are.
func TestAddPieceToStrangePiles(t *testing.T) {
	full := strings.Repeat("y", 40)
	wantAdd(t, impl.Pile{Num: 5, Count: 2, Parts: []string{"a"}}, pieceText(5, 1, 2, "b"), impl.Pile{}, "ab", true)
	wantAdd(t, impl.Pile{Num: 5, Count: 2, Parts: []string{""}}, pieceText(5, 1, 2, ""), impl.Pile{}, "", true)
	wantAdd(t, impl.Pile{Num: 5, Count: 2, Parts: []string{longText(401)}}, pieceText(5, 1, 2, full), impl.Pile{}, longText(401)+full, true)
	wantAdd(t, impl.Pile{Num: 5, Count: 3, Parts: []string{"a"}}, pieceText(5, 1, 3, full), impl.Pile{Num: 5, Count: 3, Parts: []string{"a", full}}, "", false)
	for _, n := range []int{-1, math.MinInt, math.MaxInt, 1<<32 + 3} {
		for place := range 3 {
			p, text := pileOf(5, n, place), pieceText(5, place, 3, full)
			if place > 0 {
				wantNotAdded(t, p, text)
			} else {
				wantAdd(t, p, text, impl.Pile{Num: 5, Count: 3, Parts: []string{full}}, "", false)
			}
		}
	}
	wantNotAdded(t, pileOf(5, 3, 3), pieceText(5, 2, 3, full))
	wantNotAdded(t, pileOf(5, 2, 3), pieceText(5, 1, 2, full))
	wantNotAdded(t, impl.Pile{Num: 5, Count: 3}, pieceText(5, 1, 3, full))
	wantNotAdded(t, pileOf(5, 0, 1), pieceText(5, 1, 2, full))
}

func TestJoinKnown(t *testing.T) {
	one, two, three := longText(100), strings.Repeat("b", 41), strings.Repeat("c", 80)
	a, _ := piecesByHand(5, one)
	b, _ := piecesByHand(6, two)
	c, _ := piecesByHand(5, three)
	hi, _ := piecesByHand(5, "hi")
	none, _ := piecesByHand(5, "")
	for _, x := range []struct {
		list []string
		want []string
	}{
		{nil, nil},
		{[]string{}, nil},
		{a, []string{one}},
		{slices.Concat(a, b), []string{one, two}},
		{slices.Concat(b, a, b), []string{two, one, two}},
		{slices.Concat(a[:2], b), []string{two}},
		{slices.Concat(a[:2], b, a[2:]), []string{two}},
		{slices.Concat(a[:1], b[:1], a[1:], b[1:]), []string{two}},
		{slices.Concat(a[:1], b[1:], a[1:]), []string{one}},
		{[]string{a[0], a[0], a[1], a[2]}, []string{one}},
		{[]string{a[0], a[1], a[1], a[2]}, []string{one}},
		{[]string{a[0], a[1], a[2], a[2]}, []string{one}},
		{[]string{a[0], a[1], a[0], a[2]}, nil},
		{[]string{a[0], a[2], a[1]}, nil},
		{[]string{a[0], a[2], a[1], a[2]}, []string{one}},
		{[]string{a[0], a[2]}, nil},
		{[]string{a[2], a[1], a[0]}, nil},
		{a[1:], nil},
		{slices.Concat(a, a), []string{one, one}},
		{slices.Concat(a[1:], a), []string{one}},
		{slices.Concat(a[:2], a), []string{one}},
		{slices.Concat(hi, hi, none, hi), []string{"hi", "hi", "", "hi"}},
		{slices.Concat(a[:2], hi, a[2:]), []string{"hi"}},
		{slices.Concat(none, none), []string{"", ""}},
		{[]string{a[0], "", a[1], "hi", a[2], longText(500)}, []string{one}},
		{[]string{"", "hi", "\x05", "\x05\x00\x00"}, nil},
		// Of the same number and count, a piece of another text fits: nothing tells the two apart.
		{[]string{c[0], pieceText(5, 1, 2, "z")}, []string{three[:40] + "z"}},
		// Of another count it does not.
		{[]string{c[0], a[1], c[1]}, []string{three}},
	} {
		wantJoin(t, x.list, x.want...)
		wantJoin(t, x.list, joinByHand(x.list)...)
	}
}

func TestJoinPassesOverWhatIsNoPiece(t *testing.T) {
	text := longText(100)
	list, _ := piecesByHand(5, text)
	for _, wrong := range noPieces() {
		for at := 0; at <= len(list); at++ {
			wantJoin(t, slices.Insert(slices.Clone(list), at, wrong), text)
			wantJoin(t, slices.Insert(slices.Clone(list), at, wrong, wrong), text)
		}
	}
	wantJoin(t, noPieces())
	wantJoin(t, slices.Concat(noPieces(), list, noPieces()), text)
}

// Pieces of every other number, or out of another count, among those of a text: it comes out all the same.
func TestJoinWithPiecesOfAnotherNumber(t *testing.T) {
	text := longText(100)
	list, _ := piecesByHand(5, text)
	for _, num := range append(numsToTry(), 3, 4, 6, 133) {
		for count := 2; count <= 10; count++ {
			for place := 1; place < count; place++ {
				if num == 5 && count == 3 {
					continue
				}
				other := pieceText(num, place, count, strings.Repeat("z", 40))
				wantJoin(t, []string{other, list[0], other, list[1], other, list[2], other}, text)
			}
		}
	}
}

// addAll is AddPiece of each in turn, held against the reckoning on its way.
func addAll(t *testing.T, list []string) []string {
	t.Helper()
	var p impl.Pile
	var texts []string
	for _, text := range list {
		next, whole, done := wantAddAsByHand(t, p, text)
		if done {
			texts = append(texts, whole)
		}
		p = next
	}
	return texts
}

func TestJoinOfEveryShortList(t *testing.T) {
	a, _ := piecesByHand(5, longText(100))
	b, _ := piecesByHand(6, strings.Repeat("b", 41))
	pieces := []string{a[0], a[1], a[2], b[0], b[1], pieceText(5, 1, 2, "z"), pieceText(5, 0, 1, "hi"), "hi"}
	told := map[int]int{}
	for size := range 6 {
		everyText(size, "\x00\x01\x02\x03\x04\x05\x06\x07", func(order string) {
			var list []string
			for _, place := range []byte(order) {
				list = append(list, pieces[place])
			}
			want := joinByHand(list)
			wantJoin(t, list, want...)
			if !slices.Equal(addAll(t, list), want) {
				t.Errorf("AddPiece of %s tells other texts than %s", shown(list), shown(want))
			}
			told[len(want)]++
		})
	}
	if told[0] < 1000 || told[1] < 1000 || told[2] < 500 || told[3] < 100 {
		t.Errorf("lists by how many texts they tell: %v", told)
	}
}

// putIn are texts, each with a number of its own, and their pieces.
func putIn(t *testing.T, l *lot, count int) (map[string]bool, [][]string) {
	texts := map[string]bool{}
	var all [][]string
	for num := range count {
		text := longText(401)[l.below(200):]
		text = text[:min(len(text), l.below(200)+l.below(201))]
		texts[text] = true
		list, ok := impl.Pieces(num*num*97, text)
		if !ok {
			t.Errorf("Pieces(%d, %d bytes): false", num*num*97, len(text))
		}
		all = append(all, list)
	}
	return texts, all
}

// onTheWay has pieces lost, told twice, told late, or with others between them.
func onTheWay(l *lot, lists [][]string) []string {
	var out []string
	trouble := l.below(4)
	for _, list := range lists {
		for _, text := range list {
			switch l.below(4 + trouble) {
			case 4:
			case 5:
				out = append(out, text, text)
			case 6:
				other := lists[l.below(len(lists))]
				out = append(out, other[l.below(len(other))], text, "no piece")
			default:
				out = append(out, text)
			}
		}
	}
	for range trouble {
		if len(out) > 1 {
			at := l.below(len(out) - 1)
			out[at], out[at+1] = out[at+1], out[at]
		}
	}
	return out
}

func TestWhatComesOutWasPutIn(t *testing.T) {
	l := &lot{12}
	whole, lost := 0, 0
	for range 4000 {
		texts, lists := putIn(t, l, 1+l.below(6))
		list := onTheWay(l, lists)
		got := impl.Join(list)
		for _, text := range got {
			if !texts[text] {
				t.Errorf("Join(%s): %.60q was never put in", shown(list), text)
			}
		}
		wantJoin(t, list, joinByHand(list)...)
		whole += len(got)
		lost += max(0, len(lists)-len(got))
	}
	if whole < 2000 || lost < 2000 {
		t.Errorf("%d texts came out, %d were lost", whole, lost)
	}
}

func TestJoinOfDrawnPieces(t *testing.T) {
	l := &lot{21}
	told := 0
	for range 20000 {
		var list []string
		num, count, place := l.below(3), 1+l.below(4), 0
		for range l.below(12) {
			if l.below(5) == 0 {
				num, count, place = l.below(3), 1+l.below(4), l.below(2)
			}
			part := strings.Repeat(string([]byte{byte(l.below(256))}), 40)
			if l.below(3) == 0 {
				part = part[:l.below(41)]
			}
			list = append(list, pieceText(num, place, count, part))
			place += 1 - l.below(8)/7
		}
		want := joinByHand(list)
		wantJoin(t, list, want...)
		if !slices.Equal(addAll(t, list), want) {
			t.Errorf("AddPiece of %s tells other texts than %s", shown(list), shown(want))
		}
		told += len(want)
	}
	if told < 5000 {
		t.Errorf("only %d texts were told", told)
	}
}

// A text that is itself made of pieces comes out as it is, and is not looked into.
func TestPiecesWithinPieces(t *testing.T) {
	inner, _ := impl.Pieces(5, "hi")
	outer, _ := impl.Pieces(5, inner[0])
	wantJoin(t, outer, inner[0])
	wantJoin(t, impl.Join(outer), "hi")
	long, _ := impl.Pieces(100000, strings.Join(wantPiecesAsByHand(t, 5, longText(300)), ""))
	wantJoin(t, long, joinByHand(long)...)
}

func TestJoinOfManyPieces(t *testing.T) {
	var list, want []string
	for num := range 1000 {
		text := longText(num % 401)
		pieces, _ := impl.Pieces(num, text)
		list, want = append(list, pieces...), append(want, text)
	}
	wantJoin(t, list, want...)
}

func TestPiecesLeaveTextsAlone(t *testing.T) {
	for _, size := range append(sizesAtEdges(), 401) {
		for _, num := range []int{5, 100001} {
			k := &keeper{}
			text := kept(k, longText(size))
			k.ready()
			list, _ := impl.Pieces(num, text)
			k.untouched(t, fmt.Sprintf("Pieces(%d, %d bytes)", num, size), list)
		}
	}
	for _, text := range slices.Concat(piecesAround(), noPieces()) {
		k := &keeper{}
		own := kept(k, text)
		k.ready()
		_, _, _, part, _ := impl.ReadPiece(own)
		k.untouched(t, fmt.Sprintf("ReadPiece(%.60q)", text), part)
	}
}

func TestAddPieceLeavesArgumentsAlone(t *testing.T) {
	piles := slices.Concat(pilesOfPieces()[:20], strangePiles())
	texts := slices.Concat(piecesAround()[60:90], noPieces()[:12], []string{pieceText(5, 0, 1, "a"), pieceText(5, 1, 2, ""), pieceText(0, 1, 3, longText(40))})
	for _, p := range piles {
		for _, text := range texts {
			k := &keeper{}
			ownPile, ownText := kept(k, p), kept(k, text)
			k.ready()
			got, whole, done := impl.AddPiece(ownPile, ownText)
			k.untouched(t, fmt.Sprintf("AddPiece(%s, %.60q)", shownPile(p), text), got, whole)
			want, wantWhole, wantDone := addByHand(p, text)
			if !samePile(got, want) || whole != wantWhole || done != wantDone {
				t.Errorf("AddPiece(%s, %.60q) looks into spare room: %s, %.60q, %t", shownPile(p), text, shownPile(got), whole, done)
			}
		}
	}
}

func TestJoinLeavesTheListAlone(t *testing.T) {
	a, _ := piecesByHand(5, longText(100))
	b, _ := piecesByHand(6, strings.Repeat("b", 41))
	one, hi, none := pieceText(7, 0, 1, "a"), pieceText(5, 0, 1, "hi"), pieceText(5, 0, 1, "")
	for _, list := range [][]string{
		nil, a, b, a[:2], slices.Concat(a, b), slices.Concat(a, a), {one}, {one, one}, {hi, hi, none, none}, {a[0], "", a[1], "hi", a[2]}, {a[0], hi, a[1], a[2]},
	} {
		k := &keeper{}
		own := kept(k, list)
		k.ready()
		got := impl.Join(own)
		k.untouched(t, fmt.Sprintf("Join(%s)", shown(list)), got)
		if want := joinByHand(list); !slices.Equal(got, want) {
			t.Errorf("Join(%s) looks into spare room: %s; want %s", shown(list), shown(got), shown(want))
		}
	}
}

// Two piles that go on from one: neither sees what came to the other.
func TestTwoFromOnePile(t *testing.T) {
	y, z := strings.Repeat("y", 40), strings.Repeat("z", 40)
	for begun := 1; begun < 9; begun++ {
		p := impl.Pile{}
		for place, part := range partsOf(begun) {
			p, _, _ = impl.AddPiece(p, pieceText(5, place, 10, part))
		}
		one, _, _ := impl.AddPiece(p, pieceText(5, begun, 10, y))
		two, _, _ := impl.AddPiece(p, pieceText(5, begun, 10, z))
		if !slices.Equal(one.Parts, append(partsOf(begun), y)) || !slices.Equal(two.Parts, append(partsOf(begun), z)) || !samePile(p, pileOf(5, 10, begun)) {
			t.Errorf("from %s: %s and %s", shownPile(p), shownPile(one), shownPile(two))
		}
	}
}

func TestPiecesKeepNothing(t *testing.T) {
	text := longText(100)
	list, _ := piecesByHand(5, text)
	for range 3 {
		wantPiecesAsByHand(t, 5, text)
		wantPieces(t, 100001, text, nil, false)
		wantPiece(t, list[0], readPiece{5, 0, 3, text[:40]}, true)
		wantNoPiece(t, "hi")
		wantJoin(t, list[:2])
		wantJoin(t, list[2:])
		wantAdd(t, impl.Pile{}, list[0], impl.Pile{Num: 5, Count: 3, Parts: []string{text[:40]}}, "", false)
		wantNotAdded(t, impl.Pile{}, list[1])
		wantJoin(t, list, text)
	}
}
