package tests

import (
	"fmt"
	"math"
	"slices"
	"strings"
	"testing"

	"loop.example/g00183/impl"
)

// frameWithSum puts any sum ahead of a text, right or not.
func frameWithSum(text string, sum uint32) string {
	return string([]byte{byte(len(text)), byte(sum / 256 % 256), byte(sum % 256)}) + text
}

// frameByHand is the chapter's own sentence, by a reckoning that is not the program's.
func frameByHand(text string) string {
	return frameWithSum(text, sumBitByBit(4294967295, text))
}

func framesByHand(texts []string) string {
	var out strings.Builder
	for _, text := range texts {
		out.WriteString(frameByHand(text))
	}
	return out.String()
}

// readByHand tells what a reader must make of bytes that come at once.
func readByHand(stream string) (impl.Reader, []string) {
	var texts []string
	for len(stream) > 0 {
		if stream[0] > 60 {
			return impl.Reader{Bad: true}, texts
		}
		end := 3 + int(stream[0])
		if len(stream) < end {
			break
		}
		text := stream[3:end]
		if !strings.HasPrefix(stream, frameByHand(text)) {
			return impl.Reader{Bad: true}, texts
		}
		texts = append(texts, text)
		stream = stream[end:]
	}
	return impl.Reader{Rest: stream}, texts
}

// turned has one byte of the text turned.
func turned(text string, place, turn int) string {
	out := []byte(text)
	out[place] ^= byte(turn)
	return string(out)
}

func feedAll(pieces []string) (impl.Reader, []string) {
	var r impl.Reader
	var all []string
	for _, piece := range pieces {
		next, texts := impl.FeedReader(r, piece)
		r, all = next, append(all, texts...)
	}
	return r, all
}

func singleBytes(text string) []string {
	var out []string
	for i := range len(text) {
		out = append(out, text[i:i+1])
	}
	return out
}

// shown is short, however long the list.
func shown[T any](list []T) string {
	return fmt.Sprintf("%d of %.120s", len(list), fmt.Sprintf("%#v", list))
}

func wantRead(t *testing.T, call string, r impl.Reader, texts []string, want impl.Reader, wantTexts []string) {
	t.Helper()
	if r != want || !slices.Equal(texts, wantTexts) {
		t.Errorf("%s: %.80q, %t, %s; want %.80q, %t, %s", call, r.Rest, r.Bad, shown(texts), want.Rest, want.Bad, shown(wantTexts))
	}
}

func wantFeed(t *testing.T, call string, r impl.Reader, more string, want impl.Reader, wantTexts ...string) {
	t.Helper()
	got, texts := impl.FeedReader(r, more)
	wantRead(t, call, got, texts, want, wantTexts)
}

// wantFeedSplit has the bytes fed from every split of them into Rest and more.
func wantFeedSplit(t *testing.T, call, stream string, want impl.Reader, wantTexts ...string) {
	t.Helper()
	for cut := 0; cut <= len(stream); cut++ {
		r := impl.Reader{Rest: stream[:cut]}
		wantFeed(t, fmt.Sprintf("%s, Rest of %d", call, cut), r, stream[cut:], want, wantTexts...)
	}
}

func wantCut(t *testing.T, s string, places []int, want ...string) {
	t.Helper()
	if got := impl.CutAt(s, places); !slices.Equal(got, want) {
		t.Errorf("CutAt(%.60q, %s): %s; want %s", s, shown(places), shown(got), shown(want))
	}
}

// frameTexts are texts of every length and every single byte that a frame takes.
func frameTexts() []string {
	list := []string{"hi", "grüße", "\xff\xfe\x80", "\x00\x00", strings.Repeat("\xff", 60), strings.Repeat("\x00", 60), "\x3d", "\x3c", "123456789"}
	for size := range 61 {
		list = append(list, longText(size))
	}
	for b := range 256 {
		list = append(list, string([]byte{byte(b)}))
	}
	return list
}

// frameLists are texts whose frames come one behind the other.
func frameLists() [][]string {
	return [][]string{
		{}, {""}, {"a"}, {"hi"}, {"", ""}, {"", "a", ""}, {"hi", "hi", "hi"}, {"a", "", "bc", "\xff\x80", "grüße"},
		{longText(60)}, {longText(60), "", longText(59)}, {"\x00", "\x00\xff\xff", "\x3d", "\xff"},
		{frameByHand("inner"), frameByHand(""), frameByHand("inner")[:4]}, // texts that look like frames
	}
}

func TestFrameLimit(t *testing.T) {
	if impl.MaxFrame != 60 {
		t.Error("MaxFrame is not the document's")
	}
}

// Written out as bytes, so that the reckoning the other tests lean on is itself held to something.
func TestFrameOfKnown(t *testing.T) {
	for _, c := range []struct{ text, want string }{
		{"", "\x00\xff\xff"},
		{"\xff", "\x01\xff\xff\xff"},
		{"123456789", "\x09\xaa\x89123456789"}, // (the two bytes of the sum differ)
		{"\x7f", "\x01\x33\xea\x7f"},           // (ffffffff, turned by 7f, and the halved 80 is d419cc15: 00ffffff with it)
	} {
		got, ok := impl.FrameOf(c.text)
		wantText(t, fmt.Sprintf("FrameOf(%q)", c.text), got, ok, c.want, true)
	}
}

func TestFrameOfTakes(t *testing.T) {
	differ := 0
	for _, text := range frameTexts() {
		want := frameByHand(text)
		got, ok := impl.FrameOf(text)
		wantText(t, fmt.Sprintf("FrameOf(%.60q)", text), got, ok, want, true)
		if want[1] != want[2] {
			differ++
		}
	}
	if differ < 100 {
		t.Errorf("only %d sums have two lowest bytes that differ", differ)
	}
}

// 256 and so on: lengths that look right once they are cut to a byte.
func TestFrameOfRefuses(t *testing.T) {
	for _, size := range []int{61, 62, 63, 64, 127, 128, 255, 256, 257, 300, 316, 317, 65536, impl.MaxText, impl.MaxText + 1} {
		for _, text := range []string{longText(size), strings.Repeat("a", size), strings.Repeat("\xff", size)} {
			got, ok := impl.FrameOf(text)
			wantText(t, fmt.Sprintf("FrameOf of %d bytes", size), got, ok, "", false)
		}
	}
}

func TestFramesComeBack(t *testing.T) {
	for _, texts := range append(frameLists(), frameTexts()) {
		stream := ""
		for _, text := range texts {
			frame, _ := impl.FrameOf(text)
			stream += frame
		}
		r, got := feedAll([]string{stream})
		wantRead(t, "frames at once", r, got, impl.Reader{}, texts)
		r, got = feedAll(singleBytes(stream))
		wantRead(t, "frames byte by byte", r, got, impl.Reader{}, texts)
		for cut := 0; cut <= len(stream); cut++ {
			r, got = feedAll([]string{stream[:cut], stream[cut:]})
			wantRead(t, fmt.Sprintf("frames cut at %d", cut), r, got, impl.Reader{}, texts)
		}
		r, got = feedAll(impl.CutAt(stream, []int{7, -7, 1 << 40, 3, 0, len(stream), 7, 1000, -1000, 64}))
		wantRead(t, "frames in the pieces of CutAt", r, got, impl.Reader{}, texts)
	}
}

func TestFramesComeBackInThreePieces(t *testing.T) {
	texts := []string{"a", "", "\xff\x80", "hall", ""}
	stream := framesByHand(texts)
	for first := 0; first <= len(stream); first++ {
		for second := first; second <= len(stream); second++ {
			r, got := feedAll([]string{stream[:first], "", stream[first:second], stream[second:], ""})
			wantRead(t, fmt.Sprintf("frames cut at %d and %d", first, second), r, got, impl.Reader{}, texts)
		}
	}
}

// At each piece a reader has told what is whole, no later, and has all the other bytes.
func TestFramesComeOutAtOnce(t *testing.T) {
	for _, texts := range frameLists() {
		stream := framesByHand(texts)
		var r impl.Reader
		var told []string
		for at, piece := range singleBytes(stream) {
			next, got := impl.FeedReader(r, piece)
			told = append(told, got...)
			r = next
			want, wantTexts := readByHand(stream[:at+1])
			wantRead(t, fmt.Sprintf("%d bytes one by one", at+1), r, told, want, wantTexts)
		}
	}
}

func TestFeedReaderInPart(t *testing.T) {
	ahead := frameByHand("one") + frameByHand("")
	for _, text := range []string{"", "a", "\x00", "\xff\x80", "hall", longText(59), longText(60)} {
		frame := frameByHand(text)
		for size := range len(frame) {
			part := frame[:size]
			call := fmt.Sprintf("%d bytes of the frame of %.20q", size, text)
			wantFeedSplit(t, call, part, impl.Reader{Rest: part})
			wantFeed(t, call+" behind two", impl.Reader{}, ahead+part, impl.Reader{Rest: part}, "one", "")
			wantFeed(t, call+" behind two in Rest", impl.Reader{Rest: ahead}, part, impl.Reader{Rest: part}, "one", "")
			wantFeed(t, call+" and then the others", impl.Reader{Rest: part}, frame[size:], impl.Reader{}, text)
		}
		wantFeedSplit(t, "a frame and no byte more", frame, impl.Reader{}, text)
	}
	wantFeed(t, "nothing", impl.Reader{}, "", impl.Reader{})
}

func TestFeedReaderLengths(t *testing.T) {
	ahead := frameByHand("one") + frameByHand("")
	for size := range 256 {
		length := string([]byte{byte(size)})
		call := fmt.Sprintf("a length of %d", size)
		for _, behind := range []string{"", "\x00", "\x00\x00\x01", longText(size / 2), length} {
			if size <= 60 && 1+len(behind) >= 3+size {
				continue
			}
			want := impl.Reader{Rest: length + behind}
			if size > 60 {
				want = impl.Reader{Bad: true}
			}
			wantFeed(t, call, impl.Reader{}, length+behind, want)
			wantFeed(t, call+" in Rest", impl.Reader{Rest: length}, behind, want)
			wantFeed(t, call+" behind frames", impl.Reader{}, ahead+length+behind, want, "one", "")
			wantFeed(t, call+" behind frames in Rest", impl.Reader{Rest: ahead}, length+behind, want, "one", "")
		}
	}
	wantFeedSplit(t, "a length of MaxFrame", "\x3c", impl.Reader{Rest: "\x3c"})
	wantFeedSplit(t, "a length of MaxFrame and 1", "\x3d", impl.Reader{Bad: true})
	wantFeedSplit(t, "a length of MaxFrame and 1 behind a frame", frameByHand("hi")+"\x3d", impl.Reader{Bad: true}, "hi")
	wantFeedSplit(t, "a length of MaxFrame and 1 ahead of a frame", "\x3d"+frameByHand("hi"), impl.Reader{Bad: true})
	// The right sum does not help a text that FrameOf would refuse.
	wantFeed(t, "a frame of MaxFrame and 1", impl.Reader{}, frameByHand(longText(61)), impl.Reader{Bad: true})
}

// wantTorn has a torn frame alone, behind a right one, ahead of one, between, and while it is not whole.
func wantTorn(t *testing.T, call, torn string) {
	t.Helper()
	bad := impl.Reader{Bad: true}
	ahead, behind := frameByHand("one"), frameByHand("two")
	wantFeed(t, call, impl.Reader{}, torn, bad)
	wantFeed(t, call+" in Rest", impl.Reader{Rest: torn}, "", bad)
	wantFeed(t, call+" behind a frame", impl.Reader{}, ahead+torn, bad, "one")
	wantFeed(t, call+" behind a frame in Rest", impl.Reader{Rest: ahead}, torn, bad, "one")
	wantFeed(t, call+" ahead of a frame", impl.Reader{}, torn+behind, bad)
	wantFeed(t, call+" between frames", impl.Reader{}, ahead+ahead+torn+behind, bad, "one", "one")
	last := len(torn) - 1
	for _, size := range []int{1, 2, last} {
		part := torn[:size]
		wantFeed(t, call+" in part", impl.Reader{}, part, impl.Reader{Rest: part})
		wantFeed(t, call+" in part behind a frame", impl.Reader{}, ahead+part, impl.Reader{Rest: part}, "one")
		wantFeed(t, call+" made whole", impl.Reader{Rest: part}, torn[size:], bad)
	}
}

func TestFeedReaderSumTurned(t *testing.T) {
	for _, text := range []string{"", "a", "\xff", "hall", longText(60)} {
		frame := frameByHand(text)
		for turn := 1; turn < 256; turn++ {
			wantTorn(t, fmt.Sprintf("the frame of %.20q, the sum turned by %d 00", text, turn), turned(frame, 1, turn))
			wantTorn(t, fmt.Sprintf("the frame of %.20q, the sum turned by %d", text, turn), turned(frame, 2, turn))
		}
		sum := sumBitByBit(4294967295, text)
		for _, other := range []uint32{sum%256*256 + sum/256%256, sum / 65536, ^sum, sum + 1, sum - 1, sumBitByBit(0, text), sumBitByBit(4294967295, string([]byte{byte(len(text))})+text)} {
			if other%65536 != sum%65536 {
				wantTorn(t, fmt.Sprintf("the frame of %.20q with the sum %d", text, other), frameWithSum(text, other))
			}
		}
	}
}

func TestFeedReaderTextTurned(t *testing.T) {
	for _, text := range []string{"a", "\x00", "\xff\x80", "hall", longText(60)} {
		frame := frameByHand(text)
		for place := range len(text) {
			for turn := 1; turn < 256; turn++ {
				torn := turned(frame, 3+place, turn)
				// Two bytes of a sum do not tell all texts apart.
				if torn == frameByHand(torn[3:]) {
					continue
				}
				wantTorn(t, fmt.Sprintf("the frame of %.20q, turned by %d at %d", text, turn, place), torn)
			}
		}
	}
}

// Any byte turned, of the lengths too, in whatever two pieces: what comes is as by hand.
func TestFeedReaderAnyByteTurned(t *testing.T) {
	stream := framesByHand([]string{"ab", "", "\xff\x3d\x00", "c"})
	for place := range len(stream) {
		for turn := range 256 {
			other := turned(stream, place, turn)
			want, wantTexts := readByHand(other)
			call := fmt.Sprintf("frames turned by %d at %d", turn, place)
			r, got := feedAll(singleBytes(other))
			wantRead(t, call+", byte by byte", r, got, want, wantTexts)
			for cut := 0; cut <= len(other); cut++ {
				r, got = feedAll([]string{other[:cut], other[cut:]})
				wantRead(t, fmt.Sprintf("%s, cut at %d", call, cut), r, got, want, wantTexts)
			}
		}
	}
}

func TestFeedReaderStaysBad(t *testing.T) {
	frame := frameByHand("hi")
	for _, rest := range []string{"", "a", "\x00", "\x3d", frame, frame[:4], frame + frame, longText(impl.MaxText), longText(impl.MaxText + 1)} {
		bad := impl.Reader{Rest: rest, Bad: true}
		for _, more := range []string{"", "a", "\x3d", frame, frame[4:], frame + frame, longText(impl.MaxText), longText(impl.MaxText + 1)} {
			wantFeed(t, fmt.Sprintf("a Bad reader with %.20q, fed %.20q", rest, more), bad, more, bad)
		}
	}
	r, _ := impl.FeedReader(impl.Reader{}, frame+"\xff")
	for range 3 {
		wantFeed(t, "a reader that became Bad", r, frame, impl.Reader{Bad: true})
		r, _ = impl.FeedReader(r, frame)
	}
}

// fullStream has frames of just MaxText bytes.
func fullStream() (string, []string) {
	var texts []string
	left := impl.MaxText
	for left >= 63 {
		texts = append(texts, longText(60))
		left -= 63
	}
	texts = append(texts, strings.Repeat("\xff", left-3))
	return framesByHand(texts), texts
}

func TestFeedReaderLongest(t *testing.T) {
	stream, texts := fullStream()
	if len(stream) != impl.MaxText {
		t.Fatalf("the stream has %d bytes", len(stream))
	}
	empties := strings.Repeat(frameByHand(""), impl.MaxText/3)
	for _, cut := range []int{0, 1, 2, 3, 62, 63, 64, impl.MaxText / 2, impl.MaxText - 64, impl.MaxText - 2, impl.MaxText - 1, impl.MaxText} {
		r := impl.Reader{Rest: stream[:cut]}
		wantFeed(t, fmt.Sprintf("MaxText bytes, Rest of %d", cut), r, stream[cut:], impl.Reader{}, texts...)
		for _, extra := range []string{"\x00", "\x3d", stream} {
			wantFeed(t, fmt.Sprintf("more than MaxText bytes, Rest of %d", cut), r, stream[cut:]+extra, r)
			long := impl.Reader{Rest: extra + stream[:cut]}
			wantFeed(t, fmt.Sprintf("more than MaxText bytes, Rest of %d and more", cut), long, stream[cut:], long)
		}
		torn := impl.Reader{Rest: turned(stream, 0, 0x80)[:cut]}
		wantFeed(t, fmt.Sprintf("MaxText bytes, torn, Rest of %d", cut), torn, turned(stream, 0, 0x80)[cut:], impl.Reader{Bad: true})
		wantFeed(t, fmt.Sprintf("more than MaxText bytes, torn, Rest of %d", cut), torn, turned(stream, 0, 0x80)[cut:]+"a", torn)
	}
	wantFeed(t, "frames of no bytes", impl.Reader{}, empties+"\x3c", impl.Reader{Rest: "\x3c"}, make([]string, impl.MaxText/3)...)
	// Each may be right alone: it is both together that are too long.
	r := impl.Reader{Rest: stream[:impl.MaxText-1]}
	wantFeed(t, "Rest and more of MaxText and 1", r, "ab", r)
	wantFeed(t, "Rest and more of twice MaxText", impl.Reader{Rest: stream}, stream, impl.Reader{Rest: stream})
	wantFeed(t, "Rest of MaxText and no more", impl.Reader{Rest: stream}, "", impl.Reader{}, texts...)
	wantFeed(t, "Rest of MaxText and 1, and no more", impl.Reader{Rest: stream + "\x00"}, "", impl.Reader{Rest: stream + "\x00"})
}

func TestCutAtKnown(t *testing.T) {
	for _, places := range [][]int{nil, {}} {
		wantCut(t, "", places, "")
		wantCut(t, "abc", places, "abc")
		wantCut(t, "\xff\x80", places, "\xff\x80")
	}
	wantCut(t, "abc", []int{1, 5, 1}, "a", "bc")
	wantCut(t, "abc", []int{0}, "", "abc")
	wantCut(t, "abc", []int{3}, "abc", "")
	wantCut(t, "abc", []int{4}, "", "abc")
	wantCut(t, "abc", []int{5}, "a", "bc")
	wantCut(t, "abc", []int{7}, "abc", "")
	wantCut(t, "abc", []int{8}, "", "abc")
	wantCut(t, "abc", []int{-1}, "abc", "")
	wantCut(t, "abc", []int{-2}, "ab", "c")
	wantCut(t, "abc", []int{-4}, "", "abc")
	wantCut(t, "abc", []int{-5}, "abc", "")
	wantCut(t, "abc", []int{0, 3}, "", "abc", "")
	wantCut(t, "abc", []int{2, 1}, "a", "b", "c")
	wantCut(t, "abc", []int{3, 2, 1, 0}, "", "a", "b", "c", "")
	wantCut(t, "abc", []int{2, -2, 2, 6, 2, -6}, "ab", "c")
	wantCut(t, "abc", []int{math.MinInt}, "", "abc") // (the least int is a multiple of 4)
	wantCut(t, "abc", []int{math.MaxInt}, "abc", "") // (the greatest one less than that)
	wantCut(t, "abcd", []int{math.MinInt, math.MaxInt}, "ab", "cd")
	wantCut(t, "ab", []int{math.MinInt, math.MaxInt}, "a", "b")
	wantCut(t, "a", []int{0, 1}, "", "a", "")
	wantCut(t, "grüße", []int{3}, "gr\xc3", "\xbcße")
	for _, places := range [][]int{{0}, {1}, {-1}, {0, 0}, {0, 1, 2, -3}, {math.MinInt, math.MaxInt}} {
		wantCut(t, "", places, "", "")
	}
}

// cutByHand goes from byte to byte, and asks of each place whether one of the list falls there.
func cutByHand(s string, places []int) []string {
	size := len(s) + 1
	falls := make([]bool, size)
	for _, place := range places {
		falls[(place%size+size)%size] = true
	}
	pieces, piece := []string{}, ""
	for at := range size {
		if falls[at] {
			pieces, piece = append(pieces, piece), ""
		}
		if at < len(s) {
			piece += s[at : at+1]
		}
	}
	return append(pieces, piece)
}

func placesToTry() [][]int {
	ascending, descending, many := []int{}, []int{}, []int{}
	for i := -70; i <= 140; i++ {
		ascending = append(ascending, i)
		descending = append(descending, -i)
		many = append(many, i*i*i)
	}
	return [][]int{
		nil, {}, {0}, {1}, {-1}, {0, 0, 0}, {1, 1, 1, 1}, {3, 2, 1}, {1, 2, 3}, {2, 1, 3, 1, 2},
		{60}, {61}, {62}, {-60}, {-61}, {-62}, {60, 0}, {1 << 40, -1 << 40}, {math.MinInt}, {math.MaxInt}, {math.MinInt, math.MaxInt, 5},
		{math.MinInt + 1, math.MaxInt - 1, 0}, {256, 512, -256, 1 << 32, 1<<32 + 1}, ascending, descending, many, make([]int, 5000),
	}
}

func TestCutAtIsJoinedAgain(t *testing.T) {
	for _, s := range []string{"", "a", "ab", "abc", "\xff\x00\x80", "grüße", longText(59), longText(60), longText(61), longText(255), longText(256), longText(impl.MaxText + 1)} {
		for _, places := range placesToTry() {
			got := impl.CutAt(s, places)
			if strings.Join(got, "") != s {
				t.Errorf("CutAt(%.60q, %s): joined, the pieces are not the text", s, shown(places))
			}
			wantCut(t, s, places, cutByHand(s, places)...)
		}
		for place := -3 * len(s); place <= 3*len(s) && len(s) < 1000; place++ {
			wantCut(t, s, []int{place}, cutByHand(s, []int{place})...)
		}
	}
}

func TestFramesLeaveArgumentsAlone(t *testing.T) {
	frame := frameByHand("hi")
	for _, text := range append(frameTexts(), longText(61)) {
		a := newArgument(text)
		got, _ := impl.FrameOf(a.text)
		a.untouched(t, "FrameOf", got)
	}
	parts := []string{"", "\x02", frame, frame[:4], frame[4:], frame + frame[:3], frame + frame, frame + "\x3d", turned(frame, 4, 1), longText(impl.MaxText), longText(impl.MaxText + 1)}
	for _, rest := range parts {
		for _, more := range parts {
			for _, bad := range []bool{false, true} {
				a, b := newArgument(rest), newArgument(more)
				r, texts := impl.FeedReader(impl.Reader{Rest: a.text, Bad: bad}, b.text)
				a.untouched(t, "FeedReader, Rest", append(texts, r.Rest)...)
				b.untouched(t, "FeedReader, more", append(texts, r.Rest)...)
			}
		}
	}
}

func TestCutAtLeavesArgumentsAlone(t *testing.T) {
	for _, s := range []string{"", "a", "abc", longText(60), longText(300)} {
		for _, places := range placesToTry() {
			a := newArgument(s)
			whole := slices.Concat([]int{99}, places, []int{98, -97, 96})
			before := slices.Clone(whole)
			got := impl.CutAt(a.text, whole[1:1+len(places)])
			a.untouched(t, "CutAt", got...)
			if !slices.Equal(whole, before) {
				t.Errorf("CutAt(%.60q, %s): wrote into the places", s, shown(places))
			}
		}
	}
}

func TestFramesKeepNothing(t *testing.T) {
	frame := frameByHand("hi")
	for range 3 {
		impl.FeedReader(impl.Reader{}, "\x3d")
		impl.FeedReader(impl.Reader{}, frame[:3])
		wantFeed(t, "a new reader", impl.Reader{}, frame+frame, impl.Reader{}, "hi", "hi")
		wantCut(t, "abc", []int{2}, "ab", "c")
		wantCut(t, "abc", nil, "abc")
	}
}
