package tests

import (
	"fmt"
	"testing"

	"loop.example/g00183/impl"
)

// sumBitByBit is the chapter's own sentence: it knows nothing of the program's table.
func sumBitByBit(sum uint32, text string) uint32 {
	for _, b := range []byte(text) {
		sum ^= uint32(b)
		for range 8 {
			odd := sum%2 == 1
			sum /= 2
			if odd {
				sum ^= 3558460437
			}
		}
	}
	return sum
}

// sealByHand puts any sum behind a text, the highest byte first.
func sealByHand(text string, sum uint32) string {
	return text + string([]byte{byte(sum / 16777216), byte(sum / 65536 % 256), byte(sum / 256 % 256), byte(sum % 256)})
}

// sumsToTry are every single bit, its neighbours, and some with bits in every byte.
func sumsToTry() []uint32 {
	list := []uint32{0, 4294967295, 3558460437, 0x12345678, 0x89abcdef, 0x80000001, 0x00ff00ff, 0xf0f0f0f0, 4294967294}
	for bit := range 32 {
		list = append(list, 1<<bit, 1<<bit-1, ^(uint32(1) << bit))
	}
	return list
}

func wantSum(t *testing.T, call string, got, want uint32) {
	t.Helper()
	if got != want {
		t.Errorf("%s: %d; want %d", call, got, want)
	}
}

func wantUnsealed(t *testing.T, call, text, want string, wantOk bool) {
	t.Helper()
	got, ok := impl.Unsealed(text)
	wantText(t, call, got, ok, want, wantOk)
}

// Written out as numbers, so that the reckoning the other tests lean on is itself held to something.
func TestSumsKnown(t *testing.T) {
	for _, c := range []struct {
		sum  uint32
		text string
		want uint32
	}{
		{0, "", 0}, {4294967295, "", 4294967295}, {7, "", 7},
		{0, "\x00", 0}, {0, "\x80", 3558460437}, {0x80, "\x00", 3558460437}, {0x80, "\x80", 0}, {0xff, "\xff", 0},
		{0x100, "\x00", 1}, {0xabcdef00, "\x00", 0xabcdef}, {0xabcdefff, "\xff", 0xabcdef},
		{0, "\x40", 0xbe152a1f}, {0x80000000, "\x80", 0xd499cc15}, // (80000000 comes down to 00800000)
	} {
		wantSum(t, fmt.Sprintf("SumMore(%d, %q)", c.sum, c.text), impl.SumMore(c.sum, c.text), c.want)
	}
	wantSum(t, "SumOf of nothing", impl.SumOf(""), 4294967295)
	wantSum(t, "SumOf(\"\\xff\")", impl.SumOf("\xff"), 0x00ffffff)
	wantSum(t, "SumOf(\"123456789\")", impl.SumOf("123456789"), ^uint32(0x87315576))
}

func TestSumMoreOfEveryByte(t *testing.T) {
	for _, sum := range sumsToTry() {
		for b := range 256 {
			text := string([]byte{byte(b)})
			wantSum(t, fmt.Sprintf("SumMore(%d, %q)", sum, text), impl.SumMore(sum, text), sumBitByBit(sum, text))
		}
	}
}

func TestSumMoreOfLongerTexts(t *testing.T) {
	list := append(textsToTry(), longText(impl.MaxText+1), longText(3*impl.MaxText))
	for _, text := range list {
		for _, sum := range []uint32{0, 1, 4294967295, 0x80000000, 0x12345678} {
			wantSum(t, fmt.Sprintf("SumMore(%d, %.20q)", sum, text), impl.SumMore(sum, text), sumBitByBit(sum, text))
		}
		wantSum(t, fmt.Sprintf("SumOf(%.20q)", text), impl.SumOf(text), sumBitByBit(4294967295, text))
	}
	for high := range 256 {
		for low := range 256 {
			text := string([]byte{byte(high), byte(low)})
			wantSum(t, fmt.Sprintf("SumOf(%q)", text), impl.SumOf(text), sumBitByBit(4294967295, text))
		}
	}
}

func TestSumMoreGoesOn(t *testing.T) {
	for _, text := range []string{"", "a", "\x00\x00", "abc", "\xff\x00\x80\x01", longText(600)} {
		for cut := 0; cut <= len(text); cut++ {
			got := impl.SumMore(impl.SumOf(text[:cut]), text[cut:])
			wantSum(t, fmt.Sprintf("SumMore behind %d of %.20q", cut, text), got, impl.SumOf(text))
		}
	}
	text := longText(impl.MaxText + 1)
	for cut := 0; cut <= len(text); cut += 1667 {
		got := impl.SumMore(impl.SumOf(text[:cut]), text[cut:])
		wantSum(t, fmt.Sprintf("SumMore behind %d of a long text", cut), got, impl.SumOf(text))
	}
	sum := impl.SumOf("")
	for i := range 300 {
		sum = impl.SumMore(sum, text[i:i+1])
		wantSum(t, fmt.Sprintf("SumMore byte by byte, %d", i), sum, impl.SumOf(text[:i+1]))
	}
}

func TestSealedIsReadBack(t *testing.T) {
	for _, text := range textsToTry() {
		got, ok := impl.Sealed(text)
		wantText(t, "Sealed", got, ok, sealByHand(text, sumBitByBit(4294967295, text)), true)
		wantUnsealed(t, "Unsealed", got, text, true)
		again, ok := impl.Sealed(got)
		if len(got) <= impl.MaxText {
			wantText(t, "Sealed twice", again, ok, sealByHand(got, sumBitByBit(4294967295, got)), true)
			wantUnsealed(t, "Unsealed of what is sealed twice", again, got, true)
		}
	}
	got, ok := impl.Sealed("")
	wantText(t, "Sealed of nothing", got, ok, "\xff\xff\xff\xff", true)
	got, ok = impl.Sealed("\xff")
	wantText(t, "Sealed(\"\\xff\")", got, ok, "\xff\x00\xff\xff\xff", true)
	wantUnsealed(t, "Unsealed of a seal alone", "\xff\xff\xff\xff", "", true)
}

func TestSealedRefuses(t *testing.T) {
	for _, size := range []int{impl.MaxText + 1, impl.MaxText + 2, impl.MaxText + 4, 2 * impl.MaxText} {
		got, ok := impl.Sealed(longText(size))
		wantText(t, fmt.Sprintf("Sealed of %d bytes", size), got, ok, "", false)
	}
}

func TestUnsealedSeesATurnedByte(t *testing.T) {
	for _, text := range []string{"", "\x00", "a", "abc", "\xff\xff\xff\xff", "\x00\x00\x00\x00\x00", longText(70)} {
		sealed, _ := impl.Sealed(text)
		for place := range len(sealed) {
			for turn := 1; turn < 256; turn++ {
				bad := []byte(sealed)
				bad[place] ^= byte(turn)
				wantUnsealed(t, fmt.Sprintf("Unsealed(%.20q) with %d at %d turned", sealed, turn, place), string(bad), "", false)
			}
		}
	}
	sealed, _ := impl.Sealed(longText(impl.MaxText))
	for place := 0; place < len(sealed); place += 87 {
		bad := []byte(sealed)
		bad[place] ^= byte(1 << (place % 8))
		wantUnsealed(t, fmt.Sprintf("Unsealed of a long text turned at %d", place), string(bad), "", false)
	}
}

func TestUnsealedRefuses(t *testing.T) {
	for _, text := range []string{"", "\xff", "\xff\xff", "\xff\xff\xff", "\x00\x00\x00\x00", "abcd", "abc", "\x00\xff\xff\xff\xff"} {
		wantUnsealed(t, fmt.Sprintf("Unsealed(%q)", text), text, "", false)
	}
	for _, text := range []string{"", "a", "abc", longText(100)} {
		sum := sumBitByBit(4294967295, text)
		lowestFirst := sum>>24 | sum>>8&0xff00 | sum<<8&0xff0000 | sum<<24
		for _, other := range []uint32{^sum, sum + 1, sum - 1, sumBitByBit(0, text), lowestFirst, sumBitByBit(4294967295, text+"a")} {
			if other != sum {
				wantUnsealed(t, fmt.Sprintf("Unsealed(%.20q) with the sum %d", text, other), sealByHand(text, other), "", false)
			}
		}
		sealed, _ := impl.Sealed(text)
		wantUnsealed(t, "Unsealed of what lost its last byte", sealed[:len(sealed)-1], "", false)
		wantUnsealed(t, "Unsealed of what has a byte too many", sealed+"\x01", "", false)
		wantUnsealed(t, "Unsealed of what has a byte ahead", "\x01"+sealed, "", false)
	}
	// The right sum does not help a text that Sealed would refuse.
	for _, size := range []int{impl.MaxText + 1, impl.MaxText + 2, 2 * impl.MaxText} {
		text := longText(size)
		wantUnsealed(t, fmt.Sprintf("Unsealed of %d bytes", size), sealByHand(text, sumBitByBit(4294967295, text)), "", false)
	}
}

func TestSumsLeaveArgumentsAlone(t *testing.T) {
	for _, s := range append(textsToTry(), "\xff\xff\xff\xff", longText(impl.MaxText+1), longText(impl.MaxText+5)) {
		a := newArgument(s)
		impl.SumMore(1, a.text)
		impl.SumOf(a.text)
		sealed, _ := impl.Sealed(a.text)
		a.untouched(t, "Sealed", sealed)
		text, _ := impl.Unsealed(a.text)
		a.untouched(t, "Unsealed", text)

		b := newArgument(sealed)
		text, _ = impl.Unsealed(b.text)
		b.untouched(t, "Unsealed", text)
	}
}
