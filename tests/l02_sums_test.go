package tests

import (
	"strings"
	"testing"

	"loop.example/g00232/impl"
)

// plainSum does the chapter's eight steps for each byte, without a table.
func plainSum(sum uint32, text string) uint32 {
	for at := 0; at < len(text); at++ {
		sum ^= uint32(text[at])
		for step := 0; step < 8; step++ {
			odd := sum%2 == 1
			sum /= 2
			if odd {
				sum ^= 3558460437
			}
		}
	}
	return sum
}

func wantSumMore(t *testing.T, sum uint32, text string, want uint32) {
	t.Helper()
	if got := impl.SumMore(sum, text); got != want {
		t.Errorf("SumMore(%d, %q) = %d; want %d", sum, text, got, want)
	}
}

func wantSumOf(t *testing.T, text string, want uint32) {
	t.Helper()
	if got := impl.SumOf(text); got != want {
		t.Errorf("SumOf(%q) = %d; want %d", text, got, want)
	}
}

// theSums are edges and sums with bits in every part.
func theSums() []uint32 {
	return []uint32{0, 1, 2, 127, 128, 255, 256, 1 << 16, 1<<31 - 1, 1 << 31, 3558460437, 0x12345678, 0x9abcdef0, 4294967294, 4294967295}
}

func TestSumMoreOfFixedTexts(t *testing.T) {
	wantSumMore(t, 0, "\x80", 3558460437)
	wantSumMore(t, 0, "\x01", 735957071)
	wantSumMore(t, 1, "\x00", 735957071)
	wantSumMore(t, 1, "\x01", 0)
	wantSumMore(t, 4294967295, "abc", 2815232641)
	wantSumMore(t, 4294967295, "\xff\xff\xff\xff", 0)
}

func TestSumMoreOfNothing(t *testing.T) {
	for _, sum := range theSums() {
		wantSumMore(t, sum, "", sum)
	}
}

func TestSumMoreOfEachByte(t *testing.T) {
	for _, sum := range theSums() {
		for b := 0; b < 256; b++ {
			one := string([]byte{byte(b)})
			wantSumMore(t, sum, one, plainSum(sum, one))
		}
	}
}

func TestSumMoreOfLongTexts(t *testing.T) {
	for _, length := range []int{2, 3, 4, 5, 255, 256, 1000, impl.MaxText, impl.MaxText + 1, 70000} {
		text := mixedBytes(length)
		for _, sum := range theSums() {
			if impl.SumMore(sum, text) != plainSum(sum, text) {
				t.Errorf("SumMore(%d, %d bytes) is not the plain one", sum, length)
			}
		}
	}
}

func TestSumOf(t *testing.T) {
	wantSumOf(t, "", 4294967295)
	wantSumOf(t, "\x00", 2175125468)
	wantSumOf(t, "a", 2675860630)
	wantSumOf(t, "abc", 2815232641)
	wantSumOf(t, "123456789", 2026809993)
	wantSumOf(t, "\xff\xff\xff\xff", 0)
	for b := 0; b < 256; b++ {
		one := string([]byte{byte(b)})
		wantSumOf(t, one, plainSum(4294967295, one))
	}
}

func TestSumOfTextsThatAreTooLongToSeal(t *testing.T) {
	long := mixedBytes(impl.MaxText + 1)
	if impl.SumOf(long) != plainSum(4294967295, long) {
		t.Error("SumOf has no limit")
	}
}

func TestSumMoreGoesOn(t *testing.T) {
	text := mixedBytes(600)
	whole := impl.SumOf(text)
	for at := 0; at <= len(text); at++ {
		if got := impl.SumMore(impl.SumOf(text[:at]), text[at:]); got != whole {
			t.Errorf("cut at %d: %d; want %d", at, got, whole)
		}
		for _, sum := range []uint32{0, 1, 4294967295} {
			if impl.SumMore(impl.SumMore(sum, text[:at]), text[at:]) != impl.SumMore(sum, text) {
				t.Errorf("from %d, cut at %d: SumMore does not go on", sum, at)
			}
		}
	}
}

func wantSealed(t *testing.T, text, sum string) {
	t.Helper()
	sealed, ok := impl.Sealed(text)
	if !ok || sealed != text+sum {
		t.Errorf("Sealed of %d bytes ends with %q, %v; want %q", len(text), sealed[max(0, len(sealed)-4):], ok, sum)
	}
	if back, ok := impl.Unsealed(text + sum); !ok || back != text {
		t.Errorf("Unsealed of %d sealed bytes is %d bytes, %v", len(text), len(back), ok)
	}
}

func wantNoUnsealed(t *testing.T, text string) {
	t.Helper()
	if inner, ok := impl.Unsealed(text); ok || inner != "" {
		t.Errorf("Unsealed of %d bytes is %d bytes, %v; want none", len(text), len(inner), ok)
	}
}

func highestFirst(sum uint32) string {
	return string([]byte{byte(sum / 16777216), byte(sum / 65536 % 256), byte(sum / 256 % 256), byte(sum % 256)})
}

func TestSealedIsUnsealed(t *testing.T) {
	wantSealed(t, "", "\xff\xff\xff\xff")
	wantSealed(t, "\x00", "\x81\xa5\xc7\xdc")
	wantSealed(t, "a", "\x9f\x7e\x64\x96")
	wantSealed(t, "abc", "\xa7\xcd\x0a\x81")
	wantSealed(t, "123456789", "\x78\xce\xaa\x89")
	wantSealed(t, "\xff\xff\xff\xff", "\x00\x00\x00\x00")
	for b := 0; b < 256; b++ {
		one := string([]byte{byte(b)})
		wantSealed(t, one, highestFirst(plainSum(4294967295, one)))
	}
	for _, length := range []int{2, 3, 4, 5, 127, 128, 4000, impl.MaxText - 1, impl.MaxText} {
		text := mixedBytes(length)
		wantSealed(t, text, highestFirst(plainSum(4294967295, text)))
	}
}

func TestSealedTwiceIsUnsealedTwice(t *testing.T) {
	once, _ := impl.Sealed("abc")
	wantSealed(t, once, highestFirst(plainSum(4294967295, once)))
}

func TestSealedRefuses(t *testing.T) {
	for _, length := range []int{impl.MaxText + 1, impl.MaxText + 4, 70000} {
		if sealed, ok := impl.Sealed(strings.Repeat("x", length)); ok || sealed != "" {
			t.Errorf("Sealed of %d bytes is %d bytes, %v; want none", length, len(sealed), ok)
		}
	}
}

func TestUnsealedRefusesShortTexts(t *testing.T) {
	for _, short := range []string{"", "\xff", "\xff\xff", "\xff\xff\xff", "\x00\x00\x00", "abc"} {
		wantNoUnsealed(t, short)
	}
	wantNoUnsealed(t, "\x00\x00\x00\x00")
	wantNoUnsealed(t, "abcd")
}

// What Sealed would not write is not Unsealed, though its sum is its own.
func TestUnsealedRefusesLongTexts(t *testing.T) {
	wantSealed(t, mixedBytes(impl.MaxText), highestFirst(plainSum(4294967295, mixedBytes(impl.MaxText))))
	for _, length := range []int{impl.MaxText + 1, impl.MaxText + 4, 70000} {
		text := mixedBytes(length)
		wantNoUnsealed(t, text+highestFirst(plainSum(4294967295, text)))
	}
}

func TestUnsealedRefusesOtherForms(t *testing.T) {
	lowestFirst := "abc\x81\x0a\xcd\xa7"
	sumAhead := "\xa7\xcd\x0a\x81abc"
	turnedRound := "abc" + highestFirst(^plainSum(4294967295, "abc"))
	fromNought := "abc" + highestFirst(plainSum(0, "abc"))
	for _, other := range []string{lowestFirst, sumAhead, turnedRound, fromNought} {
		wantNoUnsealed(t, other)
	}
}

func TestUnsealedRefusesMoreAndLess(t *testing.T) {
	sealed, _ := impl.Sealed("a text that is sealed")
	for b := 0; b < 256; b++ {
		wantNoUnsealed(t, sealed+string([]byte{byte(b)}))
		wantNoUnsealed(t, string([]byte{byte(b)})+sealed)
	}
	for at := 0; at < len(sealed); at++ {
		wantNoUnsealed(t, sealed[:at])
		wantNoUnsealed(t, sealed[:at]+sealed[at+1:])
	}
}

// checkTurned turns the byte at this place to each other value.
func checkTurned(t *testing.T, sealed string, at int) {
	t.Helper()
	turned := []byte(sealed)
	for b := 0; b < 256; b++ {
		if byte(b) == sealed[at] {
			continue
		}
		turned[at] = byte(b)
		if inner, ok := impl.Unsealed(string(turned)); ok || inner != "" {
			t.Errorf("byte %d of %d turned to %d: Unsealed is %d bytes, %v", at, len(sealed), b, len(inner), ok)
		}
	}
}

func TestNoTurnedByteIsUnsealed(t *testing.T) {
	for _, text := range []string{"", "\x00", "a", "abc", "\xff\xff\xff\xff", strings.Repeat("\x00", 40), mixedBytes(300)} {
		sealed, ok := impl.Sealed(text)
		if !ok {
			t.Fatalf("Sealed(%q) is false", text)
		}
		for at := 0; at < len(sealed); at++ {
			checkTurned(t, sealed, at)
		}
	}
}

func TestNoTurnedByteOfTheLongestIsUnsealed(t *testing.T) {
	sealed, ok := impl.Sealed(mixedBytes(impl.MaxText))
	if !ok {
		t.Fatal("Sealed of MaxText bytes is false")
	}
	for _, at := range []int{0, 1, impl.MaxText / 2, impl.MaxText - 1, impl.MaxText, impl.MaxText + 1, impl.MaxText + 2, impl.MaxText + 3} {
		checkTurned(t, sealed, at)
	}
}
