package tests

import (
	"math"
	"math/big"
	"strings"
	"testing"

	"loop.example/g00232/impl"
)

func seg(num, ack, flags int, body string) impl.Seg {
	return impl.Seg{Num: num, Ack: ack, Flags: flags, Body: body}
}

// plainSeg writes a segment, also one that SegText refuses, as long as its
// numbers have their bytes.
func plainSeg(s impl.Seg) string {
	return highLow(s.Num) + highLow(s.Ack) + string([]byte{byte(s.Flags)}) + s.Body
}

// plainSegOk takes the flags apart by halves: 1 in the first place is FlagSyn,
// in the second one FlagAck.
func plainSegOk(s impl.Seg) bool {
	for _, n := range []int{s.Num, s.Ack} {
		if n < 0 || n >= 65536 {
			return false
		}
	}
	if s.Flags < 0 || s.Flags >= 8 || len(s.Body) > 8 {
		return false
	}
	syn, ack := s.Flags%2 == 1, s.Flags/2%2 == 1
	if syn && len(s.Body) > 0 {
		return false
	}
	return ack || s.Ack == 0
}

func rightNums() []int {
	return []int{0, 1, 2, 127, 128, 254, 255, 256, 257, 258, 32767, 32768, 32769, 65279, 65280, 65281, 65534, 65535}
}

// oddNums are no Num and no Ack, though some have the lowest bits of one.
func oddNums() []int {
	return []int{
		-1, -2, -255, -256, -32768, -65535, -65536, -65537, 65536, 65537, 65538, 98304, 131071, 131072, 1 << 31, 1<<31 - 1, 1 << 32, 1<<32 + 1, 1 << 48, -1 << 32,
		math.MinInt, math.MinInt + 1, math.MinInt + 65536, math.MaxInt - 65535, math.MaxInt - 1, math.MaxInt,
	}
}

// oddFlags are no Flags, though some have the lowest bits of one.
func oddFlags() []int {
	return []int{-1, -2, -3, -4, -7, -8, -254, -256, 8, 9, 10, 14, 15, 16, 18, 32, 64, 128, 130, 254, 255, 256, 257, 258, 263, 1 << 32, 1<<32 + 2, math.MinInt, math.MinInt + 2, math.MaxInt, math.MaxInt - 1}
}

func rightParts() []string {
	return []string{
		"", "x", "\x00", "\xff", " ", "ab", "\x00\x00", mixedBytes(3), mixedBytes(4), mixedBytes(5), mixedBytes(6), mixedBytes(7), mixedBytes(8),
		"\x00\x01\x00\x00\x02x", strings.Repeat("\x00", 8), strings.Repeat("\xff", 8), "\xc3\xa4\xe2\x82\xac",
	}
}

func longParts() []string {
	list := []string{}
	for _, length := range []int{9, 10, 11, 13, 15, 16, 17, 64, 255, 256, 257, 264, 20000, 20001, 65536, 65536 + 8} {
		list = append(list, mixedBytes(length))
	}
	return append(list, strings.Repeat("\x00", 9), strings.Repeat("\xff", 9))
}

// rightSegs have each of the flags with what may stand beside them.
func rightSegs() []impl.Seg {
	list := []impl.Seg{}
	for _, num := range rightNums() {
		for _, flags := range []int{0, impl.FlagFin} {
			for _, body := range rightParts() {
				list = append(list, seg(num, 0, flags, body))
			}
		}
		list = append(list, seg(num, 0, impl.FlagSyn, ""), seg(num, 0, impl.FlagSyn+impl.FlagFin, ""))
		for _, ack := range rightNums() {
			for _, body := range rightParts() {
				list = append(list, seg(num, ack, impl.FlagAck, body), seg(num, ack, impl.FlagAck+impl.FlagFin, body))
			}
			list = append(list, seg(num, ack, impl.FlagSyn+impl.FlagAck, ""), seg(num, ack, impl.FlagSyn+impl.FlagAck+impl.FlagFin, ""))
		}
	}
	return list
}

// wrongSegs are right but for one thing each, but for the last ones.
func wrongSegs() []impl.Seg {
	list := []impl.Seg{}
	for _, wrong := range oddNums() {
		list = append(list, seg(wrong, 0, 0, "x"), seg(wrong, 0, 1, ""), seg(wrong, 7, 6, "xy"), seg(7, wrong, 2, "x"), seg(7, wrong, 3, ""), seg(7, wrong, 6, ""))
	}
	for _, wrong := range oddFlags() {
		list = append(list, seg(1, 0, wrong, ""), seg(1, 0, wrong, "x"), seg(1, 2, wrong, ""))
	}
	for _, long := range longParts() {
		for _, flags := range []int{0, 2, 4, 6} {
			list = append(list, seg(1, 0, flags, long))
		}
	}
	for _, flags := range []int{1, 3, 5, 7} {
		for _, body := range append(rightParts()[1:], longParts()...) {
			list = append(list, seg(1, 0, flags, body))
		}
	}
	for _, flags := range []int{0, 1, 4, 5} {
		for _, ack := range append(rightNums()[1:], oddNums()...) {
			list = append(list, seg(1, ack, flags, ""))
		}
	}
	return append(list, seg(-1, -1, -1, mixedBytes(9)), seg(65536, 65536, 8, mixedBytes(9)), seg(0, 1, 1, "x"), seg(65536, 1, 0, ""))
}

func TestSegConstants(t *testing.T) {
	if impl.Round != 65536 || impl.FlagSyn != 1 || impl.FlagAck != 2 || impl.FlagFin != 4 || impl.MaxPart != 8 {
		t.Error("a number of segments is another one")
	}
}

// plainRound is a number of any size, as many times 65536 up or down as brings
// it into 0 .. 65535.
func plainRound(n *big.Int) int {
	return int(new(big.Int).Mod(n, big.NewInt(65536)).Int64())
}

func plainAddNum(a, n int) int {
	return plainRound(new(big.Int).Add(big.NewInt(int64(a)), big.NewInt(int64(n))))
}

func plainGap(a, b int) int {
	return plainRound(new(big.Int).Sub(big.NewInt(int64(b)), big.NewInt(int64(a))))
}

func wantAddNum(t *testing.T, a, n, want int) {
	t.Helper()
	if got := impl.AddNum(a, n); got != want {
		t.Errorf("AddNum(%d, %d) = %d; want %d", a, n, got, want)
	}
}

func wantGap(t *testing.T, a, b, want int) {
	t.Helper()
	if got := impl.Gap(a, b); got != want {
		t.Errorf("Gap(%d, %d) = %d; want %d", a, b, got, want)
	}
}

func TestAddNumOfFixedNumbers(t *testing.T) {
	wantAddNum(t, 0, 0, 0)
	wantAddNum(t, 0, 1, 1)
	wantAddNum(t, 1, 0, 1)
	wantAddNum(t, 3, 4, 7)
	wantAddNum(t, 65534, 1, 65535)
	wantAddNum(t, 65535, 0, 65535)
	wantAddNum(t, 65535, 1, 0)
	wantAddNum(t, 65535, 2, 1)
	wantAddNum(t, 65535, 65535, 65534)
	wantAddNum(t, 65536, 0, 0)
	wantAddNum(t, 0, 65536, 0)
	wantAddNum(t, 65536, 65536, 0)
	wantAddNum(t, 65537, 0, 1)
	wantAddNum(t, 65537, 65537, 2)
	wantAddNum(t, 32768, 32768, 0)
}

func TestAddNumOfNumbersBelowNought(t *testing.T) {
	wantAddNum(t, 0, -1, 65535)
	wantAddNum(t, -1, 0, 65535)
	wantAddNum(t, 1, -1, 0)
	wantAddNum(t, -1, -1, 65534)
	wantAddNum(t, 5, -7, 65534)
	wantAddNum(t, -65536, 0, 0)
	wantAddNum(t, 0, -65536, 0)
	wantAddNum(t, -65537, 0, 65535)
	wantAddNum(t, 1, -65537, 0)
	wantAddNum(t, -65536, -65537, 65535)
	wantAddNum(t, -32768, -32768, 0)
	wantAddNum(t, -65535, 0, 1)
}

func TestAddNumFarBeyondRound(t *testing.T) {
	wantAddNum(t, 1000000000, 0, 51712)
	wantAddNum(t, 0, -1000000000, 13824)
	wantAddNum(t, 1000000000, -1000000000, 0)
	wantAddNum(t, 1<<32, 5, 5)
	wantAddNum(t, -1<<32, 5, 5)
	wantAddNum(t, 1<<48+7, 1<<40-9, 65534)
	wantAddNum(t, -1<<48-7, 1<<40+9, 2)
}

func TestAddNumOfTheGreatestAndTheLeast(t *testing.T) {
	wantAddNum(t, math.MaxInt, 0, 65535)
	wantAddNum(t, 0, math.MaxInt, 65535)
	wantAddNum(t, math.MaxInt, 1, 0)
	wantAddNum(t, 1, math.MaxInt, 0)
	wantAddNum(t, math.MaxInt, math.MaxInt, 65534)
	wantAddNum(t, math.MinInt, 0, 0)
	wantAddNum(t, 0, math.MinInt, 0)
	wantAddNum(t, math.MinInt, -1, 65535)
	wantAddNum(t, -1, math.MinInt, 65535)
	wantAddNum(t, math.MinInt, math.MinInt, 0)
	wantAddNum(t, math.MinInt, math.MaxInt, 65535)
	wantAddNum(t, math.MaxInt, math.MinInt, 65535)
	wantAddNum(t, math.MaxInt-65535, 3, 3)
	wantAddNum(t, math.MinInt+65535, 3, 2)
}

func TestGapOfFixedNumbers(t *testing.T) {
	wantGap(t, 0, 0, 0)
	wantGap(t, 7, 7, 0)
	wantGap(t, 65535, 65535, 0)
	wantGap(t, 7, 8, 1)
	wantGap(t, 8, 7, 65535)
	wantGap(t, 0, 65535, 65535)
	wantGap(t, 65535, 0, 1)
	wantGap(t, 65535, 1, 2)
	wantGap(t, 1, 65535, 65534)
	wantGap(t, 65534, 65535, 1)
	wantGap(t, 65535, 65534, 65535)
	wantGap(t, 0, 32768, 32768)
	wantGap(t, 32768, 0, 32768)
	wantGap(t, 0, 32767, 32767)
	wantGap(t, 32767, 0, 32769)
	wantGap(t, 40000, 10000, 35536)
	wantGap(t, 10000, 40000, 30000)
}

func TestGapOfNumbersBeyondRound(t *testing.T) {
	wantGap(t, 0, 65536, 0)
	wantGap(t, 65536, 0, 0)
	wantGap(t, 65537, 0, 65535)
	wantGap(t, 0, 65537, 1)
	wantGap(t, -1, 0, 1)
	wantGap(t, 0, -1, 65535)
	wantGap(t, -1, -1, 0)
	wantGap(t, -3, 4, 7)
	wantGap(t, 4, -3, 65529)
	wantGap(t, -65536, 65537, 1)
	wantGap(t, -65537, -65536, 1)
	wantGap(t, 1000000000, 0, 13824)
	wantGap(t, 0, 1000000000, 51712)
}

// The opposite of the least int is none.
func TestGapOfTheGreatestAndTheLeast(t *testing.T) {
	wantGap(t, math.MinInt, 0, 0)
	wantGap(t, 0, math.MinInt, 0)
	wantGap(t, math.MinInt, 5, 5)
	wantGap(t, math.MinInt, -1, 65535)
	wantGap(t, math.MinInt, math.MinInt, 0)
	wantGap(t, math.MinInt, math.MaxInt, 65535)
	wantGap(t, math.MaxInt, 0, 1)
	wantGap(t, 0, math.MaxInt, 65535)
	wantGap(t, math.MaxInt, -1, 0)
	wantGap(t, math.MaxInt, -2, 65535)
	wantGap(t, math.MaxInt, math.MaxInt, 0)
	wantGap(t, math.MaxInt, math.MinInt, 1)
}

// roundedNumbers are about each place at which something goes round.
func roundedNumbers() []int {
	list := append(rightNums(), oddNums()...)
	for _, about := range []int{-131072, -65536, -32768, 0, 32768, 65536, 131072, 1 << 31, 1 << 32, 1 << 62, math.MaxInt - 65536, math.MinInt + 65536} {
		for by := -3; by <= 3; by++ {
			list = append(list, about+by)
		}
	}
	for by := range 3 {
		list = append(list, math.MaxInt-by, math.MinInt+by)
	}
	return list
}

func checkRounded(t *testing.T, a, b int) {
	t.Helper()
	wantAddNum(t, a, b, plainAddNum(a, b))
	wantGap(t, a, b, plainGap(a, b))
	for _, got := range []int{impl.AddNum(a, b), impl.Gap(a, b)} {
		if got < 0 || got >= 65536 {
			t.Errorf("of %d and %d %d is told", a, b, got)
		}
	}
	if impl.AddNum(a, b) != impl.AddNum(b, a) {
		t.Errorf("AddNum tells %d and %d apart", a, b)
	}
	// A gap and the one back are once round, or nothing.
	wantAddNum(t, impl.Gap(a, b), impl.Gap(b, a), 0)
	wantAddNum(t, a, impl.Gap(a, b), plainAddNum(b, 0))
	wantGap(t, a, impl.AddNum(a, b), plainAddNum(b, 0))
}

func TestNumbersGoRound(t *testing.T) {
	for _, a := range roundedNumbers() {
		for _, b := range roundedNumbers() {
			checkRounded(t, a, b)
		}
	}
}

func TestGapOfEachNumber(t *testing.T) {
	for a := range 65536 {
		wantAddNum(t, a, 0, a)
		wantAddNum(t, a, 1, (a+1)%65536)
		wantAddNum(t, a, -1, (a+65535)%65536)
		wantGap(t, a, a, 0)
		wantGap(t, a, (a+1)%65536, 1)
		wantGap(t, (a+1)%65536, a, 65535)
		wantGap(t, 0, a, a)
		wantGap(t, a, 0, (65536-a)%65536)
		for _, b := range []int{0, 1, 255, 256, 32767, 32768, 65535} {
			wantAddNum(t, a, impl.Gap(a, b), b)
		}
	}
}

func TestNumbersThatAreDrawn(t *testing.T) {
	draw := drawsFrom(99)
	wide := func() int { return draw(1<<22)<<44 ^ draw(1<<22)<<22 ^ draw(1<<22) }
	for range 20000 {
		a, b := draw(65536), draw(65536)
		wantAddNum(t, a, impl.Gap(a, b), b)
		wantGap(t, a, b, (b-a+65536)%65536)
		wantAddNum(t, a, b, (a+b)%65536)
		checkRounded(t, wide(), wide())
	}
}

func wantSegOk(t *testing.T, s impl.Seg, want bool) {
	t.Helper()
	if got := impl.SegOk(s); got != want {
		t.Errorf("SegOk(%.120v) is %v", s, got)
	}
}

func TestSegOkOfFixedSegs(t *testing.T) {
	for n, right := range map[int]bool{-1: false, 0: true, 65535: true, 65536: false} {
		wantSegOk(t, seg(n, 0, 0, "x"), right)
		wantSegOk(t, seg(n, 0, impl.FlagSyn, ""), right)
		wantSegOk(t, seg(n, 9, impl.FlagAck, "x"), right)
		wantSegOk(t, seg(9, n, impl.FlagAck, "x"), right)
		wantSegOk(t, seg(9, n, impl.FlagSyn+impl.FlagAck, ""), right)
	}
	for flags, right := range map[int]bool{-1: false, 0: true, 1: true, 2: true, 3: true, 4: true, 5: true, 6: true, 7: true, 8: false} {
		wantSegOk(t, seg(1, 0, flags, ""), right)
	}
	for length, right := range map[int]bool{0: true, 1: true, 7: true, 8: true, 9: false} {
		for _, flags := range []int{0, 2, 4, 6} {
			wantSegOk(t, seg(1, 0, flags, mixedBytes(length)), right)
		}
	}
	wantSegOk(t, impl.Seg{}, true)
}

func TestSegOkOfABodyWithFlagSyn(t *testing.T) {
	for flags := range 8 {
		syn := flags == 1 || flags == 3 || flags == 5 || flags == 7
		wantSegOk(t, seg(1, 0, flags, ""), true)
		wantSegOk(t, seg(1, 0, flags, "x"), !syn)
		wantSegOk(t, seg(1, 0, flags, "\x00"), !syn)
		wantSegOk(t, seg(1, 0, flags, mixedBytes(8)), !syn)
	}
}

func TestSegOkOfAnAckWithoutFlagAck(t *testing.T) {
	for flags := range 8 {
		told := flags == 2 || flags == 3 || flags == 6 || flags == 7
		wantSegOk(t, seg(1, 0, flags, ""), true)
		for _, ack := range rightNums()[1:] {
			wantSegOk(t, seg(1, ack, flags, ""), told)
		}
		for _, ack := range oddNums() {
			wantSegOk(t, seg(1, ack, flags, ""), false)
		}
	}
}

func TestSegOkOfRightAndWrongSegs(t *testing.T) {
	for _, s := range rightSegs() {
		wantSegOk(t, s, true)
	}
	for _, s := range wrongSegs() {
		wantSegOk(t, s, false)
	}
}

func TestSegOkOfEachLength(t *testing.T) {
	for length := range 300 {
		for flags := -1; flags <= 9; flags++ {
			s := seg(1, 0, flags, mixedBytes(length))
			wantSegOk(t, s, plainSegOk(s))
		}
	}
}

// edgeSegs have each edge of one field beside each edge of the others.
func edgeSegs() []impl.Seg {
	list := []impl.Seg{}
	edges := []int{math.MinInt, -65536, -1, 0, 1, 2, 255, 256, 65534, 65535, 65536, 65537, math.MaxInt}
	for _, num := range edges {
		for _, ack := range edges {
			for _, flags := range []int{math.MinInt, -1, 0, 1, 2, 3, 4, 5, 6, 7, 8, 255, 256, math.MaxInt} {
				for _, body := range []string{"", "x", mixedBytes(8), mixedBytes(9)} {
					list = append(list, seg(num, ack, flags, body))
				}
			}
		}
	}
	return list
}

func TestSegOkOfEveryEdge(t *testing.T) {
	for _, s := range edgeSegs() {
		wantSegOk(t, s, plainSegOk(s))
	}
}

func wantSegText(t *testing.T, s impl.Seg, want string) {
	t.Helper()
	if got, ok := impl.SegText(s); !ok || got != want {
		t.Errorf("SegText(%.120v) = %.120q, %v; want %.120q", s, got, ok, want)
	}
}

func wantNoSegText(t *testing.T, s impl.Seg) {
	t.Helper()
	if got, ok := impl.SegText(s); ok || got != "" {
		t.Errorf("SegText(%.120v) = %.120q, %v; want none", s, got, ok)
	}
}

func wantReadSeg(t *testing.T, text string, want impl.Seg) {
	t.Helper()
	if got, ok := impl.ReadSeg(text); !ok || got != want {
		t.Errorf("ReadSeg(%.120q) = %.120v, %v; want %.120v", text, got, ok, want)
	}
}

func wantNoReadSeg(t *testing.T, text string) {
	t.Helper()
	if got, ok := impl.ReadSeg(text); ok || got != (impl.Seg{}) {
		t.Errorf("ReadSeg of the %d bytes %.120q is %.120v, %v; want none", len(text), text, got, ok)
	}
}

// writtenSegs are segments beside their bytes, written out.
func writtenSegs() map[string]impl.Seg {
	return map[string]impl.Seg{
		"\x00\x00\x00\x00\x00":         {},
		"\x01\x02\x00\x01\x02x":        seg(258, 1, impl.FlagAck, "x"),
		"\x00\x01\x00\x00\x01":         seg(1, 0, impl.FlagSyn, ""),
		"\xff\xff\xff\xff\x03":         seg(65535, 65535, impl.FlagSyn+impl.FlagAck, ""),
		"\x01\x00\x00\xff\x06":         seg(256, 255, impl.FlagFin+impl.FlagAck, ""),
		"\x00\xff\x01\x00\x02abcdefgh": seg(255, 256, impl.FlagAck, "abcdefgh"),
		"\x80\x00\x00\x00\x04\x00\xff": seg(32768, 0, impl.FlagFin, "\x00\xff"),
		"\x12\x34\x00\x00\x05":         seg(0x1234, 0, impl.FlagSyn+impl.FlagFin, ""),
		"\x12\x34\x56\x78\x07":         seg(0x1234, 0x5678, impl.FlagSyn+impl.FlagAck+impl.FlagFin, ""),
		"\xfe\xdc\x00\x00\x00\x00":     seg(0xfedc, 0, 0, "\x00"),
	}
}

func TestSegsWrittenOut(t *testing.T) {
	for text, s := range writtenSegs() {
		wantSegText(t, s, text)
		wantReadSeg(t, text, s)
	}
}

func TestSegTextOfRightAndWrongSegs(t *testing.T) {
	for _, s := range rightSegs() {
		wantSegText(t, s, plainSeg(s))
	}
	for _, s := range wrongSegs() {
		wantNoSegText(t, s)
	}
}

func TestSegTextOfEveryEdge(t *testing.T) {
	for _, s := range edgeSegs() {
		if plainSegOk(s) {
			wantSegText(t, s, plainSeg(s))
			wantReadSeg(t, plainSeg(s), s)
		} else {
			wantNoSegText(t, s)
		}
	}
}

func TestSegsComeBack(t *testing.T) {
	for _, s := range rightSegs() {
		text, ok := impl.SegText(s)
		if !ok || len(text) != 5+len(s.Body) {
			t.Errorf("SegText(%.120v) has %d bytes, %v", s, len(text), ok)
		}
		wantReadSeg(t, text, s)
	}
}

func TestSegsOfEachNumberComeBack(t *testing.T) {
	for n := range 65536 {
		for _, s := range []impl.Seg{seg(n, 0, 0, "x"), seg(1, n, impl.FlagAck, ""), seg(n, 65535-n, 7, "")} {
			wantSegText(t, s, plainSeg(s))
			wantReadSeg(t, plainSeg(s), s)
		}
	}
}

// Any bytes are a Body.
func TestSegsOfEachByteComeBack(t *testing.T) {
	for b := range 256 {
		for _, length := range []int{1, 8} {
			s := seg(b, 256*b, impl.FlagAck, strings.Repeat(string([]byte{byte(b)}), length))
			wantSegText(t, s, plainSeg(s))
			wantReadSeg(t, plainSeg(s), s)
		}
	}
}

func TestReadSegOfShortTexts(t *testing.T) {
	for length := range 5 {
		for b := range 256 {
			wantNoReadSeg(t, strings.Repeat(string([]byte{byte(b)}), length))
		}
		wantNoReadSeg(t, mixedBytes(length))
		for text := range writtenSegs() {
			wantNoReadSeg(t, text[:length])
		}
	}
	wantNoReadSeg(t, "")
	wantReadSeg(t, "\x00\x00\x00\x00\x00", impl.Seg{})
}

func TestReadSegOfEachLength(t *testing.T) {
	for length := range 300 {
		for flags := range 8 {
			s := seg(7, 0, flags, mixedBytes(length))
			if plainSegOk(s) {
				wantReadSeg(t, plainSeg(s), s)
			} else {
				wantNoReadSeg(t, plainSeg(s))
			}
		}
	}
}

// Longer texts are no segment, nor one with more behind it.
func TestReadSegOfLongTexts(t *testing.T) {
	for _, body := range longParts() {
		for flags := range 8 {
			wantNoReadSeg(t, plainSeg(seg(1, 0, flags, body)))
			wantNoReadSeg(t, plainSeg(seg(1, 2, flags, body)))
		}
	}
}

// Each of the flags that a byte has stands with and without Ack and Body.
func TestReadSegOfEachFlags(t *testing.T) {
	for flags := range 256 {
		for _, ack := range []int{0, 1, 256, 65535} {
			for _, body := range []string{"", "x", mixedBytes(8), mixedBytes(9)} {
				s := seg(258, ack, flags, body)
				if plainSegOk(s) {
					wantReadSeg(t, plainSeg(s), s)
				} else {
					wantNoReadSeg(t, plainSeg(s))
				}
			}
		}
	}
	for _, text := range []string{"\x00\x01\x00\x00\x08", "\x00\x01\x00\x00\xff", "\x00\x01\x00\x00\x01x", "\x00\x01\x00\x02\x03x", "\x00\x01\x00\x01\x00", "\x00\x01\x01\x00\x04", "\x00\x01\x00\x01\x01"} {
		wantNoReadSeg(t, text)
	}
}

// What is read is what would be written so, and all of that is read.
func TestReadSegOfDrawnTexts(t *testing.T) {
	draw, right := drawsFrom(29), 0
	for range 40000 {
		text := make([]byte, draw(17))
		for at := range text {
			text[at] = byte(draw(256) * draw(2))
		}
		if len(text) > 4 && draw(8) > 0 {
			text[4] = byte(draw(9))
		}
		got, ok := impl.ReadSeg(string(text))
		if !ok {
			wantNoReadSeg(t, string(text))
		} else {
			right++
			wantSegText(t, got, string(text))
		}
		if want := len(text) >= 5 && plainSegOk(seg(256*int(text[0])+int(text[1]), 256*int(text[2])+int(text[3]), int(text[4]), string(text[5:]))); ok != want {
			t.Errorf("ReadSeg(%q) is %v", text, ok)
		}
	}
	if right < 4000 || right > 36000 {
		t.Errorf("%d of the drawn texts are right", right)
	}
}

func TestSegsThatAreAnsweredAreNew(t *testing.T) {
	for _, s := range rightSegs() {
		s.Body = strings.Clone(s.Body)
		text, _ := impl.SegText(s)
		back, _ := impl.ReadSeg(text)
		again, _ := impl.ReadSeg(text)
		if lieTogether(text, s.Body) || lieTogether(back.Body, text) || lieTogether(back.Body, again.Body) {
			t.Fatalf("a text that is answered lies in an argument: %v", s)
		}
	}
}

// What was answered ahead says nothing of what is answered.
func TestSegsKeepNothing(t *testing.T) {
	for range 3 {
		for text, s := range writtenSegs() {
			wantSegText(t, s, text)
			wantNoSegText(t, seg(s.Num, s.Ack, s.Flags, mixedBytes(9)))
			wantReadSeg(t, text, s)
			wantNoReadSeg(t, text+mixedBytes(9))
			wantSegOk(t, s, true)
			wantAddNum(t, 65535, 2, 1)
			wantGap(t, 65535, 1, 2)
		}
	}
}
