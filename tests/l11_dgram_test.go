package tests

import (
	"math"
	"slices"
	"strings"
	"testing"

	"loop.example/g00232/impl"
)

func dgram(from, to, id, at int, more bool, body string) impl.Dgram {
	return impl.Dgram{From: from, To: to, Id: id, At: at, More: more, Body: body}
}

func highLow(n int) string { return string([]byte{byte(n / 256), byte(n % 256)}) }

// plainOnes adds all first, and brings what is beyond two bytes down behind
// that, as often as there is any.
func plainOnes(s string) int {
	if len(s)%2 == 1 {
		s += "\x00"
	}
	sum := 0
	for at, b := range []byte(s) {
		if at%2 == 0 {
			sum += 256 * int(b)
		} else {
			sum += int(b)
		}
	}
	for sum >= 65536 {
		sum = sum%65536 + sum/65536
	}
	return 65535 - sum
}

func plainHead(from, to, id, by8, more int) string {
	return string([]byte{byte(from), byte(to)}) + highLow(id) + string([]byte{byte(by8), byte(more)})
}

func withOnes(head string) string { return head + highLow(plainOnes(head)) }

// plainDgram writes a datagram, also one that DgramText refuses, as long as
// its numbers have their bytes.
func plainDgram(d impl.Dgram) string {
	more := 0
	if d.More {
		more = 1
	}
	return withOnes(plainHead(d.From, d.To, d.Id, d.At/8, more)) + d.Body
}

func plainDgramOk(d impl.Dgram) bool {
	for _, end := range []int{d.From, d.To} {
		if end < 1 || end > 99 {
			return false
		}
	}
	if d.Id < 0 || d.Id > 65535 || d.At < 0 || d.At > 160 || d.At%8 != 0 {
		return false
	}
	length := len(d.Body)
	if length < 1 || length > 160 || length > 160-d.At {
		return false
	}
	return !d.More || length%8 == 0
}

func rightDgrams() []impl.Dgram {
	list := []impl.Dgram{}
	for _, at := range []int{0, 8, 16, 80, 96, 144, 152} {
		for _, length := range []int{1, 2, 7, 8, 9, 15, 16, 17, 64, 80, 152, 159, 160} {
			for _, more := range []bool{false, true} {
				d := dgram(1+at%99, 1+length%99, 257*at+length, at, more, mixedBytes(length))
				if plainDgramOk(d) {
					list = append(list, d)
				}
			}
		}
	}
	for _, id := range []int{0, 1, 255, 256, 257, 32768, 65279, 65280, 65534, 65535} {
		list = append(list, dgram(1, 99, id, 0, false, "x"), dgram(99, 1, id, 152, true, "\x00\x01\x02\x03\x04\x05\x06\x07"))
	}
	for _, body := range []string{"\x00", "\xff", " ", strings.Repeat("\x00", 160), strings.Repeat("\xff", 160), withOnes(plainHead(1, 2, 3, 0, 0))} {
		list = append(list, dgram(1, 1, 0, 0, false, body), dgram(99, 99, 65535, 0, len(body)%8 == 0, body))
	}
	return list
}

// oddIds are no Id, though some have the lowest bits of one.
func oddIds() []int {
	return []int{-1, -2, -65535, -65536, 65536, 65537, 131071, 1 << 32, 1<<32 + 1, math.MinInt, math.MinInt + 1, math.MaxInt - 1, math.MaxInt}
}

func oddAts() []int {
	return []int{-8, -1, -16, -160, 1, 2, 4, 7, 9, 12, 15, 20, 100, 159, 160, 161, 164, 168, 176, 1024, 2040, 2048, 1 << 32, math.MinInt, math.MinInt + 8, math.MaxInt, math.MaxInt - 7}
}

func oddLengths() []int { return []int{0, 161, 162, 167, 168, 169, 255, 256, 257, 320, 416, 20001} }

// wrongDgrams are right but for one thing each, but for the last ones.
func wrongDgrams() []impl.Dgram {
	list := []impl.Dgram{}
	for _, wrong := range append([]int{0}, farNumbers()...) {
		list = append(list, dgram(wrong, 1, 2, 0, false, "x"), dgram(1, wrong, 2, 0, false, "x"), dgram(wrong, 99, 2, 8, true, mixedBytes(8)), dgram(99, wrong, 2, 8, true, mixedBytes(8)))
	}
	for _, wrong := range oddIds() {
		list = append(list, dgram(1, 2, wrong, 0, false, "x"), dgram(1, 2, wrong, 8, true, mixedBytes(8)))
	}
	for _, wrong := range oddAts() {
		list = append(list, dgram(1, 2, 3, wrong, false, "x"), dgram(1, 2, 3, wrong, true, mixedBytes(8)))
	}
	for _, wrong := range oddLengths() {
		list = append(list, dgram(1, 2, 3, 0, false, mixedBytes(wrong)), dgram(1, 2, 3, 8, true, mixedBytes(wrong)))
	}
	for length := 1; length < 160; length++ {
		if length%8 != 0 {
			list = append(list, dgram(1, 2, 3, 0, true, mixedBytes(length)))
		}
	}
	for at := 8; at <= 160; at += 8 {
		list = append(list, dgram(1, 2, 3, at, false, mixedBytes(161-at)), dgram(1, 2, 3, at, true, mixedBytes(168-at)))
	}
	return append(list, impl.Dgram{}, dgram(0, 0, -1, -1, true, ""), dgram(100, 100, 65536, 161, true, mixedBytes(161)))
}

func TestDgramConstants(t *testing.T) {
	if impl.MaxDgram != 160 {
		t.Error("MaxDgram is another one")
	}
}

func wantOnes(t *testing.T, s string, want int) {
	t.Helper()
	if got := impl.SumOnes(s); got != want {
		t.Errorf("SumOnes of the %d bytes %.60q is %d; want %d", len(s), s, got, want)
	}
}

func TestSumOnesWrittenOut(t *testing.T) {
	for s, want := range map[string]int{
		"":                         65535,
		"\x00":                     65535,
		"\x00\x00\x00\x00":         65535,
		"\x01":                     65535 - 256,
		"\xff":                     65535 - 65280,
		"\x00\x01":                 65534,
		"\x01\x00":                 65535 - 256,
		"\x01\x02":                 65535 - 258,
		"\x01\x02\x03":             65535 - 258 - 768,
		"\x01\x02\x03\x04":         65535 - 258 - 772,
		"\x12\x34\x56\x78\x9a":     65535 - 4660 - 22136 - 154*256 + 65535,
		"\xff\xfe":                 1,
		"\xff\xff":                 0,
		"\xff\xfe\x00\x01":         0,
		"\xff\x00\x00\xff":         0,
		"\x80\x00\x7f\xff":         0,
		"\xff\xff\x00\x00":         0,
		"\xff\xff\x00\x01":         65534,
		"\x80\x00\x80\x00":         65534,
		"\xff\xfe\x00\x02":         65534,
		"\xff\xff\xff":             65535 - 65280,
		"\xff\xff\xff\xff":         0,
		"\xff\xff\xff\xff\xff\xff": 0,
		"\xff\xff\xff\xff\x00\x01": 65534,
		"\x80\x00\x80\x00\x80\x00\x80\x00\x80\x00": 65535 - 32768 - 2,
		"\xc0\x00\xc0\x00\xc0\x00\xc0\x00\xc0\x00": 65535 - 49152 - 3,
		"\xff\xff\xff\xfe\xff\xfd\xff":             65535 - 65535 + 1 + 2 + 255,
	} {
		wantOnes(t, s, want)
	}
}

func TestSumOnesOfEachLength(t *testing.T) {
	for length := range 700 {
		for _, s := range []string{mixedBytes(length), strings.Repeat("\x00", length), strings.Repeat("\xff", length), strings.Repeat("\x80", length)} {
			wantOnes(t, s, plainOnes(s))
			if length%2 == 1 {
				wantOnes(t, s+"\x00", impl.SumOnes(s))
			}
		}
	}
	wantOnes(t, strings.Repeat("\xff", 2000000), 0)
	wantOnes(t, strings.Repeat("\xff", 2000001), 255)
	wantOnes(t, strings.Repeat("\x00", 2000001), 65535)
	wantOnes(t, mixedBytes(2000001), plainOnes(mixedBytes(2000001)))
}

func TestSumOnesOfEveryPair(t *testing.T) {
	for n := range 65536 {
		pair := highLow(n)
		wantOnes(t, pair, 65535-n)
		wantOnes(t, "\x00\x00"+pair, 65535-n)
		wantOnes(t, "\x80\x00"+pair, plainOnes("\x80\x00"+pair))
		wantOnes(t, pair+"\xff", plainOnes(pair+"\xff"))
	}
}

// With its own sum put to it the sum of an even number of bytes is all ones.
func TestSumOnesOfATextWithItsSum(t *testing.T) {
	for length := 0; length < 200; length += 2 {
		for _, s := range []string{mixedBytes(length), strings.Repeat("\x00", length), strings.Repeat("\xff", length)} {
			wantOnes(t, s+highLow(impl.SumOnes(s)), 0)
		}
	}
	for _, d := range rightDgrams() {
		text, _ := impl.DgramText(d)
		if len(text) < 8 || impl.SumOnes(text[:8]) != 0 {
			t.Errorf("the head of %.120v is %.20q", d, text)
		}
	}
}

func wantDgramOk(t *testing.T, d impl.Dgram, want bool) {
	t.Helper()
	if got := impl.DgramOk(d); got != want {
		t.Errorf("DgramOk(%.120v) is %v", d, got)
	}
}

func TestDgramOkOfFixedDgrams(t *testing.T) {
	for end, right := range map[int]bool{-1: false, 0: false, 1: true, 99: true, 100: false} {
		wantDgramOk(t, dgram(end, 1, 0, 0, false, "x"), right)
		wantDgramOk(t, dgram(1, end, 0, 0, false, "x"), right)
	}
	for id, right := range map[int]bool{-1: false, 0: true, 65535: true, 65536: false} {
		wantDgramOk(t, dgram(1, 2, id, 0, false, "x"), right)
	}
	for at, right := range map[int]bool{-8: false, 0: true, 4: false, 8: true, 152: true, 160: false, 168: false} {
		wantDgramOk(t, dgram(1, 2, 3, at, false, "x"), right)
		wantDgramOk(t, dgram(1, 2, 3, at, true, mixedBytes(8)), right)
	}
	for length, right := range map[int]bool{0: false, 1: true, 159: true, 160: true, 161: false} {
		wantDgramOk(t, dgram(1, 2, 3, 0, false, mixedBytes(length)), right)
	}
	for length, right := range map[int]bool{0: false, 1: false, 7: false, 8: true, 9: false, 15: false, 16: true, 160: true, 168: false} {
		wantDgramOk(t, dgram(1, 2, 3, 0, true, mixedBytes(length)), right)
	}
	wantDgramOk(t, dgram(1, 2, 3, 80, false, mixedBytes(80)), true)
	wantDgramOk(t, dgram(1, 2, 3, 80, false, mixedBytes(81)), false)
	wantDgramOk(t, dgram(1, 2, 3, 152, false, mixedBytes(8)), true)
	wantDgramOk(t, dgram(1, 2, 3, 152, false, mixedBytes(9)), false)
	wantDgramOk(t, impl.Dgram{}, false)
}

func TestDgramOkOfEachAtAndLength(t *testing.T) {
	right := 0
	for at := -16; at <= 176; at++ {
		for length := range 180 {
			for _, more := range []bool{false, true} {
				d := dgram(1, 99, 65535, at, more, mixedBytes(length))
				wantDgramOk(t, d, plainDgramOk(d))
				if impl.DgramOk(d) {
					right++
				}
			}
		}
	}
	// Of each At there are 160 - At lengths without More, an eighth of it with.
	if want := 8*(20*21/2) + 20*21/2; right != want {
		t.Errorf("%d are right; want %d", right, want)
	}
}

func TestDgramOkOfRightAndWrongDgrams(t *testing.T) {
	for _, d := range rightDgrams() {
		wantDgramOk(t, d, true)
	}
	for _, d := range wrongDgrams() {
		wantDgramOk(t, d, false)
	}
}

func wantDgramText(t *testing.T, d impl.Dgram, want string) {
	t.Helper()
	if got, ok := impl.DgramText(d); !ok || got != want {
		t.Errorf("DgramText(%.120v) = %.120q, %v; want %.120q", d, got, ok, want)
	}
}

func wantNoDgramText(t *testing.T, d impl.Dgram) {
	t.Helper()
	if got, ok := impl.DgramText(d); ok || got != "" {
		t.Errorf("DgramText(%.120v) = %.120q, %v; want none", d, got, ok)
	}
}

func wantReadDgram(t *testing.T, text string, want impl.Dgram) {
	t.Helper()
	if got, ok := impl.ReadDgram(text); !ok || got != want {
		t.Errorf("ReadDgram(%.120q) = %.120v, %v; want %.120v", text, got, ok, want)
	}
}

func wantNoReadDgram(t *testing.T, text string) {
	t.Helper()
	if got, ok := impl.ReadDgram(text); ok || got != (impl.Dgram{}) {
		t.Errorf("ReadDgram of the %d bytes %.120q is %.120v, %v; want none", len(text), text, got, ok)
	}
}

// writtenDgrams are datagrams beside their bytes, each sum written out.
func writtenDgrams() map[string]impl.Dgram {
	return map[string]impl.Dgram{
		"\x01\x02\x00\x03\x00\x00\xfe\xfa0123456789": dgram(1, 2, 3, 0, false, "0123456789"),
		"\x01\x01\x00\x00\x00\x00\xfe\xfex":          dgram(1, 1, 0, 0, false, "x"),
		"\x01\x01\x00\x00\x01\x01\xfd\xfdabcdefgh":   dgram(1, 1, 0, 8, true, "abcdefgh"),
		"\x01\x02\x00\x03\x01\x00\xfd\xfa89":         dgram(1, 2, 3, 8, false, "89"),
		"\x01\x02\x00\x03\x00\x01\xfe\xf901234567":   dgram(1, 2, 3, 0, true, "01234567"),
		"\x63\x63\xff\xff\x13\x01\x89\x9babcdefgh":   dgram(99, 99, 65535, 152, true, "abcdefgh"),
		"\x63\x01\xff\x00\x13\x00\x8a\xfd\x00":       dgram(99, 1, 65280, 152, false, "\x00"),
		"\x01\x63\x12\x34\x0a\x00\xe2\x68\xff\xff":   dgram(1, 99, 4660, 80, false, "\xff\xff"),
	}
}

func TestDgramsWrittenOut(t *testing.T) {
	for text, d := range writtenDgrams() {
		wantDgramText(t, d, text)
		wantReadDgram(t, text, d)
	}
}

func TestDgramTextOfRightAndWrongDgrams(t *testing.T) {
	for _, d := range rightDgrams() {
		wantDgramText(t, d, plainDgram(d))
	}
	for _, d := range wrongDgrams() {
		wantNoDgramText(t, d)
	}
}

func TestDgramsComeBack(t *testing.T) {
	for _, d := range rightDgrams() {
		text, ok := impl.DgramText(d)
		if !ok || len(text) != 8+len(d.Body) {
			t.Errorf("DgramText(%.120v) has %d bytes, %v", d, len(text), ok)
		}
		wantReadDgram(t, text, d)
	}
	for b := range 256 {
		d := dgram(1+b%99, 99-b%99, 256*b+255-b, 8, false, string([]byte{byte(b)}))
		wantDgramText(t, d, plainDgram(d))
		wantReadDgram(t, plainDgram(d), d)
	}
}

func TestDgramsOfEachIdComeBack(t *testing.T) {
	for id := range 65536 {
		d := dgram(1+id%99, 1+id/7%99, id, id%20*8, id%3 == 0, "12345678")
		text, ok := impl.DgramText(d)
		if !ok || text != plainDgram(d) {
			t.Fatalf("DgramText(%v) = %q, %v", d, text, ok)
		}
		wantReadDgram(t, text, d)
	}
}

func TestDgramsOfEachAtAndLengthComeBack(t *testing.T) {
	for at := 0; at <= 168; at += 8 {
		for length := range 180 {
			for _, more := range []bool{false, true} {
				d := dgram(7, 8, 9, at, more, mixedBytes(length))
				if plainDgramOk(d) {
					wantDgramText(t, d, plainDgram(d))
					wantReadDgram(t, plainDgram(d), d)
				} else {
					wantNoDgramText(t, d)
					wantNoReadDgram(t, plainDgram(d))
				}
			}
		}
	}
}

func TestReadDgramOfShortTexts(t *testing.T) {
	for length := range 9 {
		for b := range 256 {
			wantNoReadDgram(t, strings.Repeat(string([]byte{byte(b)}), length))
		}
		for text := range writtenDgrams() {
			wantNoReadDgram(t, text[:length])
		}
	}
}

// A text that is cut behind its head is one of a shorter Body, as long as
// that is right.
func TestReadDgramOfTextsOfAnotherLength(t *testing.T) {
	for _, d := range rightDgrams() {
		text := plainDgram(d)
		for length := range len(d.Body) {
			shorter := d
			shorter.Body = d.Body[:length]
			if plainDgramOk(shorter) {
				wantReadDgram(t, text[:8+length], shorter)
			} else {
				wantNoReadDgram(t, text[:8+length])
			}
		}
		longer := d
		longer.Body += "x"
		if plainDgramOk(longer) {
			wantReadDgram(t, text+"x", longer)
		} else {
			wantNoReadDgram(t, text+"x")
		}
		wantNoReadDgram(t, text+mixedBytes(160))
		wantNoReadDgram(t, text+mixedBytes(20001))
	}
}

// Each place of a head, its sum too, is turned to each other byte.
func TestDgramsWithOneByteOfTheHeadTurnedAreRefused(t *testing.T) {
	for _, d := range rightDgrams() {
		text := plainDgram(d)
		turned := []byte(text)
		for at := range 8 {
			for by := 1; by < 256; by++ {
				turned[at] = text[at] ^ byte(by)
				wantNoReadDgram(t, string(turned))
			}
			turned[at] = text[at]
		}
		wantReadDgram(t, string(turned), d)
	}
}

func TestReadDgramOfWrongSums(t *testing.T) {
	for _, d := range rightDgrams() {
		text := plainDgram(d)
		head, sum := text[:6], plainOnes(text[:6])
		for _, wrong := range []int{0, 65535, 65535 - sum, (sum + 1) % 65536, (sum + 65535) % 65536, sum ^ 256, sum%256*256 + sum/256, plainOnes(head + d.Body), plainOnes(d.Body)} {
			if wrong != sum {
				wantNoReadDgram(t, head+highLow(wrong)+d.Body)
			}
		}
	}
	text := withOnes(plainHead(1, 2, 3, 0, 0))
	for sum := range 65536 {
		if sum != plainOnes(text[:6]) {
			wantNoReadDgram(t, text[:6]+highLow(sum)+"x")
		}
	}
	wantReadDgram(t, text+"x", dgram(1, 2, 3, 0, false, "x"))
}

// A right sum makes no right datagram of a wrong one.
func TestReadDgramOfWrongFieldsWithARightSum(t *testing.T) {
	for b := range 256 {
		for _, body := range []string{"x", "12345678"} {
			wantRead := func(head string, right bool, want impl.Dgram) {
				t.Helper()
				if right {
					wantReadDgram(t, withOnes(head)+body, want)
				} else {
					wantNoReadDgram(t, withOnes(head)+body)
				}
			}
			isEnd := b >= 1 && b <= 99
			wantRead(plainHead(b, 2, 3, 0, 0), isEnd, dgram(b, 2, 3, 0, false, body))
			wantRead(plainHead(1, b, 3, 0, 0), isEnd, dgram(1, b, 3, 0, false, body))
			wantRead(plainHead(1, 2, 3, b, 0), b < 20, dgram(1, 2, 3, 8*b, false, body))
			wantRead(plainHead(1, 2, 3, b, 1), b < 20 && body != "x", dgram(1, 2, 3, 8*b, true, body))
			wantRead(plainHead(1, 2, 3, 1, b), b == 0 || b == 1 && body != "x", dgram(1, 2, 3, 8, b == 1, body))
		}
		wantNoReadDgram(t, withOnes(plainHead(1, 2, 3, b, 0)))
		wantNoReadDgram(t, withOnes(plainHead(1, 2, 3, b, 1)))
	}
}

func TestReadDgramOfDrawnTexts(t *testing.T) {
	draw, right := drawsFrom(23), 0
	for range 20000 {
		d := dgram(draw(103), draw(103), draw(65536), 8*draw(22), draw(2) == 0, mixedBytes(8*draw(9)+draw(2)*draw(8)))
		text := plainDgram(d)
		if draw(4) == 0 {
			at := draw(8)
			text = text[:at] + string([]byte{byte(draw(256))}) + text[at+1:]
		}
		if plainDgramOk(d) && text == plainDgram(d) {
			right++
			wantReadDgram(t, text, d)
		} else {
			wantNoReadDgram(t, text)
		}
	}
	if right < 2000 || right > 16000 {
		t.Errorf("%d of the drawn texts are right", right)
	}
}

func wantParted(t *testing.T, d impl.Dgram, size int, want ...impl.Dgram) {
	t.Helper()
	if got, ok := impl.CutDgram(d, size); !ok || !slices.Equal(got, want) {
		t.Errorf("CutDgram(%.120v, %d) = %.600v, %v; want %.600v", d, size, got, ok, want)
	}
}

func wantNoParted(t *testing.T, d impl.Dgram, size int) {
	t.Helper()
	if got, ok := impl.CutDgram(d, size); ok || len(got) != 0 {
		t.Errorf("CutDgram(%.120v, %d) = %.600v, %v; want none", d, size, got, ok)
	}
}

func TestCutDgramOfFixedDgrams(t *testing.T) {
	d := dgram(1, 2, 3, 0, false, "0123456789abcdefXYZ")
	first, second, third := dgram(1, 2, 3, 0, true, "01234567"), dgram(1, 2, 3, 8, true, "89abcdef"), dgram(1, 2, 3, 16, false, "XYZ")
	for _, size := range []int{8, 9, 15} {
		wantParted(t, d, size, first, second, third)
	}
	for _, size := range []int{16, 17, 18, 19, 23} {
		wantParted(t, d, size, dgram(1, 2, 3, 0, true, "0123456789abcdef"), third)
	}
	for _, size := range []int{24, 25, 159, 160} {
		wantParted(t, d, size, d)
	}
	for _, size := range []int{7, 0, -1, -8, 161, 168, 1 << 32, 1<<32 + 8, math.MinInt, math.MinInt + 8, math.MaxInt} {
		wantNoParted(t, d, size)
	}
	wantParted(t, dgram(1, 2, 3, 0, false, "0123456789abcdef"), 8, first, dgram(1, 2, 3, 8, false, "89abcdef"))
	wantParted(t, dgram(1, 2, 3, 0, false, "0123456789abcdef"), 16, dgram(1, 2, 3, 0, false, "0123456789abcdef"))
	wantParted(t, dgram(1, 2, 3, 0, true, "0123456789abcdef"), 8, first, second)
	wantParted(t, dgram(1, 2, 3, 0, true, "0123456789abcdef"), 16, dgram(1, 2, 3, 0, true, "0123456789abcdef"))
	wantParted(t, dgram(1, 2, 3, 0, false, "x"), 8, dgram(1, 2, 3, 0, false, "x"))
	wantParted(t, dgram(1, 2, 3, 0, false, "01234567"), 8, dgram(1, 2, 3, 0, false, "01234567"))
	wantParted(t, dgram(1, 2, 3, 0, false, "012345678"), 8, first, dgram(1, 2, 3, 8, false, "8"))
}

// A part may be cut once more: its own parts stand from its At on.
func TestCutDgramOfParts(t *testing.T) {
	wantParted(t, dgram(9, 8, 7, 40, false, "0123456789"), 8, dgram(9, 8, 7, 40, true, "01234567"), dgram(9, 8, 7, 48, false, "89"))
	wantParted(t, dgram(9, 8, 7, 40, true, "0123456789abcdef"), 8, dgram(9, 8, 7, 40, true, "01234567"), dgram(9, 8, 7, 48, true, "89abcdef"))
	wantParted(t, dgram(9, 8, 7, 144, false, "0123456789abcdef"), 8, dgram(9, 8, 7, 144, true, "01234567"), dgram(9, 8, 7, 152, false, "89abcdef"))
	wantParted(t, dgram(9, 8, 7, 152, true, "01234567"), 160, dgram(9, 8, 7, 152, true, "01234567"))
}

func TestCutDgramOfEachSize(t *testing.T) {
	for _, d := range rightDgrams() {
		for size := -10; size <= 180; size++ {
			if size < 8 || size > 160 {
				wantNoParted(t, d, size)
				continue
			}
			checkParts(t, d, size)
		}
	}
}

// checkParts holds parts against what is said of them: each is right and as
// long as it may be but the last one, and together they are the datagram.
func checkParts(t *testing.T, d impl.Dgram, size int) {
	t.Helper()
	parts, ok := impl.CutDgram(d, size)
	step := size / 8 * 8
	if !ok || len(parts) != (len(d.Body)+step-1)/step {
		t.Errorf("CutDgram(%.120v, %d) has %d parts, %v", d, size, len(parts), ok)
		return
	}
	body := ""
	for at, part := range parts {
		last := at == len(parts)-1
		want := dgram(d.From, d.To, d.Id, d.At+len(body), d.More || !last, part.Body)
		if part != want || !plainDgramOk(part) || !last && len(part.Body) != step || len(part.Body) > step {
			t.Errorf("part %d of CutDgram(%.120v, %d) is %.120v", at, d, size, part)
		}
		body += part.Body
	}
	if body != d.Body {
		t.Errorf("CutDgram(%.120v, %d) has the bytes %.120q", d, size, body)
	}
}

func TestCutDgramOfWrongDgrams(t *testing.T) {
	for _, d := range wrongDgrams() {
		for _, size := range []int{-1, 0, 7, 8, 16, 159, 160, 161, math.MaxInt} {
			wantNoParted(t, d, size)
		}
	}
}

// A piece is a part as bits have it.
type piece struct {
	at   int
	text string
}

func bitsOf(from, id, total, until int, pieces ...piece) impl.Bits {
	b := impl.Bits{From: from, Id: id, Total: total, Until: until}
	for _, one := range pieces {
		b.Ats, b.Texts = append(b.Ats, one.at), append(b.Texts, one.text)
	}
	return b
}

func sameBits(a, b impl.Bits) bool {
	return a.From == b.From && a.Id == b.Id && a.Total == b.Total && a.Until == b.Until && slices.Equal(a.Texts, b.Texts) && slices.Equal(a.Ats, b.Ats)
}

func sameBitsList(a, b []impl.Bits) bool { return slices.EqualFunc(a, b, sameBits) }

func copyOfBits(list []impl.Bits) []impl.Bits {
	out := []impl.Bits{}
	for _, b := range list {
		b.Texts, b.Ats = slices.Clone(b.Texts), slices.Clone(b.Ats)
		for at := range b.Texts {
			b.Texts[at] = strings.Clone(b.Texts[at])
		}
		out = append(out, b)
	}
	return out
}

// plainJoin is the chapter's sentence on lists alone.
func plainJoin(list []impl.Bits, d impl.Dgram, now int) ([]impl.Bits, impl.Dgram, bool) {
	list = copyOfBits(list)
	if !plainDgramOk(d) || now < 0 || now > 999999990 {
		return list, impl.Dgram{}, false
	}
	if d.At == 0 && !d.More {
		return list, d, true
	}
	place := slices.IndexFunc(list, func(b impl.Bits) bool { return b.From == d.From && b.Id == d.Id })
	if place < 0 {
		list = append(list, bitsOf(d.From, d.Id, 0, now+10))
		if len(list) > 3 {
			list = list[1:]
		}
		place = len(list) - 1
	}
	b := &list[place]
	if !slices.Contains(b.Ats, d.At) {
		b.Ats, b.Texts = append(b.Ats, d.At), append(b.Texts, d.Body)
		if !d.More && b.Total == 0 {
			b.Total = d.At + len(d.Body)
		}
	}
	body, whole := plainWhole(*b)
	if !whole {
		return list, impl.Dgram{}, false
	}
	return slices.Delete(list, place, place+1), dgram(d.From, d.To, d.Id, 0, false, body), true
}

func plainWhole(b impl.Bits) (string, bool) {
	body := ""
	for range b.Ats {
		nth := slices.Index(b.Ats, len(body))
		if nth < 0 || nth >= len(b.Texts) {
			return "", false
		}
		body += b.Texts[nth]
		if len(body) == b.Total && b.Total > 0 {
			return body, true
		}
	}
	return "", false
}

func wantJoin(t *testing.T, list []impl.Bits, d impl.Dgram, now int, left []impl.Bits, whole impl.Dgram, right bool) {
	t.Helper()
	gotLeft, gotWhole, ok := impl.JoinBits(list, d, now)
	if !sameBitsList(gotLeft, left) || gotWhole != whole || ok != right {
		t.Errorf("JoinBits(%.400v, %.200v, %d) = %.400v, %.200v, %v; want %.400v, %.200v, %v", list, d, now, gotLeft, gotWhole, ok, left, whole, right)
	}
}

func wantJoined(t *testing.T, list []impl.Bits, d impl.Dgram, whole impl.Dgram, left ...impl.Bits) {
	t.Helper()
	wantJoin(t, list, d, 5, left, whole, true)
}

// wantWaits: the part is taken or not, but nothing is whole.
func wantWaits(t *testing.T, list []impl.Bits, d impl.Dgram, left ...impl.Bits) {
	t.Helper()
	wantJoin(t, list, d, 5, left, impl.Dgram{}, false)
}

func wantAsPlain(t *testing.T, list []impl.Bits, d impl.Dgram, now int) ([]impl.Bits, impl.Dgram, bool) {
	t.Helper()
	left, whole, right := plainJoin(list, d, now)
	wantJoin(t, list, d, now, left, whole, right)
	return left, whole, right
}

const (
	bytesAt0  = "01234567"
	bytesAt8  = "89abcdef"
	bytesAt16 = "XYZ"
)

// threeParts are those of the datagram from 1 to 2 of this Id.
func threeParts(id int) (impl.Dgram, impl.Dgram, impl.Dgram) {
	return dgram(1, 2, id, 0, true, bytesAt0), dgram(1, 2, id, 8, true, bytesAt8), dgram(1, 2, id, 16, false, bytesAt16)
}

func ofThree(id int) impl.Dgram { return dgram(1, 2, id, 0, false, bytesAt0+bytesAt8+bytesAt16) }

func otherBits() []impl.Bits {
	return []impl.Bits{bitsOf(7, 3, 0, 2, piece{8, "otherBit"}), bitsOf(1, 4, 19, 20, piece{16, "abc"}, piece{0, "01234567"})}
}

func TestJoinBitsOfAWholeDgram(t *testing.T) {
	for _, d := range rightDgrams() {
		if d.At == 0 && !d.More {
			wantJoined(t, nil, d, d)
			wantJoined(t, otherBits(), d, d, otherBits()...)
		}
	}
	// Bits of its From and Id stay as they are, and so do more than three.
	whole := dgram(1, 2, 3, 0, false, "whole")
	list := append(otherBits(), bitsOf(1, 3, 0, 9, piece{0, bytesAt0}), bitsOf(1, 3, 0, 9), bitsOf(8, 8, 0, 0))
	wantJoined(t, list, whole, whole, list...)
	done := []impl.Bits{bitsOf(1, 3, 8, 9, piece{0, bytesAt0})}
	wantJoined(t, done, whole, whole, done...)
}

func TestJoinBitsInOrder(t *testing.T) {
	a, b, c := threeParts(3)
	pa, pb, pc := piece{0, bytesAt0}, piece{8, bytesAt8}, piece{16, bytesAt16}
	one, two := bitsOf(1, 3, 0, 15, pa), bitsOf(1, 3, 0, 15, pa, pb)
	wantWaits(t, nil, a, one)
	wantWaits(t, []impl.Bits{one}, b, two)
	wantJoined(t, []impl.Bits{two}, c, ofThree(3))
	last, lastTwo := bitsOf(1, 3, 19, 15, pc), bitsOf(1, 3, 19, 15, pc, pb)
	wantWaits(t, nil, c, last)
	wantWaits(t, []impl.Bits{last}, b, lastTwo)
	wantJoined(t, []impl.Bits{lastTwo}, a, ofThree(3))
	mid, midTwo := bitsOf(1, 3, 0, 15, pb), bitsOf(1, 3, 19, 15, pb, pc)
	wantWaits(t, nil, b, mid)
	wantWaits(t, []impl.Bits{mid}, c, midTwo)
	wantJoined(t, []impl.Bits{midTwo}, a, ofThree(3))
	wantWaits(t, []impl.Bits{mid}, a, bitsOf(1, 3, 0, 15, pb, pa))
	wantJoined(t, []impl.Bits{bitsOf(1, 3, 0, 15, pb, pa)}, c, ofThree(3))
	wantWaits(t, []impl.Bits{last}, a, bitsOf(1, 3, 19, 15, pc, pa))
	wantJoined(t, []impl.Bits{bitsOf(1, 3, 19, 15, pc, pa)}, b, ofThree(3))
}

// The bits of others stay where they are, on both sides.
func TestJoinBitsAmongOthers(t *testing.T) {
	a, b, c := threeParts(3)
	o := otherBits()
	pa, pb, pc := piece{0, bytesAt0}, piece{8, bytesAt8}, piece{16, bytesAt16}
	wantWaits(t, o, a, o[0], o[1], bitsOf(1, 3, 0, 15, pa))
	half := bitsOf(1, 3, 19, 9, pa, pc)
	wantJoined(t, []impl.Bits{half, o[0], o[1]}, b, ofThree(3), o[0], o[1])
	wantJoined(t, []impl.Bits{o[0], half, o[1]}, b, ofThree(3), o[0], o[1])
	wantJoined(t, []impl.Bits{o[0], o[1], half}, b, ofThree(3), o[0], o[1])
	wantWaits(t, []impl.Bits{o[0], bitsOf(1, 3, 0, 9, pb), o[1]}, c, o[0], bitsOf(1, 3, 19, 9, pb, pc), o[1])
}

// What is whole has the To of the part that came last: bits know of none.
func TestJoinBitsOfPartsToOthers(t *testing.T) {
	a, b, c := threeParts(3)
	b.To, c.To = 50, 99
	list, _, _ := impl.JoinBits(nil, a, 0)
	list, _, _ = impl.JoinBits(list, b, 0)
	want := ofThree(3)
	want.To = 99
	wantJoined(t, list, c, want)
}

func TestJoinBitsOfAPartThatComesTwice(t *testing.T) {
	a, b, c := threeParts(3)
	for _, order := range [][]impl.Dgram{{a, b, c}, {c, b, a}, {b, c, a}, {a, c, b}, {b, a, c}, {c, a, b}} {
		for upTo := 1; upTo < 3; upTo++ {
			list := []impl.Bits(nil)
			for _, part := range order[:upTo] {
				list, _, _ = impl.JoinBits(list, part, 5)
			}
			for _, twice := range order[:upTo] {
				checkTwice(t, list, twice, order[upTo:])
			}
		}
	}
}

// checkTwice brings a part that is there once more, with the same bytes and
// with others: the list stays, and what is missing makes the same of it.
func checkTwice(t *testing.T, list []impl.Bits, twice impl.Dgram, missing []impl.Dgram) {
	t.Helper()
	for _, more := range []bool{false, true} {
		for _, body := range []string{twice.Body, "no", "not this", "not this", mixedBytes(16), mixedBytes(144)} {
			again := dgram(twice.From, 77, twice.Id, twice.At, more, body)
			if again.At == 0 && !more || !plainDgramOk(again) {
				continue
			}
			wantWaits(t, list, again, list...)
			after, _, _ := impl.JoinBits(list, again, 5)
			whole, ok := impl.Dgram{}, false
			for _, part := range missing {
				after, whole, ok = impl.JoinBits(after, part, 5)
			}
			if !ok || whole != ofThree(3) || len(after) != 0 {
				t.Errorf("behind %v twice: %v, %v, %v", again, after, whole, ok)
			}
		}
	}
}

// Nothing is taken of a part that comes twice, the Total neither.
func TestJoinBitsOfALastPartThatComesTwice(t *testing.T) {
	told := []impl.Bits{bitsOf(1, 3, 19, 9, piece{16, bytesAt16})}
	wantWaits(t, told, dgram(1, 2, 3, 16, false, "longer"), told...)
	wantWaits(t, told, dgram(1, 2, 3, 16, false, "x"), told...)
	wantWaits(t, told, dgram(1, 2, 3, 16, true, "12345678"), told...)
	notTold := []impl.Bits{bitsOf(1, 3, 0, 9, piece{0, bytesAt0}, piece{8, bytesAt8})}
	wantWaits(t, notTold, dgram(1, 2, 3, 8, false, bytesAt8), notTold...)
	wantWaits(t, notTold, dgram(1, 2, 3, 8, false, "x"), notTold...)
	// A last part at another place is one more part; the Total is told already.
	wantWaits(t, told, dgram(1, 2, 3, 24, false, "end"), bitsOf(1, 3, 19, 9, piece{16, bytesAt16}, piece{24, "end"}))
	wantWaits(t, told, dgram(1, 2, 3, 8, false, "end"), bitsOf(1, 3, 19, 9, piece{16, bytesAt16}, piece{8, "end"}))
	half := []impl.Bits{bitsOf(1, 3, 19, 9, piece{16, bytesAt16}, piece{0, bytesAt0})}
	wantJoined(t, half, dgram(1, 2, 3, 8, false, bytesAt8), ofThree(3))
}

func TestJoinBitsOfPartsThatOverlap(t *testing.T) {
	long := piece{0, bytesAt0 + bytesAt8}
	// The one within the other is passed over.
	wantJoined(t, []impl.Bits{bitsOf(1, 3, 0, 9, long, piece{8, "notTaken"})}, dgram(1, 2, 3, 16, false, bytesAt16), ofThree(3))
	wantJoined(t, []impl.Bits{bitsOf(1, 3, 19, 9, piece{8, "notTaken"}, piece{16, bytesAt16})}, dgram(1, 2, 3, 0, true, bytesAt0+bytesAt8), ofThree(3))
	// The one ahead goes beyond the Total, or beyond where the next one begins.
	wantWaits(t, []impl.Bits{bitsOf(1, 3, 0, 9, long)}, dgram(1, 2, 3, 8, false, "x"), bitsOf(1, 3, 9, 9, long, piece{8, "x"}))
	wantWaits(t, []impl.Bits{bitsOf(1, 3, 27, 9, piece{0, bytesAt0}, piece{8, bytesAt0 + bytesAt8})}, dgram(1, 2, 3, 16, false, bytesAt16),
		bitsOf(1, 3, 27, 9, piece{0, bytesAt0}, piece{8, bytesAt0 + bytesAt8}, piece{16, bytesAt16}))
	// What stands behind the Total does not matter.
	wantJoined(t, []impl.Bits{bitsOf(1, 3, 0, 9, piece{0, bytesAt0}, piece{16, bytesAt8}, piece{24, bytesAt8})}, dgram(1, 2, 3, 8, false, bytesAt8), dgram(1, 2, 3, 0, false, bytesAt0+bytesAt8))
	wantJoined(t, []impl.Bits{bitsOf(1, 3, 8, 9, piece{8, bytesAt8})}, dgram(1, 2, 3, 0, true, bytesAt0), dgram(1, 2, 3, 0, false, bytesAt0))
}

func TestJoinBitsOfPartsThatLeaveAGap(t *testing.T) {
	pa, pb, pc := piece{0, bytesAt0}, piece{8, bytesAt8}, piece{16, bytesAt16}
	wantWaits(t, []impl.Bits{bitsOf(1, 3, 0, 9, pa)}, dgram(1, 2, 3, 16, false, bytesAt16), bitsOf(1, 3, 19, 9, pa, pc))
	wantWaits(t, []impl.Bits{bitsOf(1, 3, 0, 9, pb)}, dgram(1, 2, 3, 16, false, bytesAt16), bitsOf(1, 3, 19, 9, pb, pc))
	wantWaits(t, []impl.Bits{bitsOf(1, 3, 0, 9, pa, pb)}, dgram(1, 2, 3, 24, false, "x"), bitsOf(1, 3, 25, 9, pa, pb, piece{24, "x"}))
	// Without a Total nothing is whole, also where no part is at 0.
	wantWaits(t, nil, dgram(1, 2, 3, 8, true, bytesAt8), bitsOf(1, 3, 0, 15, pb))
	wantWaits(t, nil, dgram(1, 2, 3, 152, true, bytesAt8), bitsOf(1, 3, 0, 15, piece{152, bytesAt8}))
	wantWaits(t, nil, dgram(1, 2, 3, 152, false, bytesAt8), bitsOf(1, 3, 160, 15, piece{152, bytesAt8}))
	wantWaits(t, nil, dgram(1, 2, 3, 0, true, mixedBytes(160)), bitsOf(1, 3, 0, 15, piece{0, mixedBytes(160)}))
}

func TestJoinBitsOfTwoDgramsBetweenEachOther(t *testing.T) {
	for _, second := range []impl.Dgram{dgram(9, 2, 3, 0, false, mixedBytes(20)), dgram(1, 2, 4, 0, false, mixedBytes(20)), dgram(3, 2, 1, 0, false, mixedBytes(20)), dgram(2, 1, 3, 0, false, mixedBytes(20))} {
		parts, _ := impl.CutDgram(second, 8)
		a, b, c := threeParts(3)
		list, _, _ := impl.JoinBits(nil, a, 1)
		list, _, _ = impl.JoinBits(list, parts[2], 2)
		list, _, _ = impl.JoinBits(list, c, 3)
		list, _, _ = impl.JoinBits(list, parts[1], 4)
		left := bitsOf(second.From, second.Id, 20, 12, piece{16, parts[2].Body}, piece{8, parts[1].Body})
		wantJoined(t, list, b, ofThree(3), left)
		list, _, _ = impl.JoinBits(list, parts[0], 4)
		wantJoined(t, list, b, ofThree(3))
		wantJoined(t, []impl.Bits{left}, parts[0], second)
	}
}

func TestJoinBitsOfMoreThanThreeDgrams(t *testing.T) {
	list := []impl.Bits(nil)
	for id := 1; id <= 3; id++ {
		a, _, _ := threeParts(id)
		list, _, _ = impl.JoinBits(list, a, id)
	}
	three := []impl.Bits{bitsOf(1, 1, 0, 11, piece{0, bytesAt0}), bitsOf(1, 2, 0, 12, piece{0, bytesAt0}), bitsOf(1, 3, 0, 13, piece{0, bytesAt0})}
	if !sameBitsList(list, three) {
		t.Fatalf("three bits are %v", list)
	}
	a, _, _ := threeParts(4)
	wantWaits(t, three, a, three[1], three[2], bitsOf(1, 4, 0, 15, piece{0, bytesAt0}))
	// One of the three goes on, and none is gone for that.
	_, b, _ := threeParts(1)
	wantWaits(t, three, b, bitsOf(1, 1, 0, 11, piece{0, bytesAt0}, piece{8, bytesAt8}), three[1], three[2])
	// Of one that is gone the parts that come are those of a new one.
	list, _, _ = impl.JoinBits(three, a, 5)
	wantWaits(t, list, b, three[2], bitsOf(1, 4, 0, 15, piece{0, bytesAt0}), bitsOf(1, 1, 0, 15, piece{8, bytesAt8}))
	wantWaits(t, three[:2], a, three[0], three[1], bitsOf(1, 4, 0, 15, piece{0, bytesAt0}))
}

func TestJoinBitsOfListsOfMoreThanThree(t *testing.T) {
	list := []impl.Bits{}
	for id := range 6 {
		list = append(list, bitsOf(5, id, 0, 9, piece{0, bytesAt0}))
	}
	a, _, _ := threeParts(9)
	fresh := bitsOf(1, 9, 0, 15, piece{0, bytesAt0})
	// The chapter takes one away when a new one comes, and none else.
	wantWaits(t, list, a, list[1], list[2], list[3], list[4], list[5], fresh)
	wantWaits(t, list[:4], a, list[1], list[2], list[3], fresh)
	more := bitsOf(5, 0, 0, 9, piece{0, bytesAt0}, piece{8, bytesAt8})
	wantWaits(t, list, dgram(5, 1, 0, 8, true, bytesAt8), more, list[1], list[2], list[3], list[4], list[5])
	wantWaits(t, list, dgram(5, 1, 0, 0, true, bytesAt0), list...)
	wantJoined(t, list, dgram(5, 1, 2, 8, false, "x"), dgram(5, 1, 2, 0, false, bytesAt0+"x"), list[0], list[1], list[3], list[4], list[5])
}

func TestJoinBitsOfSeveralBitsOfOneDgram(t *testing.T) {
	pa, pb, pc := piece{0, bytesAt0}, piece{8, bytesAt8}, piece{16, bytesAt16}
	first, second := bitsOf(1, 3, 0, 9, pa), bitsOf(1, 3, 19, 8, pb, pc)
	a, b, c := threeParts(3)
	wantWaits(t, []impl.Bits{first, second}, b, bitsOf(1, 3, 0, 9, pa, pb), second)
	wantWaits(t, []impl.Bits{first, second}, a, first, second)
	wantJoined(t, []impl.Bits{second, first}, a, ofThree(3), first)
	wantJoined(t, []impl.Bits{second, second, second, second}, a, ofThree(3), second, second, second)
	wantJoined(t, []impl.Bits{bitsOf(1, 3, 0, 9, pa, pb), first}, c, ofThree(3), first)
}

// Of several parts at one place the first one counts.
func TestJoinBitsOfSeveralPartsAtOnePlace(t *testing.T) {
	_, _, c := threeParts(3)
	pa, pb := piece{0, bytesAt0}, piece{8, bytesAt8}
	wantJoined(t, []impl.Bits{bitsOf(1, 3, 0, 9, pa, piece{0, "notTaken"}, pb, piece{8, "x"}, piece{8, ""})}, c, ofThree(3))
	wantJoined(t, []impl.Bits{bitsOf(1, 3, 0, 9, pb, piece{8, "not"}, pa, piece{0, "notTaken"})}, c, ofThree(3))
	list := bitsOf(1, 3, 0, 9, piece{0, "short"}, pa, pb)
	wantWaits(t, []impl.Bits{list}, c, bitsOf(1, 3, 19, 9, piece{0, "short"}, pa, pb, piece{16, bytesAt16}))
}

// Bits that are handed in may be whole already: any part of theirs shows it.
func TestJoinBitsOfBitsThatAreWhole(t *testing.T) {
	a, b, _ := threeParts(3)
	list := []impl.Bits{bitsOf(1, 3, 8, 9, piece{0, "12345678"})}
	wantJoined(t, list, a, dgram(1, 2, 3, 0, false, "12345678"))
	wantJoined(t, list, b, dgram(1, 2, 3, 0, false, "12345678"))
	long := []impl.Bits{bitsOf(1, 3, 1000, 9, piece{0, mixedBytes(1000)})}
	wantJoined(t, long, a, dgram(1, 2, 3, 0, false, mixedBytes(1000)))
}

func TestJoinBitsOfOddBits(t *testing.T) {
	a, b, c := threeParts(3)
	pa, pb := piece{0, bytesAt0}, piece{8, bytesAt8}
	// A part without bytes does not reach any further.
	wantWaits(t, []impl.Bits{bitsOf(1, 3, 8, 9, piece{0, ""}, pa)}, b, bitsOf(1, 3, 8, 9, piece{0, ""}, pa, pb))
	wantWaits(t, []impl.Bits{bitsOf(1, 3, 8, 9, piece{0, ""})}, a, bitsOf(1, 3, 8, 9, piece{0, ""}))
	wantWaits(t, []impl.Bits{bitsOf(1, 3, 0, 9, piece{0, ""})}, a, bitsOf(1, 3, 0, 9, piece{0, ""}))
	// No part is ahead of 0, and no Total is reached there.
	wantWaits(t, []impl.Bits{bitsOf(1, 3, 0, 9, piece{-8, bytesAt0})}, b, bitsOf(1, 3, 0, 9, piece{-8, bytesAt0}, pb))
	for _, total := range []int{-1, -8, math.MinInt, 1, 7, 9, 20, 161, math.MaxInt} {
		wantWaits(t, []impl.Bits{bitsOf(1, 3, total, 9, pa, pb)}, c, bitsOf(1, 3, total, 9, pa, pb, piece{16, bytesAt16}))
	}
	// Until says nothing here.
	for _, until := range []int{math.MinInt, -1, 0, 4, 5, 6, math.MaxInt} {
		wantWaits(t, []impl.Bits{bitsOf(1, 3, 0, until, pa)}, b, bitsOf(1, 3, 0, until, pa, pb))
	}
}

func TestJoinBitsOfListsOfUnlikeLength(t *testing.T) {
	a, b, c := threeParts(3)
	moreAts := impl.Bits{From: 1, Id: 3, Texts: []string{bytesAt0}, Ats: []int{0, 8}, Until: 9}
	moreTexts := impl.Bits{From: 1, Id: 3, Texts: []string{bytesAt0, bytesAt8}, Ats: []int{0}, Until: 9}
	for _, odd := range []impl.Bits{moreAts, moreTexts} {
		wantWaits(t, []impl.Bits{odd}, a, odd)
		wantWaits(t, []impl.Bits{odd}, dgram(9, 2, 3, 8, true, bytesAt8), odd, bitsOf(9, 3, 0, 15, piece{8, bytesAt8}))
		wantJoined(t, []impl.Bits{odd}, ofThree(3), ofThree(3), odd)
		wantJoin(t, []impl.Bits{odd}, b, -1, []impl.Bits{odd}, impl.Dgram{}, false)
	}
	wantWaits(t, []impl.Bits{moreAts}, b, moreAts)
	// A part goes behind both lists, as they are.
	wantWaits(t, []impl.Bits{moreTexts}, b, impl.Bits{From: 1, Id: 3, Texts: []string{bytesAt0, bytesAt8, bytesAt8}, Ats: []int{0, 8}, Until: 9})
	wantWaits(t, []impl.Bits{moreAts}, c, impl.Bits{From: 1, Id: 3, Texts: []string{bytesAt0, bytesAt16}, Ats: []int{0, 8, 16}, Total: 19, Until: 9})
	wantWaits(t, []impl.Bits{{From: 1, Id: 3, Ats: []int{0, 8}}}, c, impl.Bits{From: 1, Id: 3, Texts: []string{bytesAt16}, Ats: []int{0, 8, 16}, Total: 19})
	wantWaits(t, []impl.Bits{{From: 1, Id: 3, Texts: []string{"x", "y"}}}, c, impl.Bits{From: 1, Id: 3, Texts: []string{"x", "y", bytesAt16}, Ats: []int{16}, Total: 19})
	wantWaits(t, []impl.Bits{{From: 1, Id: 3, Ats: []int{0}, Total: 8}}, a, impl.Bits{From: 1, Id: 3, Ats: []int{0}, Total: 8})
}

func TestJoinBitsOfWrongDgrams(t *testing.T) {
	lists := [][]impl.Bits{nil, {}, otherBits(), append(otherBits(), otherBits()...), {bitsOf(1, 3, 8, 9, piece{0, bytesAt0})}}
	for _, list := range lists {
		for _, d := range wrongDgrams() {
			wantJoin(t, list, d, 0, list, impl.Dgram{}, false)
		}
	}
}

func TestJoinBitsAtEachTime(t *testing.T) {
	a, b, c := threeParts(3)
	for _, now := range []int{0, 1, 5, 1000, 999999989, 999999990} {
		wantJoin(t, nil, a, now, []impl.Bits{bitsOf(1, 3, 0, now+10, piece{0, bytesAt0})}, impl.Dgram{}, false)
		wantJoin(t, nil, ofThree(3), now, nil, ofThree(3), true)
		// Only new bits have the time that they are made at.
		wantJoin(t, []impl.Bits{bitsOf(1, 3, 0, 4, piece{0, bytesAt0})}, b, now, []impl.Bits{bitsOf(1, 3, 0, 4, piece{0, bytesAt0}, piece{8, bytesAt8})}, impl.Dgram{}, false)
	}
	for _, now := range []int{-1, -2, -10, 999999991, 1000000000, 1000000001, math.MinInt, math.MinInt + 1, math.MaxInt - 9, math.MaxInt} {
		for _, d := range []impl.Dgram{a, b, c, ofThree(3)} {
			for _, list := range [][]impl.Bits{nil, otherBits(), {bitsOf(1, 3, 19, 9, piece{0, bytesAt0}, piece{8, bytesAt8}, piece{16, bytesAt16})}} {
				wantJoin(t, list, d, now, list, impl.Dgram{}, false)
			}
		}
	}
}

// eachOrder hands on each order of so many numbers from 0 on.
func eachOrder(count int, hand func([]int)) {
	order := []int{}
	var fill func()
	fill = func() {
		if len(order) == count {
			hand(order)
			return
		}
		for n := range count {
			if !slices.Contains(order, n) {
				order = append(order, n)
				fill()
				order = order[:len(order)-1]
			}
		}
	}
	fill()
}

// In whatever order the parts come, the datagram is whole just at the last
// one of them.
func TestDgramsComeBackFromTheirPartsInEachOrder(t *testing.T) {
	for _, length := range []int{9, 16, 17, 24, 25, 33, 40, 41, 48, 96, 160} {
		d := dgram(1, 2, 3, 0, false, mixedBytes(length))
		for size := 8; size <= 160; size++ {
			parts, _ := impl.CutDgram(d, size)
			if len(parts) < 2 || len(parts) > 6 || size%8 > 1 {
				continue
			}
			eachOrder(len(parts), func(order []int) { checkOrder(t, d, parts, order) })
		}
	}
}

func checkOrder(t *testing.T, d impl.Dgram, parts []impl.Dgram, order []int) {
	t.Helper()
	list := otherBits()
	for step, n := range order {
		left, whole, ok := impl.JoinBits(list, parts[n], 100)
		list = left
		if step < len(order)-1 && (ok || whole != impl.Dgram{} || len(left) != 3 || len(left[2].Texts) != step+1) {
			t.Fatalf("behind %v of %d parts: %.200v, %.200v, %v", order[:step+1], len(parts), left, whole, ok)
		}
		if step == len(order)-1 && (!ok || whole != d || !sameBitsList(left, otherBits())) {
			t.Fatalf("behind all of %v: %.200v, %.200v, %v", order, left, whole, ok)
		}
	}
}

// Parts come twice and thrice, and are cut once more on their way.
func TestDgramsComeBackFromPartsThatComeTwice(t *testing.T) {
	draw := drawsFrom(31)
	for range 3000 {
		d := dgram(1+draw(99), 1+draw(99), draw(65536), 0, false, mixedBytes(9+draw(152)))
		parts, _ := impl.CutDgram(d, 8+draw(40))
		if len(parts) < 2 {
			continue
		}
		which := draw(len(parts))
		smaller, _ := impl.CutDgram(parts[which], 8+draw(24))
		parts = slices.Concat(parts[:which], smaller, parts[which+1:])
		last := draw(len(parts))
		list := []impl.Bits(nil)
		come := map[int]bool{}
		for len(come) < len(parts)-1 {
			n := draw(len(parts))
			if n == last {
				continue
			}
			come[n] = true
			left, _, ok := impl.JoinBits(list, parts[n], 100)
			if list = left; ok || len(list) != 1 || len(list[0].Texts) != len(come) {
				t.Fatalf("%d parts have come: %.300v, %v", len(come), list, ok)
			}
		}
		wantJoined(t, list, parts[last], d)
	}
}

// Whole datagrams come back from a heap of parts of three at a time, whatever
// is between them.
func TestDgramsComeBackFromMixedParts(t *testing.T) {
	draw := drawsFrom(41)
	for range 2000 {
		heap, want := []impl.Dgram{}, []impl.Dgram{}
		for n := range 3 {
			d := dgram(1+draw(2), 1+draw(99), 10*n+draw(2), 0, false, mixedBytes(1+draw(160)))
			parts, _ := impl.CutDgram(d, 8+draw(153))
			heap, want = append(heap, parts...), append(want, d)
		}
		for at := range heap {
			other := draw(len(heap))
			heap[at], heap[other] = heap[other], heap[at]
		}
		list, got := []impl.Bits(nil), []impl.Dgram{}
		for _, part := range heap {
			left, whole, ok := impl.JoinBits(list, part, 7)
			if list = left; ok {
				got = append(got, whole)
			}
		}
		byId := func(a, b impl.Dgram) int { return a.Id - b.Id }
		slices.SortFunc(got, byId)
		if !slices.Equal(got, want) || len(list) != 0 {
			t.Fatalf("of %.300v came %.300v, and %.300v is left", want, got, list)
		}
	}
}

// smallParts overlap, leave gaps, and tell each other's Totals.
func smallParts() []impl.Dgram {
	list := []impl.Dgram{}
	for _, at := range []int{0, 8, 16} {
		for _, body := range []string{"x", "12345678", "abcdefghijklmnop"} {
			list = append(list, dgram(1, 2, 3, at, false, body))
			if len(body)%8 == 0 {
				list = append(list, dgram(1, 9, 3, at, true, body))
			}
		}
	}
	return append(list, dgram(2, 2, 3, 8, false, "y"), dgram(2, 2, 3, 0, true, "ABCDEFGH"))
}

func TestJoinBitsOfEverySmallLife(t *testing.T) {
	parts := smallParts()
	numbers := []int{}
	for n := range parts {
		numbers = append(numbers, n)
	}
	whole := 0
	eachList(numbers, 4, func(order []int) {
		list := []impl.Bits(nil)
		for now, n := range order {
			left, _, ok := wantAsPlain(t, list, parts[n], now)
			if list = left; ok && parts[n].At > 0 {
				whole++
			}
		}
	})
	if whole < 1000 {
		t.Errorf("%d datagrams were put together", whole)
	}
}

func TestJoinBitsOfDrawnLives(t *testing.T) {
	draw := drawsFrom(53)
	for range 300 {
		list := []impl.Bits(nil)
		for now := range 200 {
			length := 1 + draw(20)
			if draw(3) > 0 {
				length = 8 * (1 + draw(3))
			}
			d := dgram(1+draw(2), 1+draw(3), draw(3), 8*draw(5), draw(2) == 0, mixedBytes(length))
			list, _, _ = wantAsPlain(t, list, d, now)
			if draw(8) == 0 {
				list = wantTidied(t, list, now)
			}
		}
	}
}

// drawnBits are such as no part leaves: of one datagram several times, with
// lists of unlike length, several parts at one place, and parts without bytes.
func drawnBits(draw func(int) int) []impl.Bits {
	list := []impl.Bits{}
	for range draw(6) {
		b := bitsOf(1+draw(2), draw(2), 8*draw(5)-8*draw(2), draw(20)-5)
		for range draw(5) {
			b.Ats = append(b.Ats, 8*draw(4)-8*draw(2))
		}
		for range len(b.Ats) + draw(3) - draw(2) {
			b.Texts = append(b.Texts, mixedBytes(8*draw(3)))
		}
		list = append(list, b)
	}
	return list
}

func TestJoinBitsOfDrawnLists(t *testing.T) {
	draw, whole := drawsFrom(67), 0
	for range 60000 {
		d := dgram(1+draw(3), 1+draw(2), draw(3), 8*draw(4), draw(2) == 0, mixedBytes(8*(1+draw(2))))
		if _, got, ok := wantAsPlain(t, drawnBits(draw), d, draw(30)-1); ok && got != d {
			whole++
		}
	}
	if whole < 500 {
		t.Errorf("%d datagrams were put together", whole)
	}
}

func wantTidied(t *testing.T, list []impl.Bits, now int) []impl.Bits {
	t.Helper()
	want := slices.DeleteFunc(copyOfBits(list), func(b impl.Bits) bool { return b.Until <= now })
	if got := impl.TidyBits(list, now); !sameBitsList(got, want) {
		t.Errorf("TidyBits(%.400v, %d) = %.400v; want %.400v", list, now, got, want)
	}
	return want
}

func TestTidyBits(t *testing.T) {
	a, b, c := bitsOf(1, 3, 0, 10, piece{0, bytesAt0}), bitsOf(2, 3, 19, 11, piece{16, bytesAt16}, piece{0, bytesAt0}), bitsOf(1, 4, 0, 20)
	for now, want := range map[int][]impl.Bits{
		-1: {a, b, c}, 0: {a, b, c}, 9: {a, b, c}, 10: {b, c}, 11: {c}, 19: {c}, 20: nil, 21: nil,
		math.MinInt: {a, b, c}, math.MaxInt: nil, math.MaxInt - 1: nil, 1000000000: nil,
	} {
		if got := impl.TidyBits([]impl.Bits{a, b, c}, now); !sameBitsList(got, want) {
			t.Errorf("TidyBits at %d is %v; want %v", now, got, want)
		}
		if got := impl.TidyBits([]impl.Bits{c, a, b, a}, now); len(got) > 0 && !sameBits(got[0], c) {
			t.Errorf("TidyBits at %d is %v", now, got)
		}
		for _, none := range [][]impl.Bits{nil, {}} {
			if got := impl.TidyBits(none, now); len(got) != 0 {
				t.Errorf("TidyBits of nothing at %d is %v", now, got)
			}
		}
	}
	odd := []impl.Bits{bitsOf(-1, -1, -1, math.MaxInt), bitsOf(0, 0, 0, math.MinInt), {Until: 1, Texts: []string{"a"}, Ats: []int{1, 2}}}
	for _, now := range []int{math.MinInt, -1, 0, 1, math.MaxInt - 1, math.MaxInt} {
		wantTidied(t, odd, now)
	}
}

func TestTidyBitsOfDrawnLists(t *testing.T) {
	draw := drawsFrom(71)
	for range 5000 {
		wantTidied(t, drawnBits(draw), draw(24)-7)
	}
}

// What JoinBits makes is over ten behind the time that it was made at.
func TestBitsAreOverTenBehind(t *testing.T) {
	a, b, _ := threeParts(3)
	list, _, _ := impl.JoinBits(nil, a, 100)
	list, _, _ = impl.JoinBits(list, b, 109)
	if len(impl.TidyBits(list, 109)) != 1 || len(impl.TidyBits(list, 110)) != 0 {
		t.Errorf("%v is over at another time", list)
	}
}

// roomyBits is the list with something in the spare room behind each list of
// it; and all of that.
func roomyBits(list []impl.Bits) ([]impl.Bits, []impl.Bits) {
	whole := copyOfBits(append(slices.Clone(list), bitsOf(9, 9, 9, 9, piece{9, "spare"}), bitsOf(8, 8, 8, 8)))
	for at := range whole {
		whole[at].Texts = append(whole[at].Texts, "spare1", "spare2")
		whole[at].Ats = append(whole[at].Ats, 991, 992)
	}
	cut := slices.Clone(whole)
	for at := range cut {
		cut[at].Texts = cut[at].Texts[:len(cut[at].Texts)-2]
		cut[at].Ats = cut[at].Ats[:len(cut[at].Ats)-2]
	}
	return cut[:len(list)], whole
}

func bitLists() [][]impl.Bits {
	pa, pb, pc := piece{0, bytesAt0}, piece{8, bytesAt8}, piece{16, bytesAt16}
	lists := [][]impl.Bits{
		nil, {}, otherBits(), append(otherBits(), bitsOf(5, 5, 0, 30)),
		{bitsOf(1, 3, 0, 9, pa)}, {bitsOf(1, 3, 0, 9, pa, pb), otherBits()[0]}, {otherBits()[1], bitsOf(1, 3, 19, 9, pc, pb)},
		{bitsOf(1, 3, 19, 9, pc, pa), bitsOf(1, 3, 19, 9, pc, pa)}, {bitsOf(1, 3, 19, 9, pa, pb, pc)},
		{{From: 1, Id: 3, Ats: []int{0, 8}}, {From: 1, Id: 3, Texts: []string{bytesAt0}}},
	}
	draw := drawsFrom(83)
	for range 60 {
		lists = append(lists, drawnBits(draw))
	}
	return lists
}

func joinArguments() []impl.Dgram {
	a, b, c := threeParts(3)
	return []impl.Dgram{a, b, c, ofThree(3), {}, dgram(1, 2, 0, 8, false, bytesAt8), dgram(2, 2, 1, 0, true, bytesAt0), dgram(8, 8, 8, 8, true, bytesAt8)}
}

func TestBitsAreNotWrittenInto(t *testing.T) {
	for _, list := range bitLists() {
		cut, whole := roomyBits(list)
		was := copyOfBits(whole)
		for _, d := range joinArguments() {
			for _, now := range []int{-1, 0, 10, 1000000000} {
				impl.JoinBits(cut, d, now)
				impl.TidyBits(cut, now)
				if !sameBitsList(cut, list) || !sameBitsList(whole, was) {
					t.Fatalf("a list was written into: %.400v; it was %.400v", whole, was)
				}
			}
		}
	}
}

// wantNewBits spoils each list of an answer in turn, with its spare room: no
// other list of it changes, and nothing of the argument.
func wantNewBits(t *testing.T, answer, from []impl.Bits, texts ...string) {
	t.Helper()
	was := copyOfBits(from)
	for _, b := range from {
		texts = append(texts, b.Texts...)
	}
	for _, b := range answer {
		for _, text := range b.Texts {
			if slices.ContainsFunc(texts, func(other string) bool { return lieTogether(text, other) }) {
				t.Fatalf("the text %.40q of an answer lies in another one", text)
			}
		}
	}
	want := copyOfBits(answer)
	for at := range answer {
		spoilBits(&answer[at])
		want[at] = copyOfBits(answer[at : at+1])[0]
		if !sameBitsList(answer, want) || !sameBitsList(from, was) {
			t.Fatalf("lists of an answer share memory: %.300v, %.300v", answer, from)
		}
	}
	all := answer[:cap(answer)]
	for at := range all {
		all[at] = bitsOf(-9, -9, -9, -9)
	}
	if !sameBitsList(from, was) {
		t.Fatalf("an answer shares memory with its list: %.300v; it was %.300v", from, was)
	}
}

func spoilBits(b *impl.Bits) {
	texts, ats := b.Texts[:cap(b.Texts)], b.Ats[:cap(b.Ats)]
	for at := range texts {
		texts[at] = "spoilt"
	}
	for at := range ats {
		ats[at] = -77
	}
}

func TestBitsThatAreAnsweredAreNew(t *testing.T) {
	for _, list := range bitLists() {
		for _, d := range joinArguments() {
			d.Body = strings.Clone(d.Body)
			for _, now := range []int{-1, 0, 10} {
				cut, whole := roomyBits(list)
				was := copyOfBits(whole)
				left, joined, _ := impl.JoinBits(cut, d, now)
				if lieTogether(joined.Body, d.Body) {
					t.Fatalf("the Body that is answered is that of %v", d)
				}
				wantNewBits(t, left, cut, d.Body, joined.Body)
				wantNewBits(t, impl.TidyBits(cut, now), cut)
				if !sameBitsList(whole, was) {
					t.Fatalf("an answer shares memory with its list: %.400v; it was %.400v", whole, was)
				}
			}
		}
	}
}

func TestDgramsThatAreAnsweredAreNew(t *testing.T) {
	for _, d := range rightDgrams() {
		d.Body = strings.Clone(d.Body)
		text, _ := impl.DgramText(d)
		back, _ := impl.ReadDgram(text)
		if lieTogether(text, d.Body) || lieTogether(back.Body, text) || lieTogether(back.Body, d.Body) {
			t.Errorf("a text that is answered lies in an argument: %.120v", d)
		}
		for _, size := range []int{8, 16, 160} {
			parts, _ := impl.CutDgram(d, size)
			for at, part := range parts {
				if lieTogether(part.Body, d.Body) || at > 0 && lieTogether(part.Body, parts[at-1].Body) {
					t.Errorf("part %d of %.120v lies in another text", at, d)
				}
			}
		}
	}
}

// What was answered ahead says nothing of what is answered.
func TestDgramsKeepNothing(t *testing.T) {
	a, b, c := threeParts(3)
	two := []impl.Bits{bitsOf(1, 3, 0, 9, piece{0, bytesAt0}, piece{8, bytesAt8})}
	for range 3 {
		for text, d := range writtenDgrams() {
			wantDgramText(t, d, text)
			wantNoDgramText(t, dgram(d.From, d.To, d.Id, 4, d.More, d.Body))
			wantReadDgram(t, text, d)
			wantNoReadDgram(t, text+mixedBytes(200))
		}
		wantWaits(t, nil, a, bitsOf(1, 3, 0, 15, piece{0, bytesAt0}))
		wantWaits(t, nil, b, bitsOf(1, 3, 0, 15, piece{8, bytesAt8}))
		wantJoined(t, two, c, ofThree(3))
		wantParted(t, ofThree(3), 8, a, b, c)
		wantTidied(t, two, 9)
	}
}
