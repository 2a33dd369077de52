package tests

import (
	"math"
	"slices"
	"strings"
	"testing"

	"loop.example/g00232/impl"
)

func cellOf(to, from, kind int, body string) impl.Cell {
	return impl.Cell{To: to, From: from, Kind: kind, Body: body}
}

// plainCell writes a frame, also one that CellText refuses, as long as its
// numbers have a byte each.
func plainCell(c impl.Cell) string {
	head := []byte{byte(c.To), byte(c.From), byte(c.Kind)}
	return plainSeal(string(head) + c.Body)
}

// plainCellOk holds the numbers of a frame against the chapter's limits.
func plainCellOk(c impl.Cell) bool {
	return c.To >= 0 && c.To < 100 && c.From > 0 && c.From < 100 && c.Kind > 0 && c.Kind < 4 && len(c.Body) < 61
}

func rightBodies() []string {
	return []string{
		"", "x", "\x00", "\xff", " ", mixedBytes(2), mixedBytes(3), mixedBytes(4), mixedBytes(30), mixedBytes(59), mixedBytes(60),
		strings.Repeat("\x00", 60), strings.Repeat("\xff", 60), plainCell(cellOf(1, 2, 1, "")), plainCell(cellOf(0, 99, 3, mixedBytes(53))),
	}
}

func rightCells() []impl.Cell {
	list := []impl.Cell{}
	for _, body := range rightBodies() {
		for _, to := range []int{0, 1, 2, 50, 98, 99} {
			for _, from := range []int{1, 2, 50, 98, 99} {
				for kind := 1; kind <= 3; kind++ {
					list = append(list, cellOf(to, from, kind, body))
				}
			}
		}
	}
	return list
}

// farNumbers are no field of a right frame; some have the lowest bits of one.
func farNumbers() []int {
	return []int{-1, -2, -99, -128, -254, -255, -256, 100, 101, 127, 128, 255, 256, 257, 258, 355, 65537, 1 << 32, 1<<32 + 1, math.MinInt, math.MinInt + 1, math.MaxInt - 1, math.MaxInt}
}

func longBodies() []string {
	list := []string{}
	for _, length := range []int{61, 62, 63, 64, 100, 120, 255, 256, 257, 316, 9000, 19996, 19997, 19998, 20000, 20001, 65536 + 60} {
		list = append(list, mixedBytes(length))
	}
	return list
}

// wrongCells are right but for one field each, but for the last ones.
func wrongCells() []impl.Cell {
	list := []impl.Cell{}
	for _, body := range []string{"", "x", mixedBytes(60)} {
		for _, wrong := range farNumbers() {
			list = append(list, cellOf(wrong, 1, 1, body), cellOf(1, wrong, 2, body), cellOf(1, 2, wrong, body))
		}
		for _, kind := range []int{0, 4, 5, 6, 7, 9, 50, 98, 99, -3} {
			list = append(list, cellOf(1, 2, kind, body), cellOf(0, 99, kind, body))
		}
		for to := range 100 {
			list = append(list, cellOf(to, 0, 1, body))
		}
	}
	for _, body := range longBodies() {
		list = append(list, cellOf(1, 2, 1, body), cellOf(0, 1, 2, body), cellOf(99, 99, 3, body))
	}
	return append(list, impl.Cell{}, cellOf(0, 0, 0, "x"), cellOf(-1, 0, 4, mixedBytes(61)), cellOf(100, 100, 100, ""))
}

func TestWireConstants(t *testing.T) {
	if impl.KindData != 1 || impl.KindAsk != 2 || impl.KindTell != 3 || impl.MaxFrame != 60 {
		t.Error("a number of frames on a wire is another one")
	}
}

func wantCellOk(t *testing.T, c impl.Cell, want bool) {
	t.Helper()
	if got := impl.CellOk(c); got != want {
		t.Errorf("CellOk(%.120v) is %v", c, got)
	}
}

func TestCellOkOfFixedCells(t *testing.T) {
	for to, right := range map[int]bool{-1: false, 0: true, 1: true, 99: true, 100: false} {
		wantCellOk(t, cellOf(to, 1, 1, "x"), right)
		wantCellOk(t, cellOf(to, 99, 3, ""), right)
	}
	for from, right := range map[int]bool{-1: false, 0: false, 1: true, 99: true, 100: false} {
		wantCellOk(t, cellOf(1, from, 1, "x"), right)
		wantCellOk(t, cellOf(0, from, 3, ""), right)
	}
	for kind, right := range map[int]bool{-1: false, 0: false, 1: true, 2: true, 3: true, 4: false} {
		wantCellOk(t, cellOf(1, 2, kind, "x"), right)
		wantCellOk(t, cellOf(0, 99, kind, ""), right)
	}
	wantCellOk(t, impl.Cell{}, false)
}

func TestCellOkOfRightAndWrongCells(t *testing.T) {
	for _, c := range rightCells() {
		wantCellOk(t, c, true)
	}
	for _, c := range wrongCells() {
		wantCellOk(t, c, false)
	}
}

func TestCellOkOfEveryHead(t *testing.T) {
	right := 0
	for to := -3; to <= 103; to++ {
		for from := -3; from <= 103; from++ {
			for kind := -2; kind <= 6; kind++ {
				c := cellOf(to, from, kind, "x")
				wantCellOk(t, c, plainCellOk(c))
				if impl.CellOk(c) {
					right++
				}
			}
		}
	}
	if right != 100*99*3 {
		t.Errorf("%d heads are right", right)
	}
}

func TestCellOkOfEachLength(t *testing.T) {
	for length := range 400 {
		for kind := 1; kind <= 3; kind++ {
			wantCellOk(t, cellOf(1, 2, kind, mixedBytes(length)), length <= 60)
		}
	}
}

func wantCellText(t *testing.T, c impl.Cell, want string) {
	t.Helper()
	if got, ok := impl.CellText(c); !ok || got != want {
		t.Errorf("CellText(%.120v) = %.120q, %v; want %.120q", c, got, ok, want)
	}
}

func wantNoCellText(t *testing.T, c impl.Cell) {
	t.Helper()
	if got, ok := impl.CellText(c); ok || got != "" {
		t.Errorf("CellText(%.120v) = %.120q, %v; want none", c, got, ok)
	}
}

func wantReadCell(t *testing.T, text string, want impl.Cell) {
	t.Helper()
	if got, ok := impl.ReadCell(text); !ok || got != want {
		t.Errorf("ReadCell(%.120q) = %.120v, %v; want %.120v", text, got, ok, want)
	}
}

func wantNoReadCell(t *testing.T, text string) {
	t.Helper()
	if got, ok := impl.ReadCell(text); ok || got != (impl.Cell{}) {
		t.Errorf("ReadCell of the %d bytes %.120q is %.120v, %v; want none", len(text), text, got, ok)
	}
}

// writtenCells are frames beside their bytes, each sum written out.
func writtenCells() map[string]impl.Cell {
	return map[string]impl.Cell{
		"\x01\x02\x01\x41\x6b\xd1\x8d":     cellOf(1, 2, impl.KindData, ""),
		"\x00\x01\x01\x1e\x86\xd0\x2e":     cellOf(0, 1, impl.KindData, ""),
		"\x00\x01\x02\x62\xe0\xa0\xff":     cellOf(0, 1, impl.KindAsk, ""),
		"\x63\x63\x03\xbe\xaa\x5f\xc3":     cellOf(99, 99, impl.KindTell, ""),
		"\x01\x02\x01x\x20\x7d\xe9\x3f":    cellOf(1, 2, impl.KindData, "x"),
		"\x63\x01\x02abc\x08\x98\x34\xff":  cellOf(99, 1, impl.KindAsk, "abc"),
		"\x00\x63\x03\x00\xad\xdd\x61\x53": cellOf(0, 99, impl.KindTell, "\x00"),
	}
}

func TestCellsWrittenOut(t *testing.T) {
	for text, c := range writtenCells() {
		wantCellText(t, c, text)
		wantReadCell(t, text, c)
	}
}

func TestCellTextOfRightAndWrongCells(t *testing.T) {
	for _, c := range rightCells() {
		wantCellText(t, c, plainCell(c))
	}
	for _, c := range wrongCells() {
		wantNoCellText(t, c)
	}
}

func TestCellTextOfEachNumber(t *testing.T) {
	for n := -300; n <= 300; n++ {
		for _, c := range []impl.Cell{cellOf(n, 1, 1, ""), cellOf(1, n, 2, "x"), cellOf(0, 99, n, mixedBytes(60))} {
			if plainCellOk(c) {
				wantCellText(t, c, plainCell(c))
			} else {
				wantNoCellText(t, c)
			}
		}
	}
}

func TestCellsOfEachLengthComeBack(t *testing.T) {
	for length := range 400 {
		c := cellOf(7, 8, impl.KindTell, mixedBytes(length))
		if length <= 60 {
			wantCellText(t, c, plainCell(c))
			wantReadCell(t, plainCell(c), c)
		} else {
			wantNoCellText(t, c)
			wantNoReadCell(t, plainCell(c))
		}
	}
}

func TestCellsComeBack(t *testing.T) {
	for _, c := range rightCells() {
		text, ok := impl.CellText(c)
		if !ok || len(text) != 7+len(c.Body) {
			t.Errorf("CellText(%.120v) has %d bytes, %v", c, len(text), ok)
		}
		wantReadCell(t, text, c)
	}
}

// Any bytes are a Body.
func TestCellsOfEachByteComeBack(t *testing.T) {
	for b := range 256 {
		c := cellOf(1, 2, impl.KindAsk, string([]byte{byte(b)}))
		wantCellText(t, c, plainCell(c))
		wantReadCell(t, plainCell(c), c)
	}
}

func TestReadCellOfShortTexts(t *testing.T) {
	for length := range 7 {
		for b := range 256 {
			wantNoReadCell(t, strings.Repeat(string([]byte{byte(b)}), length))
		}
		wantNoReadCell(t, mixedBytes(length))
		wantNoReadCell(t, "\x01\x02\x01x\x20\x7d\xe9\x3f"[:length])
		wantNoReadCell(t, "\x01\x02\x01\x41\x6b\xd1\x8d"[:length])
	}
	for _, inner := range []string{"", "\x01", "\x00", "\x01\x02", "\x00\x01", "\x63\x63"} {
		wantNoReadCell(t, plainSeal(inner))
	}
	for first := range 256 {
		wantNoReadCell(t, plainSeal(string([]byte{byte(first)})))
		wantNoReadCell(t, plainSeal(string([]byte{1, byte(first)})))
		wantNoReadCell(t, plainSeal(string([]byte{byte(first), 1})))
	}
}

func TestReadCellOfTextsOfAnotherLength(t *testing.T) {
	for _, body := range rightBodies() {
		text := plainCell(cellOf(1, 2, impl.KindData, body))
		for b := range 256 {
			more := string([]byte{byte(b)})
			wantNoReadCell(t, text+more)
			wantNoReadCell(t, more+text)
			wantNoReadCell(t, text[:len(text)-4]+more+text[len(text)-4:])
		}
		for length := range len(text) {
			wantNoReadCell(t, text[:length])
			wantNoReadCell(t, text[len(text)-length:])
		}
		wantNoReadCell(t, text+text)
		wantNoReadCell(t, text+"\x00\x00\x00\x00")
		wantNoReadCell(t, plainSeal(text)+"\x00")
	}
}

// A right sum makes no right frame of a wrong one.
func TestReadCellOfWrongCellsThatAreSealed(t *testing.T) {
	for _, body := range []string{"", "x", mixedBytes(60)} {
		for b := range 256 {
			for _, c := range []impl.Cell{cellOf(b, 1, 1, body), cellOf(0, b, 2, body), cellOf(99, 99, b, body), cellOf(b, b, 3, body), cellOf(b, b, b, body)} {
				if plainCellOk(c) {
					wantReadCell(t, plainCell(c), c)
				} else {
					wantNoReadCell(t, plainCell(c))
				}
			}
		}
	}
	for _, body := range longBodies() {
		for kind := 1; kind <= 3; kind++ {
			wantNoReadCell(t, plainCell(cellOf(1, 2, kind, body)))
		}
	}
}

func TestReadCellOfWrongSums(t *testing.T) {
	for _, c := range rightCells() {
		text := plainCell(c)
		inner, sum := text[:len(text)-4], []byte(text[len(text)-4:])
		slices.Reverse(sum)
		wantNoReadCell(t, inner+string(sum))
		wantNoReadCell(t, inner+"\x00\x00\x00\x00")
		wantNoReadCell(t, inner+"\xff\xff\xff\xff")
		wantNoReadCell(t, inner+highestFirst(plainSum(0, inner)))
		wantNoReadCell(t, inner+highestFirst(^plainSum(4294967295, inner)))
		wantNoReadCell(t, inner+highestFirst(plainSum(4294967295, c.Body)))
	}
}

// Each place of a frame, its Body and its sum, is turned to each other byte.
func TestCellsWithOneByteTurnedAreRefused(t *testing.T) {
	for _, body := range rightBodies() {
		for kind := 1; kind <= 3; kind++ {
			text, _ := impl.CellText(cellOf(2*kind-2, 33*kind, kind, body))
			turned := []byte(text)
			for at := range turned {
				for by := 1; by < 256; by++ {
					turned[at] = text[at] ^ byte(by)
					wantNoReadCell(t, string(turned))
				}
				turned[at] = text[at]
			}
			wantReadCell(t, string(turned), cellOf(2*kind-2, 33*kind, kind, body))
		}
	}
}

// drawsFrom draws numbers below the one that it is handed, the same at each run.
func drawsFrom(state uint32) func(int) int {
	return func(n int) int {
		state = state*1664525 + 1013904223
		return int(state>>8) % n
	}
}

// What is read is what would be written so, at whatever text.
func TestReadCellOfDrawnTexts(t *testing.T) {
	draw, right := drawsFrom(17), 0
	for range 20000 {
		c := cellOf(draw(103), draw(103), draw(5), mixedBytes(draw(64)))
		text := plainCell(c)
		if draw(4) == 0 {
			at := draw(len(text))
			text = text[:at] + string([]byte{byte(draw(256))}) + text[at+1:]
		}
		want := plainCellOk(c) && text == plainCell(c)
		if want {
			right++
			wantReadCell(t, text, c)
		} else {
			wantNoReadCell(t, text)
		}
	}
	if right < 4000 || right > 16000 {
		t.Errorf("%d of the drawn texts are right", right)
	}
}

func known(addr, card int) impl.Known { return impl.Known{Addr: addr, Card: card} }

// row has the Addrs with Cards that tell their places: 11, 12 and so on.
func row(addrs ...int) []impl.Known {
	list := []impl.Known{}
	for at, addr := range addrs {
		list = append(list, known(addr, 11+at))
	}
	return list
}

func wantLearn(t *testing.T, list []impl.Known, addr, card int, want ...impl.Known) {
	t.Helper()
	if got := impl.Learn(list, addr, card); !slices.Equal(got, want) {
		t.Errorf("Learn(%.300v, %d, %d) = %.300v; want %.300v", list, addr, card, got, want)
	}
}

// plainLearn gathers from the last one back, and turns that round.
func plainLearn(list []impl.Known, addr, card int) []impl.Known {
	back := []impl.Known{known(addr, card)}
	for at := len(list) - 1; at >= 0 && len(back) < 4; at-- {
		if list[at].Addr != addr {
			back = append(back, list[at])
		}
	}
	slices.Reverse(back)
	return back
}

func TestLearnOfFixedLists(t *testing.T) {
	wantLearn(t, nil, 1, 7, known(1, 7))
	wantLearn(t, []impl.Known{}, 99, 99, known(99, 99))
	wantLearn(t, row(1), 2, 50, known(1, 11), known(2, 50))
	wantLearn(t, row(1, 2, 3), 4, 50, known(1, 11), known(2, 12), known(3, 13), known(4, 50))
	wantLearn(t, row(1, 2, 3, 4), 5, 50, known(2, 12), known(3, 13), known(4, 14), known(5, 50))
	wantLearn(t, row(1, 2, 3, 4, 5), 6, 50, known(3, 13), known(4, 14), known(5, 15), known(6, 50))
	wantLearn(t, row(1, 2, 3, 4, 5, 6, 7, 8, 9), 10, 50, known(7, 17), known(8, 18), known(9, 19), known(10, 50))
}

func TestLearnOfAnAddrThatIsThere(t *testing.T) {
	wantLearn(t, row(1), 1, 50, known(1, 50))
	wantLearn(t, row(1), 1, 11, known(1, 11))
	wantLearn(t, row(1, 2, 3), 1, 50, known(2, 12), known(3, 13), known(1, 50))
	wantLearn(t, row(1, 2, 3), 2, 50, known(1, 11), known(3, 13), known(2, 50))
	wantLearn(t, row(1, 2, 3), 3, 50, known(1, 11), known(2, 12), known(3, 50))
	wantLearn(t, row(1, 2, 3, 4), 1, 50, known(2, 12), known(3, 13), known(4, 14), known(1, 50))
	wantLearn(t, row(1, 2, 3, 4), 3, 50, known(1, 11), known(2, 12), known(4, 14), known(3, 50))
	wantLearn(t, row(1, 2, 3, 4), 4, 50, known(1, 11), known(2, 12), known(3, 13), known(4, 50))
	wantLearn(t, row(1, 2, 3, 4, 5), 1, 50, known(3, 13), known(4, 14), known(5, 15), known(1, 50))
	wantLearn(t, row(1, 2, 3, 4, 5), 5, 50, known(2, 12), known(3, 13), known(4, 14), known(5, 50))
}

func TestLearnOfAnAddrThatIsThereMoreThanOnce(t *testing.T) {
	wantLearn(t, row(1, 1), 1, 50, known(1, 50))
	wantLearn(t, row(1, 1, 1, 1, 1, 1), 1, 50, known(1, 50))
	wantLearn(t, row(1, 2, 1), 1, 50, known(2, 12), known(1, 50))
	wantLearn(t, row(1, 2, 1, 3, 1), 1, 50, known(2, 12), known(3, 14), known(1, 50))
	wantLearn(t, row(2, 1, 1, 3), 1, 50, known(2, 11), known(3, 14), known(1, 50))
	wantLearn(t, row(2, 1, 3, 1, 4, 1, 5), 1, 50, known(3, 13), known(4, 15), known(5, 17), known(1, 50))
	wantLearn(t, row(2, 1, 1, 1, 1, 1, 1), 1, 50, known(2, 11), known(1, 50))
	// Others that are there more than once stay, as they are.
	wantLearn(t, row(2, 2, 1), 1, 50, known(2, 11), known(2, 12), known(1, 50))
	wantLearn(t, row(2, 2, 2, 2, 2), 1, 50, known(2, 13), known(2, 14), known(2, 15), known(1, 50))
}

func TestLearnOfEverySmallList(t *testing.T) {
	for length := range 8 {
		eachList([]int{1, 2, 3}, length, func(addrs []int) {
			list := row(addrs...)
			for addr := 1; addr <= 4; addr++ {
				wantLearn(t, list, addr, 50, plainLearn(list, addr, 50)...)
			}
		})
	}
}

// knownLists have lists of each length about the limit, and long ones.
func knownLists() [][]impl.Known {
	list := [][]impl.Known{nil, {}, row(1, 1), row(2, 1, 2, 1, 2, 1, 2), {known(0, 0), known(-1, 100), known(100, -1), known(1, 0)}}
	for _, length := range []int{1, 2, 3, 4, 5, 6, 7, 8, 9, 100, 1000} {
		addrs := []int{}
		for at := range length {
			addrs = append(addrs, 1+at%99)
		}
		list = append(list, row(addrs...))
	}
	return list
}

func TestLearnOfEachAddrAndCard(t *testing.T) {
	numbers := append([]int{0, 1, 2, 50, 98, 99}, farNumbers()...)
	for _, list := range knownLists() {
		eachList(numbers, 2, func(pair []int) {
			addr, card := pair[0], pair[1]
			if addr >= 1 && addr <= 99 && card >= 1 && card <= 99 {
				wantLearn(t, list, addr, card, plainLearn(list, addr, card)...)
			} else {
				wantLearn(t, list, addr, card, list...)
			}
		})
	}
	for n := -2; n <= 102; n++ {
		right := n >= 1 && n <= 99
		if got := impl.Learn(nil, n, 1); slices.Equal(got, []impl.Known{known(n, 1)}) != right || !right && len(got) != 0 {
			t.Errorf("Learn of the Addr %d is %v", n, got)
		}
		if got := impl.Learn(nil, 1, n); slices.Equal(got, []impl.Known{known(1, n)}) != right || !right && len(got) != 0 {
			t.Errorf("Learn of the Card %d is %v", n, got)
		}
	}
}

// What a list has is not asked for its limits.
func TestLearnOfListsOfOddNumbers(t *testing.T) {
	odd := []impl.Known{known(0, 5), known(-1, 0), known(100, 200), known(math.MinInt, math.MaxInt)}
	wantLearn(t, odd, 7, 8, odd[1], odd[2], odd[3], known(7, 8))
	wantLearn(t, odd[:3], 7, 8, odd[0], odd[1], odd[2], known(7, 8))
	wantLearn(t, odd, 0, 8, odd...)
	wantLearn(t, odd, 100, 8, odd...)
	wantLearn(t, odd, 7, 0, odd...)
	wantLearn(t, odd, -1, 8, odd...)
}

func wantCard(t *testing.T, list []impl.Known, addr, want int) {
	t.Helper()
	if got := impl.CardOf(list, addr); got != want {
		t.Errorf("CardOf(%.300v, %d) = %d; want %d", list, addr, got, want)
	}
}

func TestCardOf(t *testing.T) {
	for _, addr := range append([]int{0, 1, 99}, farNumbers()...) {
		wantCard(t, nil, addr, 0)
		wantCard(t, []impl.Known{}, addr, 0)
	}
	wantCard(t, row(1), 1, 11)
	wantCard(t, row(1), 2, 0)
	wantCard(t, row(1), 0, 0)
	wantCard(t, row(1, 2, 3), 1, 11)
	wantCard(t, row(1, 2, 3), 2, 12)
	wantCard(t, row(1, 2, 3), 3, 13)
	wantCard(t, row(1, 2, 3), 4, 0)
	wantCard(t, row(1, 2, 3), 11, 0)
	wantCard(t, row(1, 2, 1), 1, 11)
	wantCard(t, row(2, 1, 1), 1, 12)
	wantCard(t, row(2, 3, 2, 3, 1), 3, 12)
	wantCard(t, row(1, 2, 3, 4, 5, 6, 7), 7, 17)
	wantCard(t, []impl.Known{known(1, 0), known(1, 5)}, 1, 0)
}

func TestCardOfEverySmallList(t *testing.T) {
	for length := range 7 {
		eachList([]int{1, 2, 3}, length, func(addrs []int) {
			for addr := range 5 {
				want := 0
				if at := slices.Index(addrs, addr); at >= 0 {
					want = 11 + at
				}
				wantCard(t, row(addrs...), addr, want)
			}
		})
	}
}

// The chapter asks for no limits here: what a list has is told.
func TestCardOfOddNumbers(t *testing.T) {
	odd := []impl.Known{known(0, 5), known(-1, -7), known(100, 200), known(math.MinInt, math.MaxInt)}
	for _, one := range odd {
		wantCard(t, odd, one.Addr, one.Card)
	}
	wantCard(t, odd, 1, 0)
	wantCard(t, odd, math.MaxInt, 0)
}

// Of whatever is learnt the last four Addrs are known, each by its last Card.
func TestWhatIsLearntIsKnown(t *testing.T) {
	draw := drawsFrom(5)
	for addrs := 1; addrs <= 9; addrs++ {
		var list, told []impl.Known
		for range 300 {
			one := known(1+draw(addrs), 1+draw(99))
			list = impl.Learn(list, one.Addr, one.Card)
			told = append(told, one)
			wantCard(t, list, one.Addr, one.Card)
			if want := lastFour(told); !slices.Equal(list, want) {
				t.Fatalf("what is known is %v; want %v", list, want)
			}
		}
	}
}

// lastFour are the last four Addrs that were told, each as it was told last.
func lastFour(told []impl.Known) []impl.Known {
	back := []impl.Known{}
	for at := len(told) - 1; at >= 0 && len(back) < 4; at-- {
		if !slices.ContainsFunc(back, func(k impl.Known) bool { return k.Addr == told[at].Addr }) {
			back = append(back, told[at])
		}
	}
	slices.Reverse(back)
	return back
}

func TestKnownListsAreNotWrittenInto(t *testing.T) {
	for _, list := range knownLists() {
		whole := append(slices.Clone(list), known(1, 61), known(2, 62), known(3, 63))
		was := slices.Clone(whole)
		roomy := whole[:len(list)]
		for _, addr := range []int{0, 1, 2, 3, 50, 99, 100} {
			for _, card := range []int{0, 1, 99, 100} {
				impl.Learn(roomy, addr, card)
				impl.CardOf(roomy, addr)
			}
		}
		if !slices.Equal(whole, was) {
			t.Errorf("a list was written into: %.300v; it was %.300v", whole, was)
		}
	}
}

// Each answer is spoilt, with its spare room; none of it is to be seen in the
// list, nor in the next answer.
func TestKnownListsThatAreAnsweredAreNew(t *testing.T) {
	for _, list := range knownLists() {
		whole := append(slices.Clone(list), known(1, 61), known(2, 62), known(3, 63))
		was := slices.Clone(whole)
		for _, pair := range [][2]int{{0, 1}, {100, 1}, {1, 0}, {1, 100}, {1, 7}, {2, 99}, {50, 1}, {99, 99}} {
			answer := impl.Learn(whole[:len(list)], pair[0], pair[1])
			want := slices.Clone(answer)
			spare := answer[:cap(answer)]
			for at := range spare {
				spare[at] = known(-9, -9)
			}
			if !slices.Equal(whole, was) {
				t.Fatalf("an answer shares memory with its list: %.300v; it was %.300v", whole, was)
			}
			wantLearn(t, whole[:len(list)], pair[0], pair[1], want...)
		}
	}
}

func TestCellTextsThatAreAnsweredAreNew(t *testing.T) {
	for _, c := range rightCells() {
		c.Body = strings.Clone(c.Body)
		text, _ := impl.CellText(c)
		back, _ := impl.ReadCell(text)
		if lieTogether(text, c.Body) || lieTogether(back.Body, text) || lieTogether(back.Body, c.Body) {
			t.Errorf("a text that is answered lies in an argument: %.120v", c)
		}
	}
}

// What was answered ahead says nothing of what is answered.
func TestCellsKeepNothing(t *testing.T) {
	for range 3 {
		for text, c := range writtenCells() {
			wantCellText(t, c, text)
			wantNoCellText(t, cellOf(c.To, c.From, 4, c.Body))
			wantReadCell(t, text, c)
			wantNoReadCell(t, text+"x")
		}
		wantLearn(t, nil, 1, 7, known(1, 7))
		wantLearn(t, row(1), 0, 7, known(1, 11))
		wantCard(t, nil, 1, 0)
		wantCard(t, row(1), 1, 11)
	}
}
