package tests

import (
	"maps"
	"math"
	"slices"
	"strconv"
	"strings"
	"testing"

	"loop.example/g00232/impl"
)

func snap(index, term int, conf []int, body string) impl.Snap {
	return impl.Snap{Index: index, Term: term, Conf: conf, Body: body}
}

func sameSnap(a, b impl.Snap) bool {
	return a.Index == b.Index && a.Term == b.Term && slices.Equal(a.Conf, b.Conf) && a.Body == b.Body
}

func isZeroSnap(s impl.Snap) bool { return sameSnap(s, impl.Snap{}) }

// plainSeal seals a text, also one that Sealed refuses.
func plainSeal(text string) string { return text + highestFirst(plainSum(4294967295, text)) }

func plainShort(s string) string { return plainNumber(len(s)) + s }

// plainSnap writes a snapshot, also one that SnapText refuses.
func plainSnap(s impl.Snap) string {
	return plainSeal(plainNumber(s.Index) + plainNumber(s.Term) + plainShort(bytesOf(s.Conf)) + plainShort(s.Body))
}

// sized has a SnapText of so many bytes: its Index and its Term take three
// each, its Conf takes four, and the sum four.
func sized(t *testing.T, length int) impl.Snap {
	t.Helper()
	s := snap(100000, 20000, []int{1, 2, 4}, "")
	for _, lengthBytes := range []int{1, 2, 3} {
		s.Body = mixedBytes(max(0, length-14-lengthBytes))
		if len(plainSnap(s)) == length {
			return s
		}
	}
	t.Fatalf("no snapshot of %d bytes is made", length)
	return s
}

func rightSnaps() []impl.Snap {
	one := []int{1}
	list := []impl.Snap{
		snap(0, 0, one, ""), snap(3, 1, one, "b"), snap(1000000, 100000, []int{1, 2, 3, 4}, mixedBytes(500)),
		snap(5, 2, one, "\x00"), snap(5, 2, one, plainSnap(snap(3, 1, one, "b"))), snap(0, 100000, one, " "), snap(1000000, 0, one, ""),
	}
	for _, n := range []int{1, 126, 127, 128, 129, 16383, 16384, 16385, 99999, 100000} {
		list = append(list, snap(n, 7, []int{2, 3}, "x"), snap(7, n, []int{2, 3}, "x"), snap(n, n, []int{4}, ""))
	}
	for _, length := range []int{1, 2, 59, 60, 61, 126, 127, 128, 129, 255, 256, 16383, 16384, 19980} {
		list = append(list, snap(12, 3, []int{1, 4}, mixedBytes(length)))
	}
	for _, text := range slices.Sorted(maps.Keys(rightConfs())) {
		list = append(list, snap(10, 2, rightConfs()[text], "body"))
	}
	return append(list, snap(999999, 99999, one, "y"), snap(1000000, 99999, one, "y"), snap(999999, 100000, one, "y"))
}

// wrongSnaps have no text, each for one reason of its own.
func wrongSnaps() []impl.Snap {
	one := []int{1}
	list := []impl.Snap{{}, {Body: "x"}, snap(1000001, 1, one, "x"), snap(1, 100001, one, "x"), snap(1000001, 100001, one, "")}
	for _, wrong := range []int{-1, -2, math.MinInt, math.MaxInt, 1 << 32, 1<<32 + 1, impl.MaxNumber, impl.MaxNumber + 1} {
		list = append(list, snap(wrong, 1, one, "x"), snap(1, wrong, one, "x"), snap(wrong, wrong, one, ""))
	}
	for _, conf := range wrongConfs() {
		list = append(list, snap(1, 1, conf, "x"), snap(0, 0, conf, ""))
	}
	for _, length := range []int{19990, 19991, 19993, 19994, 19999, 20000, 20001, 20004, 70000} {
		list = append(list, snap(1, 1, one, mixedBytes(length)))
	}
	return list
}

func TestSnapLimits(t *testing.T) {
	if impl.SnapChunk != 60 || impl.NameSnapNew != "s+" {
		t.Error("a limit of snapshots is another one")
	}
}

func TestSnapNames(t *testing.T) {
	for _, n := range []int{0, 1, 9, 10, 99, 100, 1000, 12345, 999999, 1000000} {
		if got := impl.SnapName(n); got != "s"+strconv.Itoa(n) {
			t.Errorf("SnapName(%d) = %q", n, got)
		}
	}
	for n := range 3000 {
		if got := impl.SnapName(n * 333); got != "s"+strconv.Itoa(n*333) {
			t.Errorf("SnapName(%d) = %q", n*333, got)
		}
	}
	for _, n := range []int{-1, -2, -1000000, 1000001, 1000002, impl.MaxNumber, 1 << 32, math.MinInt, math.MaxInt} {
		if got := impl.SnapName(n); got != "" {
			t.Errorf("SnapName(%d) = %q; want none", n, got)
		}
	}
}

// Each SnapName may be a file's name.
func TestSnapNamesAreNamesOfFiles(t *testing.T) {
	for _, n := range []int{0, 1000000} {
		if name := impl.SnapName(n); !impl.DiskOk(diskOf(kept(name, ""))) || name <= impl.NameSnapNew {
			t.Errorf("%q is no name behind %q", name, impl.NameSnapNew)
		}
	}
}

func wantSnapText(t *testing.T, s impl.Snap, want string) {
	t.Helper()
	if got, ok := impl.SnapText(s); !ok || got != want {
		t.Errorf("SnapText of %d, %d, %v, %.20q is %.60q, %v; want %.60q", s.Index, s.Term, s.Conf, s.Body, got, ok, want)
	}
}

func wantNoSnapText(t *testing.T, s impl.Snap) {
	t.Helper()
	if got, ok := impl.SnapText(s); ok || got != "" {
		t.Errorf("SnapText of %d, %d, %v and %d bytes is %.60q, %v; want none", s.Index, s.Term, s.Conf, len(s.Body), got, ok)
	}
}

func wantReadSnap(t *testing.T, text string, want impl.Snap) {
	t.Helper()
	if got, ok := impl.ReadSnap(text); !ok || !sameSnap(got, want) {
		t.Errorf("ReadSnap(%.60q) = %.80v, %v; want %.80v", text, got, ok, want)
	}
}

func wantNoReadSnap(t *testing.T, text string) {
	t.Helper()
	if got, ok := impl.ReadSnap(text); ok || !isZeroSnap(got) {
		t.Errorf("ReadSnap of the %d bytes %.60q is %.80v, %v; want none", len(text), text, got, ok)
	}
}

func TestSnapTextOfFixedSnaps(t *testing.T) {
	fixed := []struct {
		s    impl.Snap
		text string
	}{
		{snap(3, 1, []int{1}, "b"), "\x03\x01\x01\x01\x01b\xac\x6f\xb9\x75"},
		{snap(0, 0, []int{4}, ""), "\x00\x00\x01\x04\x00\x1c\x52\x55\x7a"},
		{snap(300, 128, []int{1, 3}, "ab"), "\xac\x02\x80\x01\x02\x01\x03\x02ab\x52\xc0\x28\x8e"},
		{snap(1000000, 100000, []int{1, 2, 3, 4}, "\xff"), "\xc0\x84\x3d\xa0\x8d\x06\x04\x01\x02\x03\x04\x01\xff\xf0\xa4\x16\x13"},
	}
	for _, one := range fixed {
		wantSnapText(t, one.s, one.text)
		wantReadSnap(t, one.text, one.s)
	}
}

func TestSnapsComeBackFromTheirText(t *testing.T) {
	for _, s := range rightSnaps() {
		wantSnapText(t, s, plainSnap(s))
		wantReadSnap(t, plainSnap(s), s)
	}
}

func TestSnapTextOfWrongSnaps(t *testing.T) {
	for _, s := range wrongSnaps() {
		wantNoSnapText(t, s)
	}
}

func TestSnapTextAtEachLimit(t *testing.T) {
	limits := []int{-1, 0, 1, 99999, 100000, 100001, 999999, 1000000, 1000001}
	eachList(limits, 2, func(list []int) {
		s := snap(list[0], list[1], []int{1, 2}, "x")
		if slices.Min(list) >= 0 && list[0] <= 1000000 && list[1] <= 100000 {
			wantSnapText(t, s, plainSnap(s))
		} else {
			wantNoSnapText(t, s)
		}
	})
}

func TestSnapTextOfEveryShortConf(t *testing.T) {
	for length := range 6 {
		eachList([]int{-1, 0, 1, 2, 3, 4, 5}, length, func(list []int) {
			s := snap(2, 1, list, "x")
			if isRightConf(list) {
				wantSnapText(t, s, plainSnap(s))
			} else {
				wantNoSnapText(t, s)
			}
		})
	}
}

// The sum counts, too: a text of MaxText bytes is one, of one more none,
// though Sealed takes three more still.
func TestSnapTextOfTheLongestTexts(t *testing.T) {
	for _, length := range []int{19990, 19996, 19998, 19999, 20000} {
		s := sized(t, length)
		wantSnapText(t, s, plainSnap(s))
		wantReadSnap(t, plainSnap(s), s)
	}
	for _, length := range []int{20001, 20002, 20003, 20004, 20005, 20006, 20020, 40000} {
		s := sized(t, length)
		wantNoSnapText(t, s)
		wantNoReadSnap(t, plainSnap(s))
	}
	for _, length := range []int{19987, 19988, 19989} {
		s := snap(1, 1, []int{1}, mixedBytes(length))
		wantSnapText(t, s, plainSnap(s))
		wantReadSnap(t, plainSnap(s), s)
	}
}

func TestReadSnapOfNothing(t *testing.T) {
	for _, text := range []string{"", "\x00", "x", "\xff\xff\xff\xff", "\x00\x00\x01\x01\x00", plainSeal("\x00"), plainSeal(plainSeal("")), mixedBytes(100), mixedBytes(20000), mixedBytes(70000)} {
		wantNoReadSnap(t, text)
	}
}

func shortSnaps() []string {
	return []string{
		plainSnap(snap(0, 0, []int{1}, "")), plainSnap(snap(3, 1, []int{1}, "b")), plainSnap(snap(300, 20000, []int{1, 2, 4}, mixedBytes(40))), plainSnap(snap(1000000, 100000, []int{1, 2, 3, 4}, mixedBytes(150))),
	}
}

func TestReadSnapOfEachTurnedByte(t *testing.T) {
	for _, text := range shortSnaps() {
		for at := range len(text) {
			for b := range 256 {
				if one := string([]byte{byte(b)}); one != text[at:at+1] {
					wantNoReadSnap(t, text[:at]+one+text[at+1:])
				}
			}
		}
	}
	longest := []byte(plainSnap(sized(t, 20000)))
	for at := 0; at < len(longest); at += 777 {
		longest[at] ^= 16
		wantNoReadSnap(t, string(longest))
		longest[at] ^= 16
	}
}

func TestReadSnapOfTextsThatAreCut(t *testing.T) {
	for _, text := range shortSnaps() {
		for cut := range len(text) {
			wantNoReadSnap(t, text[:cut])
			wantNoReadSnap(t, text[cut+1:])
			wantNoReadSnap(t, text[:cut]+text[cut+1:])
		}
	}
}

func TestReadSnapOfTextsWithAByteMore(t *testing.T) {
	for _, text := range shortSnaps() {
		for b := range 256 {
			one := string([]byte{byte(b)})
			wantNoReadSnap(t, text+one)
			wantNoReadSnap(t, one+text)
		}
		wantNoReadSnap(t, text+text)
		wantNoReadSnap(t, plainSeal(text))
	}
}

// What is sealed right is read part by part.
func TestReadSnapOfNumbersInALongerForm(t *testing.T) {
	for _, n := range []int{0, 1, 5, 127, 128, 300, 16384, 100000} {
		wantReadSnap(t, plainSeal(plainNumber(n)+"\x02\x01\x03\x01x"), snap(n, 2, []int{3}, "x"))
		wantReadSnap(t, plainSeal("\x02"+plainNumber(n)+"\x01\x03\x01x"), snap(2, n, []int{3}, "x"))
		for _, longer := range longerNumbers(n) {
			wantNoReadSnap(t, plainSeal(longer+"\x02\x01\x03\x01x"))
			wantNoReadSnap(t, plainSeal("\x02"+longer+"\x01\x03\x01x"))
		}
	}
	for _, longer := range longerNumbers(1) {
		wantNoReadSnap(t, plainSeal("\x02\x02"+longer+"\x03\x01x"))
		wantNoReadSnap(t, plainSeal("\x02\x02\x01\x03"+longer+"x"))
	}
	for _, longer := range longerNumbers(0) {
		wantNoReadSnap(t, plainSeal("\x02\x02\x01\x03"+longer))
	}
	for _, longer := range longerNumbers(200) {
		wantNoReadSnap(t, plainSeal("\x02\x02\x01\x03"+longer+mixedBytes(200)))
	}
}

func TestReadSnapOfNumbersPastTheirLimits(t *testing.T) {
	for _, n := range []int{1000001, 1000002, 2000000, impl.MaxNumber, impl.MaxNumber + 1, 1 << 33} {
		wantNoReadSnap(t, plainSnap(snap(n, 1, []int{1}, "x")))
	}
	for _, n := range []int{100001, 100002, 1000000, 1000001, impl.MaxNumber, impl.MaxNumber + 1, 1 << 33} {
		wantNoReadSnap(t, plainSnap(snap(1, n, []int{1}, "x")))
	}
	for _, great := range []string{"\xff\xff\xff\xff\x7f", "\x81\x80\x80\x80\x80\x80\x80\x80\x80\x01", strings.Repeat("\xff", 100)} {
		wantNoReadSnap(t, plainSeal(great+"\x02\x01\x03\x01x"))
		wantNoReadSnap(t, plainSeal("\x02"+great+"\x01\x03\x01x"))
		wantNoReadSnap(t, plainSeal("\x02\x02"+great+"\x03\x01x"))
		wantNoReadSnap(t, plainSeal("\x02\x02\x01\x03"+great+"x"))
	}
}

func TestReadSnapOfWrongConfs(t *testing.T) {
	for _, text := range wrongConfTexts() {
		wantNoReadSnap(t, plainSeal("\x02\x02"+plainShort(text)+"\x01x"))
		wantNoReadSnap(t, plainSeal("\x02\x02"+plainShort(text)+"\x00"))
	}
	for text, conf := range rightConfs() {
		wantReadSnap(t, plainSeal("\x02\x02"+plainShort(text)+"\x01x"), snap(2, 2, conf, "x"))
	}
}

func TestReadSnapOfBytesBehindTheBody(t *testing.T) {
	inner := "\x02\x02\x01\x03\x02ab"
	wantReadSnap(t, plainSeal(inner), snap(2, 2, []int{3}, "ab"))
	for _, behind := range []string{"\x00", "x", "ab", inner, mixedBytes(300), mixedBytes(19000)} {
		wantNoReadSnap(t, plainSeal(inner+behind))
		wantNoReadSnap(t, plainSeal("\x02\x02\x01\x03\x00"+behind))
	}
}

func TestReadSnapOfPartsThatAreMissing(t *testing.T) {
	inner := "\xac\x02\x80\x01\x03\x01\x02\x04\x05abcde"
	wantReadSnap(t, plainSeal(inner), snap(300, 128, []int{1, 2, 4}, "abcde"))
	for cut := range len(inner) {
		wantNoReadSnap(t, plainSeal(inner[:cut]))
	}
}

// plainReadSnap goes by the chapter's words for texts of at most 127 bytes.
func plainReadSnap(text string) (impl.Snap, bool) {
	if len(text) < 4 || plainSeal(text[:len(text)-4]) != text {
		return impl.Snap{}, false
	}
	index, rest, indexOk := plainReadNumber(text[:len(text)-4], 1000000)
	term, rest, termOk := plainReadNumber(rest, 100000)
	if !indexOk || !termOk || rest == "" || int(rest[0]) > len(rest)-2 {
		return impl.Snap{}, false
	}
	body := rest[1+int(rest[0]):]
	conf, isConf := rightConfs()[rest[1:len(rest)-len(body)]]
	if !isConf || int(body[0]) != len(body)-1 {
		return impl.Snap{}, false
	}
	return snap(index, term, conf, body[1:]), true
}

// checkReadSnap also holds what is read against what is written of it.
func checkReadSnap(t *testing.T, text string) bool {
	t.Helper()
	s, right := plainReadSnap(text)
	if !right {
		wantNoReadSnap(t, text)
		return false
	}
	wantReadSnap(t, text, s)
	wantSnapText(t, s, text)
	return true
}

func TestReadSnapOfEveryShortText(t *testing.T) {
	read := 0
	for length := range 7 {
		eachList([]int{0, 1, 2, 3, 4, 127, 128}, length, func(list []int) {
			if checkReadSnap(t, plainSeal(bytesOf(list))) {
				read++
			}
		})
	}
	if read < 100 {
		t.Errorf("%d texts alone were read", read)
	}
}

func TestReadSnapOfSpoiltTextsThatAreSealed(t *testing.T) {
	read := 0
	for _, good := range []string{"\x00\x00\x01\x01\x00", "\x7f\x80\x01\x02\x01\x04\x02ab", "\xc0\x84\x3d\xa0\x8d\x06\x04\x01\x02\x03\x04\x01x", "\xac\x02\x05\x01\x03\x06\x01\x02\x03\x00\x80\x7f"} {
		for at := range len(good) {
			for b := range 256 {
				one := string([]byte{byte(b)})
				for _, spoilt := range []string{good[:at] + one + good[at+1:], good[:at] + one + good[at:], good + one, good[:at] + good[at+1:]} {
					if checkReadSnap(t, plainSeal(spoilt)) {
						read++
					}
				}
			}
		}
	}
	if read < 100 {
		t.Errorf("%d texts alone were read", read)
	}
}

// newSnap has the acts of a snapshot's file that is written, without those
// that drop others.
func newSnap(s impl.Snap) []impl.Act {
	acts := []impl.Act{}
	for rest := plainSnap(s); rest != ""; {
		length := min(60, len(rest))
		acts = append(acts, adds("s+", rest[:length]))
		rest = rest[length:]
	}
	return append(acts, keeps("s+"), moves("s+", "s"+strconv.Itoa(s.Index)))
}

func wantSnapActs(t *testing.T, d impl.Disk, s impl.Snap, want []impl.Act) {
	t.Helper()
	if acts, ok := impl.SnapActs(d, s); !ok || !slices.Equal(acts, want) {
		t.Errorf("SnapActs on %.200v of %.80v is %.300v, %v; want %.300v", d, s, acts, ok, want)
	}
}

func wantNoSnapActs(t *testing.T, d impl.Disk, s impl.Snap) {
	t.Helper()
	if acts, ok := impl.SnapActs(d, s); ok || len(acts) != 0 {
		t.Errorf("SnapActs on %.200v of %.80v is %.300v, %v; want none", d, s, acts, ok)
	}
}

func dropsEach(names ...string) []impl.Act {
	acts := []impl.Act{}
	for _, name := range names {
		acts = append(acts, drops(name))
	}
	return acts
}

func TestSnapActsOfAFixedSnap(t *testing.T) {
	s := snap(12, 2, []int{1}, strings.Repeat("a", 60))
	text := plainSnap(s)
	d := diskOf(kept("j0", "x"), kept("s+", "torn"), kept("s10", "x"), kept("s9", "y"))
	wantSnapActs(t, d, s, []impl.Act{
		drops("s+"), adds("s+", "\x0c\x02\x01\x01\x3c"+strings.Repeat("a", 55)), adds("s+", text[60:]), keeps("s+"), moves("s+", "s12"), drops("s10"), drops("s9"),
	})
}

func TestSnapActsOfEveryRightSnap(t *testing.T) {
	for _, s := range rightSnaps() {
		wantSnapActs(t, impl.Disk{}, s, newSnap(s))
		wantSnapActs(t, threeFiles(), s, newSnap(s))
	}
}

// Each chunk but the last one is of SnapChunk bytes, and none is empty.
func TestSnapActsInChunks(t *testing.T) {
	for _, length := range []int{15, 30, 59, 60, 61, 62, 119, 120, 121, 150, 179, 180, 181, 600, 601, 19980, 19981, 20000} {
		s := sized(t, length)
		acts, ok := impl.SnapActs(impl.Disk{}, s)
		chunks := (length + 59) / 60
		if !ok || len(acts) != chunks+2 {
			t.Fatalf("a text of %d bytes has %d acts, %v", length, len(acts), ok)
		}
		text := ""
		for at, a := range acts[:chunks] {
			if a != adds("s+", a.Text) || a.Text == "" || at < chunks-1 && len(a.Text) != 60 || len(a.Text) > 60 {
				t.Errorf("of %d bytes the act %d is %v", length, at, a)
			}
			text += a.Text
		}
		if text != plainSnap(s) || acts[chunks] != keeps("s+") || acts[chunks+1] != moves("s+", "s100000") {
			t.Errorf("the acts of %d bytes are %.300v", length, acts)
		}
	}
}

func TestSnapActsBesideNameSnapNew(t *testing.T) {
	s := snap(7, 2, []int{1, 2}, mixedBytes(100))
	for _, text := range []string{"", "torn", plainSnap(s), mixedBytes(20000)} {
		for _, left := range []int{0, len(text) / 2, len(text)} {
			d := diskOf(file("s+", text, left))
			wantSnapActs(t, d, s, slices.Concat(dropsEach("s+"), newSnap(s)))
			d = diskOf(kept("j0", "x"), file("s+", text, left), kept("s6", "x"), kept("t", ""))
			wantSnapActs(t, d, s, slices.Concat(dropsEach("s+"), newSnap(s), dropsEach("s6")))
		}
	}
	near := diskOf(kept("j+", "x"), kept("s", "x"), kept("s++", "x"), kept("s+0", "x"), kept("t+", "x"))
	wantSnapActs(t, near, s, newSnap(s))
}

// The order is that of the files, not that of the numbers; what is of the
// same Index is not dropped, as the new one takes its place.
func TestSnapActsDropOtherSnaps(t *testing.T) {
	d := diskOf(kept("a", ""), kept("s0", "x"), kept("s1", ""), kept("s10", "x"), kept("s100", plainSnap(snap(100, 1, []int{1}, ""))), kept("s1000000", "x"), kept("s2", "x"), kept("s99", "x"), kept("t", ""))
	names := []string{"s0", "s1", "s10", "s100", "s1000000", "s2", "s99"}
	for _, index := range []int{0, 1, 2, 3, 10, 11, 99, 100, 101, 1000000} {
		s := snap(index, 1, []int{1}, "x")
		others := []string{}
		for _, name := range names {
			if name != "s"+strconv.Itoa(index) {
				others = append(others, name)
			}
		}
		wantSnapActs(t, d, s, slices.Concat(newSnap(s), dropsEach(others...)))
	}
	same := diskOf(kept("s100", "x"))
	wantSnapActs(t, same, snap(100, 1, []int{1}, "x"), newSnap(snap(100, 1, []int{1}, "x")))
}

// noSnapNames only look like a SnapName.
func noSnapNames() []string {
	return []string{
		"s", "s00", "s01", "s007", "s08", "s0000001", "s1000001", "s1000002", "s9999999", "S8", "t8", "r8", "8", "s-1", "s-0", "s 8", "s8 ", "s8x", "ss8", "s+8", "s++", "s8.0", "s\x008", "sx", " s8", "s8\x00", "sa", "s1e3", "j8", "s٣",
	}
}

func besideOf(d impl.Disk, files ...impl.File) impl.Disk {
	list := append(slices.Clone(d.Files), files...)
	slices.SortFunc(list, func(a, b impl.File) int { return strings.Compare(a.Name, b.Name) })
	return impl.Disk{Files: list}
}

func TestSnapActsPassOverOtherNames(t *testing.T) {
	s := snap(9, 1, []int{1}, "x")
	for _, name := range noSnapNames() {
		wantSnapActs(t, diskOf(kept(name, plainSnap(s))), s, newSnap(s))
		wantSnapActs(t, besideOf(diskOf(kept("s5", "x"), kept("s9", "x")), kept(name, "x")), s, slices.Concat(newSnap(s), dropsEach("s5")))
	}
}

func TestSnapActsOfWrongArguments(t *testing.T) {
	s := snap(7, 2, []int{1, 2}, "body")
	for _, wrong := range wrongSnaps() {
		wantNoSnapActs(t, impl.Disk{}, wrong)
		wantNoSnapActs(t, diskOf(kept("s+", "x"), kept("s1", "x")), wrong)
	}
	for _, length := range []int{20001, 20004, 20005} {
		wantNoSnapActs(t, impl.Disk{}, sized(t, length))
	}
	for _, wrong := range wrongDisks() {
		wantNoSnapActs(t, wrong, s)
		wantNoSnapActs(t, wrong, impl.Snap{})
		wrong.Files = append(slices.Clone(wrong.Files), kept("s1", plainSnap(snap(1, 1, []int{1}, ""))))
		wantNoSnapActs(t, wrong, s)
	}
	wantNoSnapActs(t, diskOf(kept("s2", ""), kept("s1", "")), s)
	wantNoSnapActs(t, diskOf(file("s1", "abc", 4)), s)
}

// A disk that has no room for one more file is none of what is refused.
func TestSnapActsOnAFullDisk(t *testing.T) {
	s := snap(7, 2, []int{1, 2}, "body")
	wantSnapActs(t, manyFiles(impl.MaxFiles), s, newSnap(s))
	d := besideOf(manyFiles(impl.MaxFiles-1), kept("s+", "x"))
	acts := slices.Concat(dropsEach("s+"), newSnap(s))
	wantSnapActs(t, d, s, acts)
	if _, done := impl.DoActs(d, acts); done != len(acts) {
		t.Errorf("%d acts of %d are done", done, len(acts))
	}
}

// Behind all acts there is this snapshot alone, kept, and nothing to shed.
func TestSnapActsLeaveOneSnap(t *testing.T) {
	for _, d := range []impl.Disk{
		{}, diskOf(kept("j0", "x"), kept("s0", "x"), kept("s7", "y")), diskOf(file("s+", "torn", 2), kept("s01", ""), kept("s12", "x"), file("s5", "xyz", 1)), diskOf(kept("s100000", plainSnap(snap(100000, 1, []int{1}, "old")))),
	} {
		for _, length := range []int{20, 60, 61, 500, 20000} {
			s := sized(t, length)
			acts, ok := impl.SnapActs(d, s)
			behind, done := impl.DoActs(d, acts)
			if !ok || done != len(acts) {
				t.Fatalf("on %v %d acts of %d are done, %v", d, done, len(acts), ok)
			}
			text, there := impl.FileAt(behind, "s100000")
			if !there || text != plainSnap(s) || len(snapNames(behind)) != 1 {
				t.Errorf("on %v there are the snapshots %v", d, snapNames(behind))
			}
			wantNewest(t, behind, s)
			wantShed(t, behind)
		}
	}
}

// snapNames are the names that snapshots have, and NameSnapNew.
func snapNames(d impl.Disk) []string {
	names := []string{}
	for _, f := range d.Files {
		if strings.HasPrefix(f.Name, "s") && !slices.Contains(noSnapNames(), f.Name) {
			names = append(names, f.Name)
		}
	}
	return names
}

func wantNewest(t *testing.T, d impl.Disk, want impl.Snap) {
	t.Helper()
	if got, ok := impl.NewestSnap(d); !ok || !sameSnap(got, want) {
		t.Errorf("NewestSnap(%.200v) = %.80v, %v; want %.80v", d, got, ok, want)
	}
}

// wantNoNewest wants nothing to be shed, too.
func wantNoNewest(t *testing.T, d impl.Disk) {
	t.Helper()
	if got, ok := impl.NewestSnap(d); ok || !isZeroSnap(got) {
		t.Errorf("NewestSnap(%.200v) = %.80v, %v; want none", d, got, ok)
	}
	wantShed(t, d)
}

func wantShed(t *testing.T, d impl.Disk, names ...string) {
	t.Helper()
	if got := impl.ShedActs(d); !slices.Equal(got, dropsEach(names...)) {
		t.Errorf("ShedActs(%.200v) = %v; want to drop %v", d, got, names)
	}
}

// snapAt is a snapshot of this Index; of each Index it is another one.
func snapAt(index int) impl.Snap {
	return snap(index, index%100000, []int{1 + index%4}, "body"+strconv.Itoa(index))
}

// snapFile is its file, all of which is kept.
func snapFile(index int) impl.File { return kept("s"+strconv.Itoa(index), plainSnap(snapAt(index))) }

func TestNewestSnapOfOneFile(t *testing.T) {
	for _, s := range rightSnaps() {
		f := kept("s"+strconv.Itoa(s.Index), plainSnap(s))
		wantNewest(t, diskOf(f), s)
		wantNewest(t, diskOf(kept("a", "12"), kept("j3", "x"), kept("s+", "torn"), f, kept("t", "")), s)
		wantShed(t, diskOf(f))
	}
	for _, length := range []int{19999, 20000} {
		s := sized(t, length)
		wantNewest(t, diskOf(kept("s100000", plainSnap(s))), s)
	}
}

// What is not yet kept counts as the rest of a file does.
func TestNewestSnapOfAFileThatIsNotKept(t *testing.T) {
	f := snapFile(12)
	for f.Kept = range len(f.Text) {
		wantNewest(t, diskOf(snapFile(11), f), snapAt(12))
		wantShed(t, diskOf(snapFile(11), f), "s11")
	}
}

func TestNewestSnapIsOfTheGreatestIndex(t *testing.T) {
	wantNewest(t, diskOf(snapFile(10), snapFile(9)), snapAt(10))
	wantNewest(t, diskOf(snapFile(1), snapFile(1000000), snapFile(2), snapFile(999999)), snapAt(1000000))
	wantNewest(t, diskOf(snapFile(0), snapFile(1)), snapAt(1))
	eachList([]int{0, 1, 2, 9, 10, 11, 99, 100, 999999, 1000000}, 3, func(indexes []int) {
		sorted := slices.Compact(slices.Sorted(slices.Values(indexes)))
		var d impl.Disk
		for _, index := range sorted {
			d = besideOf(d, snapFile(index))
		}
		greatest := sorted[len(sorted)-1]
		wantNewest(t, d, snapAt(greatest))
		others := slices.DeleteFunc(snapNames(d), func(name string) bool { return name == "s"+strconv.Itoa(greatest) })
		wantShed(t, d, others...)
	})
}

// The greatest Term says nothing, nor does the longest Body.
func TestNewestSnapOfUnlikeTerms(t *testing.T) {
	late, early := snap(20, 1, []int{1}, ""), snap(19, 100000, []int{1, 2, 3, 4}, mixedBytes(900))
	wantNewest(t, diskOf(kept("s19", plainSnap(early)), kept("s20", plainSnap(late))), late)
}

// spoiltTexts are none of a snapshot of the Index 12.
func spoiltTexts() []string {
	text := plainSnap(snapAt(12))
	return []string{
		"", "x", text[:len(text)-1], text[1:], text + "\x00", text[:3] + "\x7f" + text[4:], plainSeal(text), plainSeal("\x0c\x01\x01\x05\x00"), plainSeal("\x8c\x00\x01\x01\x01\x00"),
		plainSnap(snapAt(11)), plainSnap(snapAt(13)), plainSnap(snapAt(0)), plainSnap(snapAt(120)), plainSnap(snapAt(1000000)), mixedBytes(20000),
	}
}

func TestNewestSnapPassesOverSpoiltFiles(t *testing.T) {
	for _, text := range spoiltTexts() {
		wantNoNewest(t, diskOf(kept("s12", text)))
		wantNoNewest(t, diskOf(kept("a", ""), kept("s+", plainSnap(snapAt(12))), kept("s12", text)))
		d := diskOf(snapFile(10), kept("s12", text), snapFile(9))
		wantNewest(t, d, snapAt(10))
		wantShed(t, d, "s12", "s9")
		wantNewest(t, diskOf(kept("s12", text), snapFile(13)), snapAt(13))
		wantNewest(t, diskOf(snapFile(0), kept("s12", text)), snapAt(0))
	}
}

func TestNewestSnapPassesOverOtherNames(t *testing.T) {
	for _, name := range noSnapNames() {
		for _, index := range []int{0, 1, 7, 8, 1000000} {
			wantNoNewest(t, diskOf(kept(name, plainSnap(snapAt(index)))))
		}
		d := besideOf(diskOf(snapFile(3)), kept(name, plainSnap(snapAt(8))))
		wantNewest(t, d, snapAt(3))
		wantShed(t, d)
	}
	wantNoNewest(t, diskOf(kept("s1000001", plainSnap(snap(1000001, 1, []int{1}, "")))))
}

func TestNewestSnapOfNoFile(t *testing.T) {
	wantNoNewest(t, impl.Disk{})
	wantNoNewest(t, threeFiles())
	wantNoNewest(t, manyFiles(impl.MaxFiles))
	wantNoNewest(t, diskOf(kept("s+", plainSnap(snapAt(1)))))
	wantNoNewest(t, diskOf(kept("s+", ""), kept("s1", ""), kept("s2", "x")))
}

func TestNewestSnapOfWrongDisks(t *testing.T) {
	for _, wrong := range wrongDisks() {
		wantNoNewest(t, wrong)
		wrong.Files = append(slices.Clone(wrong.Files), snapFile(7))
		wantNoNewest(t, wrong)
		wrong.Files = append([]impl.File{snapFile(6)}, wrong.Files...)
		wantNoNewest(t, wrong)
	}
	wantNoNewest(t, diskOf(snapFile(7), snapFile(6)))
	wantNoNewest(t, diskOf(snapFile(7), snapFile(7)))
	wantNoNewest(t, diskOf(snapFile(9), snapFile(10)))
	text := plainSnap(snapAt(7))
	wantNoNewest(t, diskOf(file("s7", text, -1)))
	wantNoNewest(t, diskOf(file("s7", text, len(text)+1)))
	full := besideOf(manyFiles(impl.MaxFiles-1), snapFile(7))
	wantNewest(t, full, snapAt(7))
	wantNoNewest(t, besideOf(full, kept("z", "")))
}

func TestShedActs(t *testing.T) {
	wantShed(t, diskOf(kept("s+", ""), snapFile(3)), "s+")
	wantShed(t, diskOf(file("s+", "torn", 2), snapFile(3)), "s+")
	wantShed(t, diskOf(kept("s+", plainSnap(snapAt(9))), snapFile(3)), "s+")
	wantShed(t, diskOf(snapFile(2), snapFile(3)), "s2")
	wantShed(t, diskOf(snapFile(10), snapFile(9)), "s9")
	wantShed(t, diskOf(kept("j+", ""), kept("j1", ""), kept("s+", "x"), kept("s0", ""), kept("s01", ""), kept("s1", "x"), snapFile(10), kept("s1000000", "x"), kept("s1000001", ""), snapFile(2), kept("s99", "x"), kept("t", "")),
		"s+", "s0", "s1", "s1000000", "s2", "s99")
}

// What is shed leaves the newest one alone; a second time nothing goes.
func TestShedActsTwice(t *testing.T) {
	for _, d := range []impl.Disk{
		diskOf(snapFile(3)), diskOf(kept("s+", "x"), snapFile(10), kept("s12", "spoilt"), snapFile(9)), diskOf(kept("a", "x"), file("s+", "xy", 1), snapFile(0), kept("s00", "x"), snapFile(1), file("s7", "abc", 0)),
	} {
		newest, ok := impl.NewestSnap(d)
		acts := impl.ShedActs(d)
		behind, done := impl.DoActs(d, acts)
		if !ok || done != len(acts) || len(snapNames(behind)) != 1 {
			t.Fatalf("of %v there are %v left", d, snapNames(behind))
		}
		wantNewest(t, behind, newest)
		wantShed(t, behind)
		eachCut(t, d, acts, func(whole int, left impl.Disk) { wantNewest(t, left, newest) })
	}
}

// checkSnapCuts asks for the newest snapshot of what the power leaves of
// SnapActs, at every place: it is old up to the move, and now behind it.
func checkSnapCuts(t *testing.T, d impl.Disk, old, now impl.Snap) {
	t.Helper()
	acts, ok := impl.SnapActs(d, now)
	moved := slices.IndexFunc(acts, func(a impl.Act) bool { return a.Kind == impl.ActMove })
	if !ok || moved < 0 {
		t.Fatalf("SnapActs of %v is %v, %v", now, acts, ok)
	}
	eachCut(t, d, acts, func(whole int, left impl.Disk) {
		want := old
		if whole > moved {
			want = now
		}
		got, there := impl.NewestSnap(left)
		if !there || !sameSnap(got, want) {
			t.Fatalf("from %v to %v, behind %d acts: the newest is %v, %v", old, now, whole, got, there)
		}
		behind, done := impl.DoActs(left, impl.ShedActs(left))
		again, right := impl.NewestSnap(behind)
		if done != len(impl.ShedActs(left)) || !right || !sameSnap(again, want) || len(snapNames(behind)) != 1 {
			t.Fatalf("from %v to %v, behind %d acts: what is shed leaves %v", old, now, whole, snapNames(behind))
		}
	})
}

func TestPowerLeavesTheOldOrTheNewSnap(t *testing.T) {
	old := snapAt(9)
	for _, now := range []impl.Snap{snap(10, 9, []int{1}, ""), snap(10, 9, []int{2, 3}, mixedBytes(60)), snap(100, 12, []int{1}, mixedBytes(130)), sized(t, 60), sized(t, 61), sized(t, 120), sized(t, 181)} {
		checkSnapCuts(t, diskOf(snapFile(9)), old, now)
		checkSnapCuts(t, diskOf(kept("j0", "x"), kept("s+", "kept"), snapFile(9)), old, now)
		checkSnapCuts(t, diskOf(file("s+", plainSnap(now), 7), snapFile(8), snapFile(9)), old, now)
		checkSnapCuts(t, diskOf(snapFile(0), kept("s1", ""), kept("s1000000", "spoilt"), snapFile(9), kept("t", "")), old, now)
		spoilt := kept("s"+strconv.Itoa(now.Index), plainSnap(now)[:8])
		checkSnapCuts(t, besideOf(diskOf(kept("s+", "x"), snapFile(7), snapFile(9)), spoilt), old, now)
	}
}

// One of the same Index takes the place of the old one.
func TestPowerLeavesTheOldOrTheNewSnapOfOneIndex(t *testing.T) {
	checkSnapCuts(t, diskOf(snapFile(9)), snapAt(9), snap(9, 9, []int{1, 2}, mixedBytes(90)))
	checkSnapCuts(t, diskOf(kept("s+", "x"), snapFile(8), snapFile(9)), snapAt(9), snap(9, 9, []int{1, 2}, mixedBytes(90)))
}

// One that is not newer is the newest behind the drops alone.
func TestPowerLeavesTheOldSnapOrOneThatIsNotNewer(t *testing.T) {
	d, now := diskOf(snapFile(10), snapFile(9)), snap(8, 1, []int{3}, mixedBytes(70))
	acts, ok := impl.SnapActs(d, now)
	if !ok {
		t.Fatal("this snapshot is right")
	}
	eachCut(t, d, acts, func(whole int, left impl.Disk) {
		want := snapAt(10)
		switch whole {
		case len(acts) - 1:
			want = snapAt(9)
		case len(acts):
			want = now
		}
		wantNewest(t, left, want)
	})
}

func TestPowerLeavesNoSnapOrTheFirst(t *testing.T) {
	now := snap(5, 1, []int{1}, mixedBytes(140))
	acts, _ := impl.SnapActs(impl.Disk{}, now)
	eachCut(t, impl.Disk{}, acts, func(whole int, left impl.Disk) {
		if whole < len(acts) {
			wantNoNewest(t, left)
		} else {
			wantNewest(t, left, now)
		}
	})
}

// A life of snapshots: each one newer, with a cut now and then.
func TestPowerLeavesTheOldOrTheNewSnapInALongLife(t *testing.T) {
	for seed := range 60 {
		draw := func(n int) int {
			seed = (seed*1103515245 + 12345) % 2147483648
			return seed / 65536 % n
		}
		old := snapAt(0)
		d := diskOf(kept("j0", "x"), snapFile(0))
		for range 100 {
			now := snap(old.Index+1+draw(9), old.Term+draw(3), []int{1 + draw(4)}, mixedBytes(draw(400)))
			acts, ok := impl.SnapActs(d, now)
			whole := len(acts)
			if draw(2) == 0 {
				whole = draw(len(acts) + 1)
			}
			left, fine := impl.CutActs(d, acts, whole, []int{draw(500), draw(500), draw(500), draw(500)})
			got, there := impl.NewestSnap(left)
			if !ok || !fine || !there || !sameSnap(got, old) && !sameSnap(got, now) || whole == len(acts) && !sameSnap(got, now) {
				t.Fatalf("from %v to %v, behind %d acts: the newest is %v, %v", old, now, whole, got, there)
			}
			old, d = got, left
			if draw(2) == 0 {
				d, _ = impl.DoActs(left, impl.ShedActs(left))
			}
		}
	}
}

func TestSnapsAreNotWrittenInto(t *testing.T) {
	for _, one := range append(rightSnaps(), wrongSnaps()...) {
		conf := append(slices.Clone(one.Conf), 9, 8, 7)
		confWas := slices.Clone(conf)
		s := snap(one.Index, one.Term, conf[:len(one.Conf)], one.Body)
		for _, disk := range []impl.Disk{{}, diskOf(kept("s+", "x"), snapFile(10), snapFile(9)), diskOf(snapFile(9), snapFile(10))} {
			d, files := roomy(disk)
			filesWere := slices.Clone(files)
			impl.SnapText(s)
			impl.SnapActs(d, s)
			impl.NewestSnap(d)
			impl.ShedActs(d)
			if !slices.Equal(conf, confWas) || !slices.Equal(files, filesWere) {
				t.Fatalf("an argument was written into: %v, %v", conf, files)
			}
		}
	}
}

func TestSnapsThatAreAnsweredAreNew(t *testing.T) {
	s := snap(12, 3, []int{1, 2, 4}, mixedBytes(300))
	text, _ := impl.SnapText(s)
	d := diskOf(kept("s12", text))
	for _, read := range []func() (impl.Snap, bool){
		func() (impl.Snap, bool) { return impl.ReadSnap(text) }, func() (impl.Snap, bool) { return impl.NewestSnap(d) },
	} {
		first, ok := read()
		if !ok || lieTogether(first.Body, text) || lieTogether(text, s.Body) {
			t.Error("what is answered lies in an argument")
		}
		for at := range first.Conf {
			first.Conf[at] = 9
		}
		_ = append(first.Conf, 9)
		if second, _ := read(); !sameSnap(second, s) {
			t.Errorf("two answers share a conf: %v", second.Conf)
		}
	}
}

func TestActsOfSnapsAreNew(t *testing.T) {
	s := snap(12, 3, []int{1, 2, 4}, mixedBytes(300))
	d := diskOf(kept(strings.Clone("s+"), "torn"), kept(strings.Clone("s11"), plainSnap(snapAt(11))), kept(strings.Clone("s12"), "spoilt"), kept(strings.Clone("s9"), plainSnap(snapAt(9))))
	acts, ok := impl.SnapActs(d, s)
	shed := impl.ShedActs(d)
	if !ok || len(shed) != 3 {
		t.Fatal("this disk is right")
	}
	for _, a := range append(acts, shed...) {
		for _, old := range append(slices.Clone(d.Files), kept("", s.Body)) {
			if lieTogether(a.Name, old.Name) || lieTogether(a.To, old.Name) || lieTogether(a.Text, old.Text) {
				t.Errorf("the act %v lies in an argument", a)
			}
		}
	}
	again, _ := impl.SnapActs(d, s)
	for at := range acts {
		acts[at] = impl.Act{}
	}
	wantSnapActs(t, d, s, again)
}

// What was answered ahead says nothing of what is answered.
func TestSnapsKeepNothing(t *testing.T) {
	s := snapAt(12)
	for range 3 {
		wantNoReadSnap(t, plainSnap(s)+"x")
		wantReadSnap(t, plainSnap(s), s)
		wantNoReadSnap(t, "")
		wantNewest(t, diskOf(snapFile(12)), s)
		wantNoNewest(t, impl.Disk{})
		wantNoSnapActs(t, impl.Disk{}, impl.Snap{})
		wantSnapActs(t, diskOf(snapFile(9)), s, slices.Concat(newSnap(s), dropsEach("s9")))
		wantShed(t, diskOf(kept("s+", ""), snapFile(12)), "s+")
	}
}
