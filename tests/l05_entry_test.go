package tests

import (
	"math"
	"slices"
	"strings"
	"testing"

	"loop.example/g00232/impl"
)

func TestEntryLimits(t *testing.T) {
	got := []int{impl.MaxNodes, impl.MaxTerm, impl.MaxIndex, impl.MaxData, impl.EntryNone, impl.EntryConf, impl.EntryCommand}
	if !slices.Equal(got, []int{4, 100000, 1000000, 120, 1, 2, 3}) {
		t.Errorf("limits are %v", got)
	}
}

// rightConfs has every right conf, by its text.
func rightConfs() map[string][]int {
	return map[string][]int{
		"\x01": {1}, "\x02": {2}, "\x03": {3}, "\x04": {4},
		"\x01\x02": {1, 2}, "\x01\x03": {1, 3}, "\x01\x04": {1, 4}, "\x02\x03": {2, 3}, "\x02\x04": {2, 4}, "\x03\x04": {3, 4},
		"\x01\x02\x03": {1, 2, 3}, "\x01\x02\x04": {1, 2, 4}, "\x01\x03\x04": {1, 3, 4}, "\x02\x03\x04": {2, 3, 4},
		"\x01\x02\x03\x04": {1, 2, 3, 4},
	}
}

// wrongConfs are none, each for one reason of its own.
func wrongConfs() [][]int {
	return [][]int{
		nil, {}, {0}, {-1}, {5}, {math.MinInt}, {math.MaxInt}, {257}, {-255}, {1 << 32}, {1<<32 + 1},
		{0, 1}, {-1, 1}, {0, 1, 2, 3}, {1, 5}, {4, 5}, {1, 2, 3, 5}, {2, 3, 4, 5}, {1, 2, 257},
		{2, 1}, {4, 3}, {1, 3, 2}, {4, 3, 2, 1}, {1, 2, 4, 3}, {2, 1, 3, 4},
		{1, 1}, {4, 4}, {1, 2, 2}, {1, 1, 2}, {1, 2, 3, 3}, {3, 3, 3, 3}, {1, 2, 1},
		{1, 2, 3, 4, 5}, {0, 1, 2, 3, 4}, {1, 2, 3, 4, 4}, {1, 2, 3, 4, 1}, {-1, 0, 1, 2, 3, 4}, make([]int, 1000),
	}
}

// wrongConfTexts are the text of no conf.
func wrongConfTexts() []string {
	return []string{
		"", "\x00", "\x05", "\x80", "\x81", "\xff", "1", "1,2", "\x00\x01", "\x01\x00", "\x01\x02\x03\x00", "\x01\x05", "\x01\x02\x03\x05", "\x02\x03\x04\x05",
		"\x02\x01", "\x04\x03\x02\x01", "\x01\x03\x02", "\x01\x01", "\x01\x02\x02", "\x04\x04\x04\x04", "\x01\x02\x03\x04\x05", "\x01\x02\x03\x04\x04", "\x00\x01\x02\x03\x04",
		"\x01\x02\x03\x04\x00", "\x01\x81", "\x01 ", strings.Repeat("\x01", 300), mixedBytes(70000),
	}
}

func wantConf(t *testing.T, conf []int, text string) {
	t.Helper()
	if !impl.ConfOk(conf) {
		t.Errorf("ConfOk(%v) is false", conf)
	}
	if got, ok := impl.ConfText(conf); got != text || !ok {
		t.Errorf("ConfText(%v) = %q, %v; want %q", conf, got, ok, text)
	}
	if got, ok := impl.ReadConf(text); !slices.Equal(got, conf) || !ok {
		t.Errorf("ReadConf(%q) = %v, %v; want %v", text, got, ok, conf)
	}
}

func wantNoConf(t *testing.T, conf []int) {
	t.Helper()
	if impl.ConfOk(conf) {
		t.Errorf("ConfOk(%v) is true", conf)
	}
	if got, ok := impl.ConfText(conf); got != "" || ok {
		t.Errorf("ConfText(%v) = %q, %v; want none", conf, got, ok)
	}
}

func wantNoReadConf(t *testing.T, text string) {
	t.Helper()
	if got, ok := impl.ReadConf(text); len(got) != 0 || ok {
		t.Errorf("ReadConf(%.20q) = %v, %v; want none", text, got, ok)
	}
}

func TestRightConfsComeBack(t *testing.T) {
	for text, conf := range rightConfs() {
		wantConf(t, conf, text)
	}
}

func TestWrongConfs(t *testing.T) {
	for _, conf := range wrongConfs() {
		wantNoConf(t, conf)
	}
}

// eachList hands over every list of so many of the numbers.
func eachList(numbers []int, length int, hand func([]int)) {
	list := make([]int, length)
	var fill func(at int)
	fill = func(at int) {
		if at == length {
			hand(list)
			return
		}
		for _, number := range numbers {
			list[at] = number
			fill(at + 1)
		}
	}
	fill(0)
}

func isRightConf(list []int) bool {
	for _, conf := range rightConfs() {
		if slices.Equal(conf, list) {
			return true
		}
	}
	return false
}

func TestConfOkOfEveryShortList(t *testing.T) {
	right := 0
	for length := 0; length <= 4; length++ {
		eachList([]int{-1, 0, 1, 2, 3, 4, 5, 6}, length, func(list []int) {
			want := isRightConf(list)
			if impl.ConfOk(list) != want {
				t.Errorf("ConfOk(%v) is %v", list, !want)
			}
			if want {
				right++
			}
		})
	}
	if right != 15 {
		t.Errorf("%d confs are right", right)
	}
	eachList([]int{0, 1, 2, 3, 4, 5}, 5, func(list []int) {
		if impl.ConfOk(list) {
			t.Errorf("ConfOk(%v) is true", list)
		}
	})
}

func TestReadConfRefuses(t *testing.T) {
	for _, text := range wrongConfTexts() {
		wantNoReadConf(t, text)
	}
}

func checkReadConf(t *testing.T, text string) {
	t.Helper()
	if conf, right := rightConfs()[text]; right {
		wantConf(t, conf, text)
	} else {
		wantNoReadConf(t, text)
	}
}

func bytesOf(list []int) string {
	out := []byte{}
	for _, number := range list {
		out = append(out, byte(number))
	}
	return string(out)
}

func TestReadConfOfEveryShortText(t *testing.T) {
	for first := 0; first < 256; first++ {
		checkReadConf(t, bytesOf([]int{first}))
		for second := 0; second < 256; second++ {
			checkReadConf(t, bytesOf([]int{first, second}))
		}
	}
	for length := 3; length <= 5; length++ {
		eachList([]int{0, 1, 2, 3, 4, 5, 129}, length, func(list []int) { checkReadConf(t, bytesOf(list)) })
	}
}

func entry(term, kind int, data string) impl.Entry {
	return impl.Entry{Term: term, Kind: kind, Data: data}
}

// rightEntries are of each Kind, with each of its edges.
func rightEntries() []impl.Entry {
	bodies := []impl.Entry{entry(0, impl.EntryNone, "")}
	for text := range rightConfs() {
		bodies = append(bodies, entry(0, impl.EntryConf, text))
	}
	for _, data := range []string{"", "\x00", "x", "E", "\x01", "\xff\xff", "\x01\x02", "a b\nc", "é", mixedBytes(impl.MaxData - 1), mixedBytes(impl.MaxData), strings.Repeat("\x80", impl.MaxData)} {
		bodies = append(bodies, entry(0, impl.EntryCommand, data))
	}
	list := []impl.Entry{}
	for _, term := range []int{0, 1, 2, 127, 128, 16383, 16384, impl.MaxTerm - 1, impl.MaxTerm} {
		for _, body := range bodies {
			list = append(list, entry(term, body.Kind, body.Data))
		}
	}
	return list
}

// wrongEntries are none, each for one reason of its own.
func wrongEntries() []impl.Entry {
	list := []impl.Entry{
		{}, entry(3, impl.EntryNone, "x"), entry(3, impl.EntryNone, "\x00"), entry(3, impl.EntryNone, "\x01"), entry(3, impl.EntryNone, mixedBytes(300)),
		entry(3, impl.EntryCommand, mixedBytes(impl.MaxData+1)), entry(3, impl.EntryCommand, mixedBytes(impl.MaxText)), entry(3, impl.EntryCommand, mixedBytes(70000)),
	}
	for _, kind := range []int{0, 4, -1, -2, 5, 255, 256, 257, 258, 259, 1<<32 + 1, math.MinInt, math.MaxInt} {
		for _, data := range []string{"", "\x01", "\x01\x02", "x"} {
			list = append(list, entry(3, kind, data))
		}
	}
	for _, term := range []int{-1, -100, math.MinInt, impl.MaxTerm + 1, impl.MaxNumber, impl.MaxNumber + 1, 1<<32 + 1, math.MaxInt} {
		list = append(list, entry(term, impl.EntryNone, ""), entry(term, impl.EntryConf, "\x01"), entry(term, impl.EntryCommand, "x"))
	}
	for _, text := range wrongConfTexts() {
		list = append(list, entry(3, impl.EntryConf, text))
	}
	return list
}

func TestEntryOk(t *testing.T) {
	for _, e := range rightEntries() {
		if !impl.EntryOk(e) {
			t.Errorf("EntryOk(%v) is false", e)
		}
	}
	for _, e := range wrongEntries() {
		if impl.EntryOk(e) {
			t.Errorf("EntryOk of Term %d, Kind %d, Data %.20q is true", e.Term, e.Kind, e.Data)
		}
	}
}

func TestEntryOkOfEachLength(t *testing.T) {
	for length := 0; length <= 2*impl.MaxData; length++ {
		data := strings.Repeat("\x01", length)
		if impl.EntryOk(entry(1, impl.EntryCommand, data)) != (length <= 120) {
			t.Errorf("a command of %d bytes is not told", length)
		}
		if impl.EntryOk(entry(1, impl.EntryNone, data)) != (length == 0) {
			t.Errorf("none with %d bytes is not told", length)
		}
		if impl.EntryOk(entry(1, impl.EntryConf, data)) != (length == 1) {
			t.Errorf("a conf of %d bytes is not told", length)
		}
	}
}

// plainNumber writes a number that is not below 0, as VarText does.
func plainNumber(n int) string {
	if n > 127 {
		return string([]byte{byte(n%128 + 128)}) + plainNumber(n/128)
	}
	return string([]byte{byte(n)})
}

// plainEntry writes an entry, also one that EntryText refuses.
func plainEntry(index int, e impl.Entry) string {
	return "E" + plainNumber(index) + plainNumber(e.Term) + string([]byte{byte(e.Kind)}) + e.Data
}

func rightIndexes() []int {
	return []int{1, 2, 3, 126, 127, 128, 129, 16383, 16384, 16385, impl.MaxIndex - 1, impl.MaxIndex}
}

func wrongIndexes() []int {
	return []int{0, -1, -2, math.MinInt, impl.MaxIndex + 1, 2 * impl.MaxIndex, impl.MaxNumber, impl.MaxNumber + 1, 1<<32 + 1, math.MaxInt}
}

func wantEntryText(t *testing.T, index int, e impl.Entry, want string) {
	t.Helper()
	if got, ok := impl.EntryText(index, e); got != want || !ok {
		t.Errorf("EntryText(%d, %v) = %q, %v; want %q", index, e, got, ok, want)
	}
}

func wantNoEntryText(t *testing.T, index int, e impl.Entry) {
	t.Helper()
	if got, ok := impl.EntryText(index, e); got != "" || ok {
		t.Errorf("EntryText of %d, Term %d, Kind %d, Data %.20q is %.20q, %v; want none", index, e.Term, e.Kind, e.Data, got, ok)
	}
}

func wantReadEntry(t *testing.T, text string, index int, e impl.Entry) {
	t.Helper()
	if gotIndex, got, ok := impl.ReadEntry(text); gotIndex != index || got != e || !ok {
		t.Errorf("ReadEntry(%q) = %d, %v, %v; want %d, %v", text, gotIndex, got, ok, index, e)
	}
}

func wantNoReadEntry(t *testing.T, text string) {
	t.Helper()
	if index, e, ok := impl.ReadEntry(text); index != 0 || e != (impl.Entry{}) || ok {
		t.Errorf("ReadEntry(%.30q) = %d, %v, %v; want none", text, index, e, ok)
	}
}

func TestEntryTextOfFixedEntries(t *testing.T) {
	fixed := []struct {
		index int
		e     impl.Entry
		text  string
	}{
		{3, entry(2, impl.EntryCommand, "x"), "E\x03\x02\x03x"},
		{1, entry(0, impl.EntryNone, ""), "E\x01\x00\x01"},
		{1, entry(1, impl.EntryConf, "\x01\x02\x03"), "E\x01\x01\x02\x01\x02\x03"},
		{127, entry(128, impl.EntryCommand, ""), "E\x7f\x80\x01\x03"},
		{300, entry(127, impl.EntryCommand, "E\x01\x00\x01"), "E\xac\x02\x7f\x03E\x01\x00\x01"},
		{1000000, entry(100000, impl.EntryNone, ""), "E\xc0\x84\x3d\xa0\x8d\x06\x01"},
		{1000000, entry(100000, impl.EntryConf, "\x04"), "E\xc0\x84\x3d\xa0\x8d\x06\x02\x04"},
	}
	for _, f := range fixed {
		wantEntryText(t, f.index, f.e, f.text)
		wantReadEntry(t, f.text, f.index, f.e)
	}
}

func TestRightEntriesComeBack(t *testing.T) {
	for _, index := range rightIndexes() {
		for _, e := range rightEntries() {
			text := plainEntry(index, e)
			wantEntryText(t, index, e, text)
			wantReadEntry(t, text, index, e)
		}
	}
}

func TestEntryTextRefusesWrongEntries(t *testing.T) {
	for _, index := range append(rightIndexes(), wrongIndexes()...) {
		for _, e := range wrongEntries() {
			wantNoEntryText(t, index, e)
		}
	}
}

func TestEntryTextRefusesWrongIndexes(t *testing.T) {
	for _, index := range wrongIndexes() {
		for _, e := range rightEntries() {
			wantNoEntryText(t, index, e)
		}
	}
}

// What can be written of entries and indexes that are none is not read.
func TestReadEntryRefusesWhatIsNotRight(t *testing.T) {
	for _, e := range wrongEntries() {
		if e.Term >= 0 && e.Kind >= 0 && e.Kind < 256 {
			wantNoReadEntry(t, plainEntry(1, e))
		}
	}
	for _, index := range wrongIndexes() {
		for _, e := range rightEntries() {
			if index >= 0 {
				wantNoReadEntry(t, plainEntry(index, e))
			}
		}
	}
}

func TestReadEntryOfEveryKind(t *testing.T) {
	allowed := map[string][]int{"": {1, 3}, "\x02": {2, 3}, "\x01\x04": {2, 3}, "x": {3}, "\x04\x01": {3}, mixedBytes(120): {3}, mixedBytes(121): {}}
	for data, kinds := range allowed {
		for kind := 0; kind < 256; kind++ {
			e := entry(9, kind, data)
			if slices.Contains(kinds, kind) {
				wantReadEntry(t, plainEntry(7, e), 7, e)
			} else {
				wantNoReadEntry(t, plainEntry(7, e))
			}
		}
	}
}

func TestReadEntryOfEveryFirstByte(t *testing.T) {
	for first := 0; first < 256; first++ {
		text := string([]byte{byte(first)}) + "\x03\x02\x03x"
		if first == 69 {
			wantReadEntry(t, text, 3, entry(2, impl.EntryCommand, "x"))
		} else {
			wantNoReadEntry(t, text)
		}
	}
	wantNoReadEntry(t, "\x03\x02\x03x")
	wantNoReadEntry(t, "EE\x03\x02\x03x"+strings.Repeat("y", impl.MaxData))
	wantNoReadEntry(t, " E\x03\x02\x03x")
}

// A command that is cut within its Data is another command; all else that is
// cut is none.
func TestReadEntryOfTextsThatAreCut(t *testing.T) {
	for _, index := range []int{1, 127, 128, 16384, impl.MaxIndex} {
		for _, e := range rightEntries() {
			text := plainEntry(index, e)
			head := len(text) - len(e.Data)
			for cut := 0; cut < head; cut++ {
				wantNoReadEntry(t, text[:cut])
			}
			for cut := head; cut < len(text); cut++ {
				short := entry(e.Term, e.Kind, e.Data[:cut-head])
				if e.Kind == impl.EntryConf && cut == head {
					wantNoReadEntry(t, text[:cut])
				} else {
					wantReadEntry(t, text[:cut], index, short)
				}
			}
		}
	}
}

func TestReadEntryOfTextsWithMore(t *testing.T) {
	wantNoReadEntry(t, "E\x01\x00\x01\x00")
	wantNoReadEntry(t, "E\x01\x00\x01E\x01\x00\x01")
	wantNoReadEntry(t, "E\x01\x00\x02\x01\x02\x03\x04\x00")
	wantNoReadEntry(t, "E\x01\x00\x02\x01\x02\x00")
	wantNoReadEntry(t, "E\x01\x00\x03"+mixedBytes(impl.MaxData)+"x")
	wantNoReadEntry(t, "E\x01\x00\x03"+mixedBytes(70000))
}

// longerNumbers are forms of n that are longer than VarText's.
func longerNumbers(n int) []string {
	short := []byte(plainNumber(n))
	short[len(short)-1] += 128
	forms := []string{}
	for _, noughts := range []string{"\x00", "\x80\x00", "\x80\x80\x00", "\x80\x80\x80\x80\x80\x00", "\x80\x80\x80\x80\x80\x80\x80\x80\x80\x00"} {
		forms = append(forms, string(short)+noughts)
	}
	return forms
}

func TestReadEntryRefusesNumbersThatAreWrittenLonger(t *testing.T) {
	bodies := []string{"\x01", "\x02\x01\x02", "\x03", "\x03x", "\x03\x00\x03\x01"}
	for _, n := range []int{1, 5, 127, 128, 300, 16384, impl.MaxTerm} {
		for _, body := range bodies {
			for _, longer := range longerNumbers(n) {
				wantNoReadEntry(t, "E"+longer+"\x02"+body)
				wantNoReadEntry(t, "E\x02"+longer+body)
			}
		}
	}
	for _, longer := range longerNumbers(0) {
		wantNoReadEntry(t, "E\x02"+longer+"\x01")
		wantNoReadEntry(t, "E\x02"+longer+"\x03x")
	}
}

func TestReadEntryRefusesNumbersThatAreTooGreat(t *testing.T) {
	for _, great := range []string{"\x80\x94\xeb\xdc\x03", "\x81\x94\xeb\xdc\x03", "\xff\xff\xff\xff\x7f", "\x81\x80\x80\x80\x80\x80\x80\x80\x80\x01", "\xff\xff\xff\xff\xff\xff\xff\xff\xff\x01", strings.Repeat("\xff", 100)} {
		wantNoReadEntry(t, "E"+great+"\x02\x03x")
		wantNoReadEntry(t, "E\x02"+great+"\x03x")
	}
}

// plainReadNumber reads a number as plainNumber writes it, up to limit.
func plainReadNumber(text string, limit int) (int, string, bool) {
	for length := 1; length <= 5 && length <= len(text); length++ {
		n := 0
		for at := length - 1; at >= 0; at-- {
			n = n*128 + int(text[at])%128
		}
		if n <= limit && plainNumber(n) == text[:length] {
			return n, text[length:], true
		}
	}
	return 0, "", false
}

// plainReadEntry reads by what each Kind allows, written out.
func plainReadEntry(text string) (int, impl.Entry, bool) {
	if len(text) < 4 || text[0] != 'E' {
		return 0, impl.Entry{}, false
	}
	index, rest, indexOk := plainReadNumber(text[1:], 1000000)
	term, rest, termOk := plainReadNumber(rest, 100000)
	if !indexOk || !termOk || index == 0 || rest == "" {
		return 0, impl.Entry{}, false
	}
	e := entry(term, int(rest[0]), rest[1:])
	_, isConf := rightConfs()[e.Data]
	right := e.Kind == 1 && e.Data == "" || e.Kind == 2 && isConf || e.Kind == 3 && len(e.Data) <= 120
	if !right {
		return 0, impl.Entry{}, false
	}
	return index, e, true
}

// checkReadEntry also holds what is read against what is written of it.
func checkReadEntry(t *testing.T, text string) bool {
	t.Helper()
	index, e, right := plainReadEntry(text)
	if !right {
		wantNoReadEntry(t, text)
		return false
	}
	wantReadEntry(t, text, index, e)
	wantEntryText(t, index, e, text)
	return true
}

func TestReadEntryOfSpoiltTexts(t *testing.T) {
	read := 0
	for _, good := range []string{"E\x01\x00\x01", "E\x7f\x80\x01\x03ab", "E\xc0\x84\x3d\xa0\x8d\x06\x02\x01\x04", "E\x80\x01\xff\x7f\x02\x01\x02\x03\x04", "E\xac\x02\x05\x03"} {
		for at := range len(good) {
			for b := 0; b < 256; b++ {
				one := string([]byte{byte(b)})
				for _, spoilt := range []string{good[:at] + one + good[at+1:], good[:at] + one + good[at:], good + one, good[:at] + good[at+1:]} {
					if checkReadEntry(t, spoilt) {
						read++
					}
				}
			}
		}
	}
	if read < 100 {
		t.Errorf("%d texts alone were read", read)
	}
}

func TestReadEntryOfEveryShortText(t *testing.T) {
	for length := 0; length <= 5; length++ {
		eachList([]int{0, 1, 2, 3, 4, 127, 128, 129}, length, func(list []int) { checkReadEntry(t, "E"+bytesOf(list)) })
	}
}

func wantMost(t *testing.T, conf, list []int, want bool) {
	t.Helper()
	if got := impl.Most(conf, list); got != want {
		t.Errorf("Most(%v, %v) is %v", conf, list, got)
	}
}

func TestMost(t *testing.T) {
	wantMost(t, []int{1}, nil, false)
	wantMost(t, []int{1}, []int{1}, true)
	wantMost(t, []int{1, 2}, []int{1}, false)
	wantMost(t, []int{1, 2}, []int{2}, false)
	wantMost(t, []int{1, 2}, []int{1, 2}, true)
	wantMost(t, []int{1, 2, 3}, []int{2}, false)
	wantMost(t, []int{1, 2, 3}, []int{1, 3}, true)
	wantMost(t, []int{1, 2, 3}, []int{3, 2, 1}, true)
	wantMost(t, []int{1, 2, 3, 4}, []int{2, 4}, false)
	wantMost(t, []int{1, 2, 3, 4}, []int{4, 1, 3}, true)
	wantMost(t, []int{1, 2, 3, 4}, []int{1, 2, 3, 4}, true)
	wantMost(t, []int{2, 3, 4}, []int{}, false)
}

func TestMostCountsANumberOnce(t *testing.T) {
	wantMost(t, []int{1, 2}, []int{1, 1}, false)
	wantMost(t, []int{1, 2, 3}, []int{2, 2, 2, 2}, false)
	wantMost(t, []int{1, 2, 3, 4}, []int{1, 2, 1, 2, 2, 1}, false)
	wantMost(t, []int{1, 2, 3, 4}, []int{1, 2, 1, 4}, true)
	wantMost(t, []int{3}, []int{3, 3}, true)
	wantMost(t, []int{1, 2}, slices.Repeat([]int{2}, 100000), false)
}

func TestMostPassesOverOtherNumbers(t *testing.T) {
	wantMost(t, []int{1, 2}, []int{1, 3, 4}, false)
	wantMost(t, []int{2, 3, 4}, []int{1, 2}, false)
	wantMost(t, []int{4}, []int{1, 2, 3, 5}, false)
	wantMost(t, []int{1, 2, 3}, []int{0, -1, 5, 9, math.MinInt, math.MaxInt, 257, 258, 259}, false)
	wantMost(t, []int{1, 2, 3}, []int{0, 3, -1, 9, 1}, true)
}

func TestMostOfWrongConfs(t *testing.T) {
	for _, conf := range wrongConfs() {
		for _, list := range [][]int{nil, {1}, {1, 2, 3, 4}, {-1, 0, 1, 2, 3, 4, 5}, conf} {
			wantMost(t, conf, list, false)
		}
	}
}

// halfOf counts the members by a mark for each number.
func halfOf(conf, list []int) bool {
	marked := [7]int{}
	for _, number := range list {
		marked[number+1] = 1
	}
	count := 0
	for _, number := range conf {
		count += marked[number+1]
	}
	return count > len(conf)/2
}

func TestMostOfEveryShortList(t *testing.T) {
	for _, conf := range rightConfs() {
		for length := 0; length <= 5; length++ {
			eachList([]int{-1, 0, 1, 2, 3, 4, 5}, length, func(list []int) {
				wantMost(t, conf, list, halfOf(conf, list))
			})
		}
	}
}

// Any two lists that have most of a conf share one of its numbers.
func TestTwoThatAreMostMeet(t *testing.T) {
	for _, conf := range rightConfs() {
		for _, a := range rightConfs() {
			for _, b := range rightConfs() {
				meet := slices.ContainsFunc(a, func(n int) bool { return slices.Contains(b, n) })
				if impl.Most(conf, a) && impl.Most(conf, b) && !meet {
					t.Errorf("%v and %v are most of %v", a, b, conf)
				}
			}
		}
	}
}

func TestEntriesThatAreAnsweredAreNew(t *testing.T) {
	for _, e := range rightEntries() {
		text, ok := impl.EntryText(9, e)
		if !ok || lieTogether(text, e.Data) {
			t.Errorf("the text of %v lies in its Data", e)
		}
		_, back, ok := impl.ReadEntry(text)
		if !ok || lieTogether(back.Data, text) {
			t.Errorf("the Data of %v lies in its text", e)
		}
	}
}

func TestConfsThatAreAnsweredAreNew(t *testing.T) {
	text := "\x01\x02\x04"
	first, _ := impl.ReadConf(text)
	for at := range first {
		first[at] = 9
	}
	first = append(first, 8)
	wantConf(t, []int{1, 2, 4}, text)
	again, _ := impl.ReadConf(text)
	again = append(again[:1], 7, 7, 7)
	if first[0] != 9 || again[0] != 1 {
		t.Error("two answers share a list")
	}
}

func TestConfsAreNotWrittenInto(t *testing.T) {
	room := []int{1, 2, 3, 9, 9, 9}
	conf := room[:3]
	list := []int{3, 3, 1, 9, 9, 9}
	impl.ConfOk(conf)
	impl.ConfText(conf)
	impl.Most(conf, list[:3])
	impl.Most(list[:3], conf)
	if !slices.Equal(room, []int{1, 2, 3, 9, 9, 9}) || !slices.Equal(list, []int{3, 3, 1, 9, 9, 9}) {
		t.Errorf("arguments are %v and %v now", room, list)
	}
}
