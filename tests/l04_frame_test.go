package tests

import (
	"slices"
	"strings"
	"testing"
	"unsafe"

	"loop.example/g00232/impl"
)

// plainLength writes a length below 16384, as VarText does.
func plainLength(length int) string {
	if length <= 127 {
		return string([]byte{byte(length)})
	}
	return string([]byte{byte(length%128 + 128), byte(length / 128)})
}

// plainFrame frames a text of any length, also one that Frame refuses.
func plainFrame(text string) string {
	return plainLength(len(text)) + highestFirst(plainSum(4294967295, text)) + text
}

// framed has the frames of these records, one behind the other.
func framed(records ...string) string {
	file := ""
	for _, record := range records {
		file += plainFrame(record)
	}
	return file
}

func wantFrame(t *testing.T, text, want string) {
	t.Helper()
	if got, ok := impl.Frame(text); !ok || got != want {
		t.Errorf("Frame of %d bytes is %.20q.., %v; want %.20q..", len(text), got, ok, want)
	}
}

func wantUnframe(t *testing.T, file string, behind int, want ...string) {
	t.Helper()
	got, place := impl.Unframe(file)
	if place != behind || !slices.Equal(got, want) {
		t.Errorf("Unframe of %d bytes (%.20q..) is %d records, %d; want %d, %d", len(file), file, len(got), place, len(want), behind)
	}
}

// unlikeRecords have lengths of one byte and of two.
func unlikeRecords() []string {
	return []string{"one", mixedBytes(127), "\x00", mixedBytes(128), "\xff\xff\xff\xff", mixedBytes(200), "z"}
}

func TestFrameLimit(t *testing.T) {
	if impl.MaxRecord != 9000 {
		t.Error("MaxRecord is not 9000")
	}
}

func TestFrameOfFixedTexts(t *testing.T) {
	wantFrame(t, "\x00", "\x01\x81\xa5\xc7\xdc\x00")
	wantFrame(t, "a", "\x01\x9f\x7e\x64\x96a")
	wantFrame(t, "abc", "\x03\xa7\xcd\x0a\x81abc")
	wantFrame(t, "123456789", "\x09\x78\xce\xaa\x89123456789")
	wantFrame(t, "\xff\xff\xff\xff", "\x04\x00\x00\x00\x00\xff\xff\xff\xff")
}

func TestFrameOfEachByte(t *testing.T) {
	for b := 0; b < 256; b++ {
		one := string([]byte{byte(b)})
		wantFrame(t, one, "\x01"+highestFirst(plainSum(4294967295, one))+one)
	}
}

func TestFrameLengths(t *testing.T) {
	lengths := map[int]string{
		1: "\x01", 2: "\x02", 126: "\x7e", 127: "\x7f", 128: "\x80\x01", 129: "\x81\x01",
		255: "\xff\x01", 256: "\x80\x02", 300: "\xac\x02", 8999: "\xa7\x46", impl.MaxRecord: "\xa8\x46",
	}
	for length, written := range lengths {
		text := mixedBytes(length)
		wantFrame(t, text, written+highestFirst(plainSum(4294967295, text))+text)
	}
}

func TestFrameRefuses(t *testing.T) {
	for _, length := range []int{0, impl.MaxRecord + 1, impl.MaxText, impl.MaxText + 1, 70000} {
		if got, ok := impl.Frame(strings.Repeat("x", length)); ok || got != "" {
			t.Errorf("Frame of %d bytes is %d bytes, %v; want none", length, len(got), ok)
		}
	}
}

func TestFramesComeBack(t *testing.T) {
	for _, length := range []int{1, 2, 3, 126, 127, 128, 129, 255, 256, 4000, impl.MaxRecord - 1, impl.MaxRecord} {
		for _, text := range []string{mixedBytes(length), strings.Repeat("\x00", length), strings.Repeat("\xff", length)} {
			frame, ok := impl.Frame(text)
			if !ok {
				t.Fatalf("Frame of %d bytes is false", length)
			}
			wantUnframe(t, frame, len(frame), text)
			wantUnframe(t, frame+frame, 2*len(frame), text, text)
		}
	}
}

func TestUnframeOfNothing(t *testing.T) {
	wantUnframe(t, "", 0)
}

func TestUnframeOfSeveral(t *testing.T) {
	file, records := "", []string{}
	for _, record := range unlikeRecords() {
		frame, ok := impl.Frame(record)
		if !ok {
			t.Fatalf("Frame of %d bytes is false", len(record))
		}
		file += frame
		records = append(records, record)
		wantUnframe(t, file, len(file), records...)
	}
}

// A frame that is a record is not looked into.
func TestUnframeOfFramesInAFrame(t *testing.T) {
	inner := framed("one", "two")
	file := framed(inner, "three")
	wantUnframe(t, file, len(file), inner, "three")
}

func TestUnframeOfFilesThatAreCut(t *testing.T) {
	records := unlikeRecords()
	file := framed(records...)
	whole, behind := 0, 0
	for cut := 0; cut <= len(file); cut++ {
		if whole < len(records) && cut == behind+len(plainFrame(records[whole])) {
			whole, behind = whole+1, cut
		}
		wantUnframe(t, file[:cut], behind, records[:whole]...)
	}
	if whole != len(records) {
		t.Error("not every frame was met")
	}
}

func TestUnframeOfTheLongestThatIsCut(t *testing.T) {
	ahead := framed("one", "two")
	frame := plainFrame(mixedBytes(impl.MaxRecord))
	for _, cut := range []int{0, 1, 2, 3, 5, 6, 7, impl.MaxRecord / 2, len(frame) - 2, len(frame) - 1} {
		wantUnframe(t, ahead+frame[:cut], len(ahead), "one", "two")
	}
	wantUnframe(t, ahead+frame, len(ahead)+len(frame), "one", "two", mixedBytes(impl.MaxRecord))
}

// What the power leaves of a file of frames tells a beginning of its records.
func TestUnframeOfWhatThePowerLeaves(t *testing.T) {
	kept, added := framed("one", "two"), framed("three", mixedBytes(130))
	records := []string{"one", "two", "three", mixedBytes(130)}
	d := diskOf(file("j", kept, len(kept)))
	for left := -1; left <= len(kept)+len(added)+1; left++ {
		cut, ok := impl.CutActs(d, []impl.Act{adds("j", added)}, 1, []int{left})
		text, there := impl.FileAt(cut, "j")
		got, behind := impl.Unframe(text)
		if !ok || !there || len(got) < 2 || len(got) > 4 || !slices.Equal(got, records[:len(got)]) {
			t.Fatalf("of %d bytes that are left %d records come", left, len(got))
		}
		if behind != len(framed(got...)) {
			t.Errorf("of %d bytes that are left the place is %d", left, behind)
		}
	}
}

// checkTurnedFrame turns each byte of the frame of records[which] that is not
// of its length, to each other value.
func checkTurnedFrame(t *testing.T, records []string, which int) {
	t.Helper()
	file := framed(records...)
	start := len(framed(records[:which]...))
	end := len(framed(records[:which+1]...))
	for at := start + len(plainLength(len(records[which]))); at < end; at++ {
		turned := []byte(file)
		for b := 0; b < 256; b++ {
			if byte(b) == file[at] {
				continue
			}
			turned[at] = byte(b)
			wantUnframe(t, string(turned), start, records[:which]...)
		}
	}
}

func TestUnframeOfTurnedBytes(t *testing.T) {
	records := []string{"first", "\x00", mixedBytes(128), "second", "last"}
	for which := range records {
		checkTurnedFrame(t, records, which)
	}
	checkTurnedFrame(t, []string{"alone"}, 0)
}

func TestUnframeOfTheLongestThatIsTurned(t *testing.T) {
	frame := plainFrame(mixedBytes(impl.MaxRecord))
	for _, at := range []int{2, 5, 6, 7, impl.MaxRecord / 2, len(frame) - 1} {
		turned := []byte(frame)
		turned[at] ^= 1
		wantUnframe(t, framed("one")+string(turned)+framed("two"), len(framed("one")), "one")
	}
}

// wantTorn lays what is no frame alone, ahead of frames, between and behind.
func wantTorn(t *testing.T, torn string) {
	t.Helper()
	ahead, behind := framed("one", "two"), framed("three", "four")
	wantUnframe(t, torn, 0)
	wantUnframe(t, torn+behind, 0)
	wantUnframe(t, ahead+torn, len(ahead), "one", "two")
	wantUnframe(t, ahead+torn+behind, len(ahead), "one", "two")
}

func TestUnframeOfLengthsThatAreWrittenLonger(t *testing.T) {
	for _, text := range []string{"a", "abc", mixedBytes(127), mixedBytes(128), mixedBytes(impl.MaxRecord)} {
		length := []byte(plainLength(len(text)))
		rest := plainFrame(text)[len(length):]
		length[len(length)-1] += 128
		for _, noughts := range []string{"\x00", "\x80\x00", "\x80\x80\x00", "\x80\x80\x80\x80\x80\x80\x00"} {
			wantTorn(t, string(length)+noughts+rest)
		}
	}
}

func TestUnframeOfALengthOfNought(t *testing.T) {
	wantTorn(t, plainFrame(""))
	wantTorn(t, "\x80\x00\xff\xff\xff\xff")
	wantTorn(t, "\x00\x00\x00\x00\x00")
	wantTorn(t, strings.Repeat("\x00", 300))
}

func TestUnframeOfLengthsAboveMaxRecord(t *testing.T) {
	for _, length := range []int{impl.MaxRecord + 1, impl.MaxRecord + 2, 16000} {
		wantTorn(t, plainFrame(mixedBytes(length)))
	}
	longest := mixedBytes(impl.MaxRecord)
	wantUnframe(t, plainFrame(longest), 2+4+impl.MaxRecord, longest)
}

// In these the sum is that of the bytes that there are.
func TestUnframeOfLengthsThatReachBeyondTheFile(t *testing.T) {
	for _, text := range []string{"", "a", "abc", mixedBytes(127), mixedBytes(300)} {
		sum := highestFirst(plainSum(4294967295, text))
		for _, length := range []int{len(text) + 1, len(text) + 2, len(text) + 5, impl.MaxRecord} {
			wantUnframe(t, plainLength(length)+sum+text, 0)
			wantUnframe(t, framed("one")+plainLength(length)+sum+text, len(framed("one")), "one")
		}
		for _, length := range []string{"\x80\x94\xeb\xdc\x03", "\x81\x94\xeb\xdc\x03", "\xff\xff\xff\xff\xff\xff\xff\xff\x7f", "\xff\xff\xff\xff\xff\xff\xff\xff\xff\x01"} {
			wantTorn(t, length+sum+text)
		}
	}
}

func TestUnframeOfOtherForms(t *testing.T) {
	lowestFirst := "\x03\x81\x0a\xcd\xa7abc"
	sumBehind := "\x03abc\xa7\xcd\x0a\x81"
	sumAhead := "\xa7\xcd\x0a\x81\x03abc"
	sumOfAll := "\x03" + highestFirst(plainSum(4294967295, "\x03abc")) + "abc"
	fromNought := "\x03" + highestFirst(plainSum(0, "abc")) + "abc"
	turnedRound := "\x03" + highestFirst(^plainSum(4294967295, "abc")) + "abc"
	withoutSum := "\x03abc"
	lengthOfAll := "\x07\xa7\xcd\x0a\x81abc"
	for _, other := range []string{lowestFirst, sumBehind, sumAhead, sumOfAll, fromNought, turnedRound, withoutSum, lengthOfAll} {
		wantTorn(t, other)
	}
}

func TestUnframeOfAFileOfMaxText(t *testing.T) {
	full, rest := mixedBytes(impl.MaxRecord), mixedBytes(impl.MaxText-2*(6+impl.MaxRecord)-6)
	file := framed(full, full, rest)
	if len(file) != impl.MaxText {
		t.Fatalf("the file has %d bytes", len(file))
	}
	wantUnframe(t, file, impl.MaxText, full, full, rest)
	wantUnframe(t, file+"\x00", 0)
	wantUnframe(t, framed(full, full, rest+"x"), 0)
	wantUnframe(t, framed("one")+strings.Repeat("\x00", impl.MaxText), 0)
	wantUnframe(t, framed("one")+strings.Repeat("\x00", impl.MaxText-8), 8, "one")
	wantUnframe(t, strings.Repeat(framed("one"), 10000), 0)
}

func TestUnframeOfManyFrames(t *testing.T) {
	frame := framed("a")
	count := impl.MaxText / len(frame)
	records := slices.Repeat([]string{"a"}, count)
	wantUnframe(t, strings.Repeat(frame, count), count*len(frame), records...)
	wantUnframe(t, strings.Repeat(frame, count)+frame[:impl.MaxText%len(frame)], count*len(frame), records...)
	wantUnframe(t, strings.Repeat(frame, count+1), 0)
}

// plainRecords tries each length at each place.
func plainRecords(file string) ([]string, int) {
	records, at := []string{}, 0
	for length := 1; length <= impl.MaxRecord; length++ {
		start := at + len(plainLength(length)) + 4
		if start+length > len(file) {
			break
		}
		// The length alone is held first, since sums take long.
		frameHere := strings.HasPrefix(file[at:], plainLength(length)) &&
			file[at:start+length] == plainFrame(file[start:start+length])
		if frameHere {
			records = append(records, file[start:start+length])
			at, length = start+length, 0
		}
	}
	return records, at
}

func TestUnframeOfSpoiltFiles(t *testing.T) {
	good := framed("one", "\x00", mixedBytes(130), "two", "last")
	for at := 0; at < len(good); at++ {
		for b := 0; b < 256; b += 5 {
			one := string([]byte{byte(b)})
			for _, spoilt := range []string{good[:at] + one + good[at+1:], good[:at] + one + good[at:], good[:at] + good[at+1:], good[at:]} {
				want, behind := plainRecords(spoilt)
				wantUnframe(t, spoilt, behind, want...)
			}
		}
	}
}

func TestUnframeOfDrawnBytes(t *testing.T) {
	for length := 0; length < 400; length++ {
		drawn := mixedBytes(length)
		want, behind := plainRecords(drawn)
		wantUnframe(t, drawn, behind, want...)
	}
}

// lieTogether tells whether a byte of one text lies where one of the other does.
func lieTogether(a, b string) bool {
	if a == "" || b == "" {
		return false
	}
	aStart, bStart := uintptr(unsafe.Pointer(unsafe.StringData(a))), uintptr(unsafe.Pointer(unsafe.StringData(b)))
	return aStart < bStart+uintptr(len(b)) && bStart < aStart+uintptr(len(a))
}

func TestFramesThatAreAnsweredAreNew(t *testing.T) {
	for _, text := range unlikeRecords() {
		if frame, ok := impl.Frame(text); !ok || lieTogether(frame, text) {
			t.Errorf("the frame of %d bytes lies in its text", len(text))
		}
	}
	file := framed(mixedBytes(40), mixedBytes(300), mixedBytes(60))
	records, _ := impl.Unframe(file)
	for at, record := range records {
		if lieTogether(record, file) {
			t.Errorf("record %d lies in the file", at)
		}
	}
}

func TestRecordsThatAreAnsweredAreNew(t *testing.T) {
	file := framed("one", "two", "three")
	first, _ := impl.Unframe(file)
	for at := range first {
		first[at] = "other"
	}
	first = append(first, "more")
	wantUnframe(t, file, len(file), "one", "two", "three")
	again, _ := impl.Unframe(file)
	again = append(again[:1], "x", "y", "z")
	if first[0] != "other" || again[0] != "one" {
		t.Error("two answers share a list")
	}
}
