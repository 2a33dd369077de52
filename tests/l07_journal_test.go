package tests

import (
	"math"
	"slices"
	"strconv"
	"strings"
	"testing"

	"loop.example/g00232/impl"
)

func journal(number, term, vote int, l impl.Log) impl.Journal {
	return impl.Journal{Number: number, Term: term, Vote: vote, Log: l}
}

func sameJournal(a, b impl.Journal) bool {
	return a.Number == b.Number && a.Term == b.Term && a.Vote == b.Vote && sameLog(a.Log, b.Log)
}

func isZeroJournal(j impl.Journal) bool { return sameJournal(j, impl.Journal{}) }

// The records of a journal, also of one that is not right.
func beginOf(start, term int) string { return "B" + plainNumber(start) + plainNumber(term) }

func headOf(term, vote int) string { return "H" + plainNumber(term) + plainNumber(vote) }

func entriesOf(l impl.Log) []string {
	records := []string{}
	for at, e := range l.Entries {
		records = append(records, plainEntry(l.Start+1+at, e))
	}
	return records
}

func recordsOf(j impl.Journal) []string {
	return append([]string{beginOf(j.Log.Start, j.Log.StartTerm), headOf(j.Term, j.Vote)}, entriesOf(j.Log)...)
}

func plainJournal(j impl.Journal) string { return framed(recordsOf(j)...) }

// fiveJournal has entries of every Kind.
func fiveJournal() impl.Journal { return journal(7, 9, 3, fiveEntries()) }

func longestJournal() impl.Journal {
	list := []impl.Entry{}
	for range impl.MaxLog {
		list = append(list, command(impl.MaxTerm, mixedBytes(impl.MaxData)))
	}
	return journal(impl.MaxSegment, impl.MaxTerm, impl.MaxNodes, logOf(impl.MaxIndex-impl.MaxLog, impl.MaxTerm, list...))
}

func rightJournals() []impl.Journal {
	list := []impl.Journal{
		{}, fiveJournal(), longestJournal(), journal(0, 0, 0, logOf(0, 0, none(0))), journal(impl.MaxSegment, 0, 0, impl.Log{}), journal(impl.MaxSegment-1, 1, 1, impl.Log{}),
		journal(0, impl.MaxTerm, 0, impl.Log{}), journal(0, impl.MaxTerm-1, 0, impl.Log{}), journal(0, 0, impl.MaxNodes, impl.Log{}), journal(1, 1, impl.MaxNodes-1, impl.Log{}),
		journal(3, 0, 0, logOf(0, 5, none(6))), journal(3, 127, 1, logOf(127, 128)), journal(3, 128, 2, logOf(128, 127)), journal(3, 16383, 2, logOf(16384, 16383)),
	}
	for at, l := range rightLogs() {
		list = append(list, journal(at, 3*at, at%5, l))
	}
	return list
}

func wrongJournals() []impl.Journal {
	list := []impl.Journal{}
	for _, wrong := range []int{-1, -2, math.MinInt, math.MaxInt, 1 << 32, impl.MaxNumber} {
		list = append(list, journal(wrong, 1, 1, impl.Log{}), journal(1, wrong, 1, impl.Log{}), journal(1, 1, wrong, impl.Log{}))
	}
	list = append(list, journal(1000, 1, 1, fiveEntries()), journal(1, 100001, 1, fiveEntries()), journal(1, 1, 5, fiveEntries()))
	for _, l := range wrongLogs() {
		list = append(list, journal(0, 0, 0, l), journal(5, 6, 4, l))
	}
	return list
}

func TestJournalLimits(t *testing.T) {
	if impl.MaxSegment != 999 || impl.SegBytes != 400 || impl.NameNew != "j+" {
		t.Error("a limit of journals is another one")
	}
}

func TestJournalNames(t *testing.T) {
	for n := range 1000 {
		if got := impl.JournalName(n); got != "j"+strconv.Itoa(n) {
			t.Errorf("JournalName(%d) = %q", n, got)
		}
	}
	for _, n := range []int{-1, -2, -999, 1000, 1001, 9999, impl.MaxNumber, 1 << 32, math.MinInt, math.MaxInt} {
		if got := impl.JournalName(n); got != "" {
			t.Errorf("JournalName(%d) = %q; want none", n, got)
		}
	}
}

func TestJournalOk(t *testing.T) {
	for _, j := range rightJournals() {
		if !impl.JournalOk(j) {
			t.Errorf("JournalOk(%v) is false", j)
		}
	}
	for _, j := range wrongJournals() {
		if impl.JournalOk(j) {
			t.Errorf("JournalOk(%v) is true", j)
		}
	}
}

func TestJournalOkAtEachLimit(t *testing.T) {
	limits := []int{-1, 0, 1, 4, 5, 998, 999, 1000, 99999, 100000, 100001}
	eachList(limits, 3, func(list []int) {
		want := slices.Min(list) >= 0 && list[0] <= 999 && list[1] <= 100000 && list[2] <= 4
		if got := impl.JournalOk(journal(list[0], list[1], list[2], fiveEntries())); got != want {
			t.Errorf("JournalOk of the numbers %v is %v", list, got)
		}
	})
}

func wantJournalText(t *testing.T, j impl.Journal, want string) {
	t.Helper()
	if got, ok := impl.JournalText(j); !ok || got != want {
		t.Errorf("JournalText(%v) = %.80q, %v; want %.80q", j, got, ok, want)
	}
}

func TestJournalTextOfFixedJournals(t *testing.T) {
	wantJournalText(t, impl.Journal{}, "\x03\x81\xd3\xbb\x25B\x00\x00\x03\x10\x5b\x01\xb6H\x00\x00")
	begin, head := plainFrame("B\x00\x00"), plainFrame("H\x02\x03")
	wantJournalText(t, journal(0, 2, 3, impl.Log{}), begin+head)
	wantJournalText(t, journal(999, 2, 3, impl.Log{}), begin+head)
	wantJournalText(t, journal(4, 2, 3, logOf(0, 0, command(1, "x"))), begin+head+plainFrame("E\x01\x01\x03x"))
	wantJournalText(t, journal(4, 300, 0, logOf(200, 1, none(1), conf(2, "\x01\x04"))),
		plainFrame("B\xc8\x01\x01")+plainFrame("H\xac\x02\x00")+plainFrame("E\xc9\x01\x01\x01")+plainFrame("E\xca\x01\x02\x02\x01\x04"))
}

func TestJournalTextOfEveryRightJournal(t *testing.T) {
	for _, j := range rightJournals() {
		wantJournalText(t, j, plainJournal(j))
	}
}

func TestJournalTextOfWrongJournals(t *testing.T) {
	for _, j := range wrongJournals() {
		if got, ok := impl.JournalText(j); got != "" || ok {
			t.Errorf("JournalText(%v) = %.80q, %v; want none", j, got, ok)
		}
	}
}

// The limits of a log keep the longest text below MaxText.
func TestJournalTextOfTheLongestJournal(t *testing.T) {
	const begin, head, each = 12, 10, 134
	text, ok := impl.JournalText(longestJournal())
	if !ok || len(text) != begin+head+impl.MaxLog*each || len(text) > impl.MaxText {
		t.Errorf("the longest text is of %d bytes, %v", len(text), ok)
	}
}

func wantReadJournal(t *testing.T, text string, behind int, want impl.Journal) {
	t.Helper()
	got, place, ok := impl.ReadJournal(want.Number, text)
	if !ok || place != behind || !sameJournal(got, want) {
		t.Errorf("ReadJournal of %d bytes is %v, %d, %v; want %v, %d", len(text), got, place, ok, want, behind)
	}
}

func wantNoReadJournal(t *testing.T, n int, text string) {
	t.Helper()
	if got, place, ok := impl.ReadJournal(n, text); ok || place != 0 || !isZeroJournal(got) {
		t.Errorf("ReadJournal of %d and %.80q is %v, %d, %v; want none", n, text, got, place, ok)
	}
}

func TestJournalsAreReadBack(t *testing.T) {
	for _, j := range rightJournals() {
		text, ok := impl.JournalText(j)
		if !ok {
			t.Fatalf("%v has no text", j)
		}
		wantReadJournal(t, text, len(text), j)
	}
}

func TestReadJournalOfEachNumber(t *testing.T) {
	j := fiveJournal()
	text := plainJournal(j)
	for n := range 1000 {
		j.Number = n
		wantReadJournal(t, text, len(text), j)
	}
	for _, n := range []int{-1, -2, 1000, 1001, impl.MaxNumber, math.MinInt, math.MaxInt} {
		wantNoReadJournal(t, n, text)
		wantNoReadJournal(t, n, "")
	}
}

func TestReadJournalWithoutABeginning(t *testing.T) {
	begin, head, five := beginOf(0, 0), headOf(1, 1), plainEntry(1, none(1))
	wantNoReadJournal(t, 0, "")
	wantNoReadJournal(t, 0, "B\x00\x00")
	wantNoReadJournal(t, 0, "torn")
	wantNoReadJournal(t, 0, framed(head))
	wantNoReadJournal(t, 0, framed(head, begin, five))
	wantNoReadJournal(t, 0, framed(five, begin, head))
	wantNoReadJournal(t, 0, framed("b\x00\x00", head))
	wantNoReadJournal(t, 0, framed("x", begin))
	wantNoReadJournal(t, 0, "x"+framed(begin, head))
	frame := plainFrame(begin)
	for cut := range len(frame) {
		wantNoReadJournal(t, 0, frame[:cut])
		turned := []byte(frame)
		turned[cut] ^= 4
		wantNoReadJournal(t, 0, string(turned)+framed(head))
	}
}

func TestReadJournalOfAWrongBeginning(t *testing.T) {
	for _, begin := range []string{
		"", "B", "B\x00", "B\x80", "B\x00\x80", "B\x00\x00\x00", "B\x00\x00x", "B\x00\x00\x80", "BB\x00\x00", " B\x00\x00",
		"B\x80\x00\x00", "B\x00\x80\x00", "B\x81\x00\x00", "B\x01\x81\x80\x00", "B\xff\xff\xff\xff\x7f\x00",
		beginOf(1000001, 0), beginOf(0, 100001), beginOf(impl.MaxNumber, 0), beginOf(0, impl.MaxNumber), beginOf(impl.MaxNumber+1, 0), beginOf(1<<33, 0),
	} {
		wantNoReadJournal(t, 0, framed(begin))
		wantNoReadJournal(t, 0, framed(begin, headOf(1, 1)))
		wantNoReadJournal(t, 0, framed(begin, beginOf(0, 0), headOf(1, 1)))
	}
	for _, begin := range [][2]int{{0, 0}, {1000000, 0}, {0, 100000}, {1000000, 100000}, {999999, 99999}, {127, 128}, {16384, 16383}} {
		text := framed(beginOf(begin[0], begin[1]))
		wantReadJournal(t, text, len(text), journal(0, 0, 0, logOf(begin[0], begin[1])))
	}
}

// wantRead reads frames behind a beginning of Start 10 and StartTerm 2: the
// first few are good, what stands behind them is not looked at.
func wantRead(t *testing.T, term, vote int, entries []impl.Entry, good int, records ...string) {
	t.Helper()
	begin := beginOf(10, 2)
	text := framed(append([]string{begin}, records...)...)
	wantReadJournal(t, text, len(framed(append([]string{begin}, records[:good]...)...)), journal(5, term, vote, logOf(10, 2, entries...)))
}

func TestReadJournalOfHeads(t *testing.T) {
	a := plainEntry(11, none(2))
	one := []impl.Entry{none(2)}
	wantRead(t, 0, 0, nil, 0)
	wantRead(t, 0, 0, one, 1, a)
	wantRead(t, 3, 1, one, 2, a, headOf(3, 1))
	wantRead(t, 3, 1, one, 2, headOf(3, 1), a)
	wantRead(t, 4, 2, one, 3, headOf(3, 1), a, headOf(4, 2))
	wantRead(t, 4, 2, nil, 2, headOf(3, 1), headOf(4, 2))
	wantRead(t, 1, 0, nil, 2, headOf(3, 4), headOf(1, 0))
	wantRead(t, 0, 0, nil, 2, headOf(3, 4), headOf(0, 0))
	wantRead(t, 3, 4, nil, 2, headOf(3, 4), headOf(3, 4))
	wantRead(t, 100000, 4, nil, 1, headOf(100000, 4))
}

func TestReadJournalStopsAtAWrongRecord(t *testing.T) {
	a, b := plainEntry(11, none(2)), plainEntry(12, none(3))
	for _, wrong := range []string{
		"H", "H\x00", "H\x00\x80", "H\x00\x00\x00", "H\x03\x01x", "H\x80\x00\x00", "H\x03\x81\x00", "h\x03\x01", "HH\x03\x01", "H\xff\xff\xff\xff\x7f\x01",
		headOf(100001, 1), headOf(1, 5), headOf(impl.MaxNumber, 0), headOf(0, impl.MaxNumber), headOf(impl.MaxNumber+1, 0),
		beginOf(10, 2), beginOf(0, 0), beginOf(12, 3), "x", "\x00", "E", "E\x0c", "J", a + "x", "x" + a, mixedBytes(9000),
	} {
		wantRead(t, 0, 0, nil, 0, wrong)
		wantRead(t, 0, 0, nil, 0, wrong, headOf(3, 1), a, b)
		wantRead(t, 3, 1, nil, 1, headOf(3, 1), wrong, headOf(4, 2))
		wantRead(t, 3, 1, noneOf(2), 2, headOf(3, 1), a, wrong, headOf(4, 2), b)
		wantRead(t, 3, 1, noneOf(2, 3), 3, headOf(3, 1), a, b, wrong)
	}
}

func TestReadJournalOfEntries(t *testing.T) {
	a, b, c := plainEntry(11, none(2)), plainEntry(12, command(4, "b")), plainEntry(13, command(4, "c"))
	abc := []impl.Entry{none(2), command(4, "b"), command(4, "c")}
	wantRead(t, 0, 0, abc, 3, a, b, c)
	wantRead(t, 0, 0, abc[:1], 4, a, b, c, a)
	wantRead(t, 0, 0, abc, 6, a, b, c, a, b, c)
	wantRead(t, 0, 0, append(slices.Clone(abc[:1]), none(3)), 4, a, b, c, plainEntry(12, none(3)))
	wantRead(t, 0, 0, append(slices.Clone(abc[:2]), none(9)), 4, a, b, c, plainEntry(13, none(9)))
	wantRead(t, 0, 0, append(slices.Clone(abc), none(9)), 4, a, b, c, plainEntry(14, none(9)))
	for _, wrong := range []string{
		plainEntry(15, none(9)), plainEntry(16, none(9)), plainEntry(1000000, none(9)), plainEntry(10, none(9)), plainEntry(9, none(9)), plainEntry(1, none(9)), plainEntry(0, none(9)),
		plainEntry(14, none(3)), plainEntry(13, none(3)), plainEntry(12, none(1)), plainEntry(11, none(1)), plainEntry(14, none(100001)),
		plainEntry(14, command(4, mixedBytes(121))), plainEntry(14, entry(4, 4, "")), plainEntry(14, entry(4, 0, "")), plainEntry(14, conf(4, "\x02\x01")), plainEntry(14, entry(4, 1, "x")),
	} {
		wantRead(t, 0, 0, abc, 3, a, b, c, wrong)
		wantRead(t, 0, 0, abc, 3, a, b, c, wrong, plainEntry(14, none(9)), headOf(3, 1))
		wantRead(t, 3, 4, abc, 4, headOf(3, 4), a, b, c, wrong, a, headOf(5, 1))
	}
	wantRead(t, 0, 0, nil, 0, b, c)
	wantRead(t, 0, 0, abc[:1], 1, a, c, b)
}

func TestReadJournalOfMoreThanALogHolds(t *testing.T) {
	full := journal(1, 5, 2, logOf(3, 1, unlikeEntries(impl.MaxLog, 2)...))
	text := plainJournal(full)
	wantReadJournal(t, text+framed(plainEntry(64, none(2)), headOf(6, 0)), len(text), full)
	short := full
	short.Log.Entries = append(slices.Clone(full.Log.Entries[:impl.MaxLog-1]), none(3))
	again := text + framed(plainEntry(63, none(3)))
	wantReadJournal(t, again, len(again), short)
	last := journal(1, 0, 0, logOf(1000000, 1))
	wantReadJournal(t, plainJournal(last)+framed(plainEntry(1000001, none(1))), len(plainJournal(last)), last)
}

// A file of MaxText bytes, nearly all of which are heads.
func TestReadJournalOfTheLongestFile(t *testing.T) {
	text := framed(beginOf(0, 0))
	for len(text)+8 <= impl.MaxText {
		text += framed(headOf(len(text)/200, len(text)%5))
	}
	j, whole, ok := impl.ReadJournal(3, text)
	if !ok || whole != len(text) || j.Term == 0 {
		t.Fatalf("of %d bytes %d are read, %v", len(text), whole, ok)
	}
	full := text + strings.Repeat("\x00", impl.MaxText-len(text))
	wantReadJournal(t, full, whole, j)
	wantNoReadJournal(t, 3, full+"\x00")
	wantNoReadJournal(t, 3, full+framed(headOf(1, 1)))
}

// A journal that is cut has what its whole frames tell.
func TestReadJournalOfEveryCut(t *testing.T) {
	j := fiveJournal()
	records := recordsOf(j)
	text := framed(records...)
	for cut := range len(text) + 1 {
		whole := 0
		for whole < len(records) && len(framed(records[:whole+1]...)) <= cut {
			whole++
		}
		if whole == 0 {
			wantNoReadJournal(t, 7, text[:cut])
			continue
		}
		want := journal(7, 0, 0, logOf(10, 2))
		if whole > 1 {
			want.Term, want.Vote = 9, 3
			want.Log.Entries = j.Log.Entries[:whole-2]
		}
		wantReadJournal(t, text[:cut], len(framed(records[:whole]...)), want)
	}
}

// A frame that is spoilt ends what is read, though whole ones stand behind it.
func TestReadJournalOfASpoiltByte(t *testing.T) {
	j := fiveJournal()
	records := recordsOf(j)
	text := framed(records...)
	for spoilt := range records {
		start, end := len(framed(records[:spoilt]...)), len(framed(records[:spoilt+1]...))
		want, _, _ := impl.ReadJournal(7, text[:start])
		for at := start + 1; at < end; at++ {
			turned := []byte(text)
			turned[at] ^= 0x21
			if spoilt == 0 {
				wantNoReadJournal(t, 7, string(turned))
			} else {
				wantReadJournal(t, string(turned), start, want)
			}
		}
	}
}

// plainReadJournal goes by the chapter's words, with a map in the log's place.
func plainReadJournal(n int, text string) (impl.Journal, int, bool) {
	records, _ := plainRecords(text)
	if n < 0 || n > 999 || len(text) > 20000 || len(records) == 0 {
		return impl.Journal{}, 0, false
	}
	start, startTerm, ok := plainPair("B", records[0], 1000000, 100000)
	if !ok {
		return impl.Journal{}, 0, false
	}
	j := journal(n, 0, 0, logOf(start, startTerm))
	behind := len(plainFrame(records[0]))
	for _, record := range records[1:] {
		term, vote, head := plainPair("H", record, 100000, 4)
		index, e, isEntry := plainReadEntry(record)
		place := index - start - 1
		if head {
			j.Term, j.Vote = term, vote
		} else if isEntry && place >= 0 && place <= len(j.Log.Entries) && place < 60 && start+1+place <= 1000000 && e.Term >= impl.LogTerm(j.Log, index-1) {
			j.Log.Entries = append(slices.Clone(j.Log.Entries[:place]), e)
		} else {
			break
		}
		behind += len(plainFrame(record))
	}
	return j, behind, true
}

func plainPair(mark, record string, firstLimit, secondLimit int) (int, int, bool) {
	if !strings.HasPrefix(record, mark) {
		return 0, 0, false
	}
	first, rest, ok := plainReadNumber(record[1:], firstLimit)
	if !ok {
		return 0, 0, false
	}
	second, rest, ok := plainReadNumber(rest, secondLimit)
	return first, second, ok && rest == ""
}

func TestReadJournalOfEveryFewRecords(t *testing.T) {
	records := []string{
		beginOf(0, 0), beginOf(1, 1), "B\x00", headOf(1, 2), headOf(2, 5),
		plainEntry(1, none(0)), plainEntry(1, none(1)), plainEntry(2, none(1)), plainEntry(2, command(2, "x")), plainEntry(3, none(1)), "x",
	}
	places := []int{}
	for at := range records {
		places = append(places, at)
	}
	for length := range 6 {
		eachList(places, length, func(picks []int) {
			text := ""
			for _, pick := range picks {
				text += plainFrame(records[pick])
			}
			want, behind, there := plainReadJournal(length, text)
			got, place, ok := impl.ReadJournal(length, text)
			if ok != there || place != behind || !sameJournal(got, want) {
				t.Fatalf("ReadJournal(%q) = %v, %d, %v; want %v, %d, %v", text, got, place, ok, want, behind, there)
			}
		})
	}
}

// kept is a file all of which is kept.
func kept(name, text string) impl.File { return file(name, text, len(text)) }

// journalDisk has the file of a journal between two that are none.
func journalDisk(j impl.Journal) impl.Disk {
	return diskOf(kept("a", "12"), kept("j"+strconv.Itoa(j.Number), plainJournal(j)), kept("s0", "34"))
}

func wantJournalActs(t *testing.T, d impl.Disk, old, now, then impl.Journal, want ...impl.Act) {
	t.Helper()
	acts, j, ok := impl.JournalActs(d, old, now)
	if !ok || !slices.Equal(acts, want) || !sameJournal(j, then) {
		t.Errorf("JournalActs from %v to %v is %v, %v, %v; want %v, %v", old, now, acts, j, ok, want, then)
	}
}

func wantNoJournalActs(t *testing.T, d impl.Disk, old, now impl.Journal) {
	t.Helper()
	if acts, j, ok := impl.JournalActs(d, old, now); ok || len(acts) != 0 || !isZeroJournal(j) {
		t.Errorf("JournalActs on %v from %v to %v is %v, %v, %v; want none", d, old, now, acts, j, ok)
	}
}

// wantAdded wants the records added to the file of old.
func wantAdded(t *testing.T, old, now impl.Journal, records ...string) {
	t.Helper()
	name := "j" + strconv.Itoa(old.Number)
	then := journal(old.Number, now.Term, now.Vote, now.Log)
	wantJournalActs(t, journalDisk(old), old, now, then, adds(name, framed(records...)), keeps(name))
}

func wantNothingAdded(t *testing.T, old, now impl.Journal) {
	t.Helper()
	wantJournalActs(t, journalDisk(old), old, now, journal(old.Number, now.Term, now.Vote, now.Log))
}

// newFile has the acts of a file that is begun anew.
func newFile(n int, then impl.Journal) []impl.Act {
	to := "j" + strconv.Itoa(then.Number)
	return []impl.Act{adds("j+", plainJournal(then)), keeps("j+"), moves("j+", to), drops("j" + strconv.Itoa(n))}
}

func wantNewFile(t *testing.T, d impl.Disk, old, now impl.Journal) {
	t.Helper()
	then := journal(old.Number+1, now.Term, now.Vote, now.Log)
	wantJournalActs(t, d, old, now, then, newFile(old.Number, then)...)
}

func TestJournalActsOfTheSame(t *testing.T) {
	for _, j := range rightJournals() {
		if len(plainJournal(j)) <= impl.SegBytes {
			wantNothingAdded(t, j, j)
		}
	}
}

// The Number of the journal that is to come says nothing.
func TestJournalActsOfAnyRightNumber(t *testing.T) {
	old, now := fiveJournal(), fiveJournal()
	for _, now.Number = range []int{0, 1, 6, 7, 8, 500, 998, 999} {
		wantNothingAdded(t, old, now)
		now.Vote = 1
		wantAdded(t, old, now, headOf(9, 1))
		now.Vote = 3
		shorter := now
		shorter.Log = fiveEntries()
		shorter.Log.Entries = shorter.Log.Entries[:2]
		wantNewFile(t, journalDisk(old), old, shorter)
	}
}

func TestJournalActsOfAHead(t *testing.T) {
	old := fiveJournal()
	for _, head := range [][2]int{{9, 0}, {9, 2}, {9, 4}, {10, 3}, {8, 3}, {0, 3}, {0, 0}, {100000, 4}, {10, 0}} {
		now := journal(7, head[0], head[1], fiveEntries())
		wantAdded(t, old, now, headOf(head[0], head[1]))
	}
	wantAdded(t, impl.Journal{}, journal(0, 0, 1, impl.Log{}), headOf(0, 1))
}

func TestJournalActsOfEntries(t *testing.T) {
	old, l := fiveJournal(), fiveEntries()
	with := func(count int, more ...impl.Entry) impl.Journal {
		return journal(7, 9, 3, logOf(10, 2, append(slices.Clone(l.Entries[:count]), more...)...))
	}
	wantAdded(t, old, with(5, none(7)), plainEntry(16, none(7)))
	wantAdded(t, old, with(5, none(8), command(9, "z")), plainEntry(16, none(8)), plainEntry(17, command(9, "z")))
	wantAdded(t, old, with(4, none(8)), plainEntry(15, none(8)))
	wantAdded(t, old, with(4, command(7, "")), plainEntry(15, command(7, "")))
	wantAdded(t, old, with(2, command(4, "b")), plainEntry(13, command(4, "b")))
	wantAdded(t, old, with(2, command(4, "b"), command(4, "b"), none(7)), plainEntry(13, command(4, "b")), plainEntry(14, command(4, "b")), plainEntry(15, none(7)))
	wantAdded(t, old, with(0, none(3)), plainEntry(11, none(3)))
	wantAdded(t, old, with(1, conf(2, "\x01\x03")), plainEntry(12, conf(2, "\x01\x03")))
	wantAdded(t, impl.Journal{}, journal(0, 0, 0, logOf(0, 0, none(0))), plainEntry(1, none(0)))
}

func TestJournalActsOfAHeadAndEntries(t *testing.T) {
	old := fiveJournal()
	now := journal(7, 10, 0, logOf(10, 2, append(fiveEntries().Entries, none(10))...))
	wantAdded(t, old, now, headOf(10, 0), plainEntry(16, none(10)))
	now = journal(7, 10, 3, logOf(10, 2, none(2), none(10)))
	wantAdded(t, old, now, headOf(10, 3), plainEntry(12, none(10)))
	full := journal(0, 2, 1, logOf(0, 0, unlikeEntries(impl.MaxLog, 2)...))
	wantAdded(t, impl.Journal{}, full, append([]string{headOf(2, 1)}, entriesOf(full.Log)...)...)
	longest := longestJournal()
	empty := journal(impl.MaxSegment, 0, 0, logOf(longest.Log.Start, longest.Log.StartTerm))
	wantAdded(t, empty, longest, append([]string{headOf(100000, 4)}, entriesOf(longest.Log)...)...)
}

// No record takes entries away alone, so that a shorter log needs a new file.
func TestJournalActsOfAShorterBeginning(t *testing.T) {
	old := fiveJournal()
	for count := range 5 {
		now := journal(7, 9, 3, logOf(10, 2, fiveEntries().Entries[:count]...))
		wantNewFile(t, journalDisk(old), old, now)
		now.Term, now.Vote = 12, 0
		wantNewFile(t, journalDisk(old), old, now)
	}
}

func TestJournalActsOfAnotherStart(t *testing.T) {
	old := fiveJournal()
	for _, l := range []impl.Log{
		logOf(11, 2, fiveEntries().Entries...), logOf(9, 2, fiveEntries().Entries...), logOf(10, 1, fiveEntries().Entries...), logOf(10, 0, fiveEntries().Entries...),
		logOf(11, 2, fiveEntries().Entries[1:]...), logOf(15, 7), logOf(10, 3), {}, longestJournal().Log,
	} {
		wantNewFile(t, journalDisk(old), old, journal(7, 9, 3, l))
		wantNewFile(t, journalDisk(old), old, journal(7, 10, 1, l))
	}
	bare := journal(0, 0, 0, logOf(10, 2))
	wantNewFile(t, journalDisk(bare), bare, journal(0, 0, 0, logOf(10, 3)))
	wantNewFile(t, journalDisk(bare), bare, journal(0, 0, 0, logOf(11, 2)))
}

// grownTo has a file of fiveJournal that is of so many bytes, by heads that
// come again and again.
func grownTo(t *testing.T, length int) impl.Disk {
	t.Helper()
	j := fiveJournal()
	text := plainJournal(j)
	short, long := framed(headOf(9, 3)), framed(headOf(300, 3))
	for len(text) < length && (length-len(text))%len(short) != 0 {
		text = framed(beginOf(10, 2)) + long + text[len(framed(beginOf(10, 2))):]
	}
	for len(text) < length {
		text += short
	}
	if len(text) != length {
		t.Fatalf("no file of %d bytes is made", length)
	}
	return diskOf(kept("j7", text))
}

func TestJournalActsOfALongFile(t *testing.T) {
	old := fiveJournal()
	entries := fiveEntries().Entries
	nows := []impl.Journal{
		journal(7, 9, 2, logOf(10, 2, entries...)), journal(7, 10, 3, logOf(10, 2, entries...)),
		journal(7, 9, 3, logOf(10, 2, append(slices.Clone(entries), none(8))...)), journal(7, 10, 1, logOf(10, 2, append(slices.Clone(entries), none(8))...)),
	}
	added := [][]string{{headOf(9, 2)}, {headOf(10, 3)}, {plainEntry(16, none(8))}, {headOf(10, 1), plainEntry(16, none(8))}}
	for _, length := range []int{300, 398, 399, 400, 401, 402, 500, 5000, 19990, 20000} {
		d := grownTo(t, length)
		for at, now := range nows {
			if length <= 400 {
				wantJournalActs(t, d, old, now, now, adds("j7", framed(added[at]...)), keeps("j7"))
			} else {
				wantNewFile(t, d, old, now)
			}
		}
	}
}

// What is the same needs no act while the file is short; a long one is left.
func TestJournalActsOfALongFileThatStaysTheSame(t *testing.T) {
	old := fiveJournal()
	for _, length := range []int{399, 400} {
		wantJournalActs(t, grownTo(t, length), old, old, old)
	}
	for _, length := range []int{401, 402, 20000} {
		wantNewFile(t, grownTo(t, length), old, old)
	}
	long := journal(3, 1, 1, logOf(0, 0, unlikeEntries(impl.MaxLog, 1)...))
	wantNewFile(t, journalDisk(long), long, long)
}

func TestJournalActsAtTheGreatestNumber(t *testing.T) {
	before, old := fiveJournal(), fiveJournal()
	before.Number, old.Number = 998, 999
	other := journal(3, 9, 3, logOf(15, 7))
	wantNewFile(t, journalDisk(before), before, other)
	wantNoJournalActs(t, journalDisk(old), old, other)
	wantNoJournalActs(t, journalDisk(old), old, journal(3, 9, 3, logOf(10, 2, fiveEntries().Entries[:4]...)))
	wantNothingAdded(t, old, old)
	wantAdded(t, old, journal(0, 10, 3, fiveEntries()), headOf(10, 3))
	d := grownTo(t, 401)
	d.Files[0].Name = "j999"
	wantNoJournalActs(t, d, old, old)
	wantNoJournalActs(t, d, old, journal(999, 10, 3, fiveEntries()))
	d = grownTo(t, 400)
	d.Files[0].Name = "j999"
	wantJournalActs(t, d, old, old, old)
}

func TestJournalActsBesideNameNew(t *testing.T) {
	old := fiveJournal()
	for _, text := range []string{"", "x", plainJournal(old)} {
		d := diskOf(kept("j+", text), kept("j7", plainJournal(old)))
		wantNoJournalActs(t, d, old, old)
		wantNoJournalActs(t, d, old, journal(7, 9, 1, fiveEntries()))
		wantNoJournalActs(t, d, old, journal(7, 9, 3, logOf(0, 0)))
	}
	near := diskOf(kept("j", "x"), kept("j++", "x"), kept("j7", plainJournal(old)), kept("j8", "x"), kept("k+", "x"))
	wantJournalActs(t, near, old, old, old)
	wantNewFile(t, near, old, journal(7, 9, 3, logOf(0, 0)))
}

func TestJournalActsOfAFileThatIsNotOlds(t *testing.T) {
	old := fiveJournal()
	now := journal(7, 9, 1, fiveEntries())
	others := []impl.Journal{
		journal(7, 8, 3, fiveEntries()), journal(7, 9, 2, fiveEntries()), journal(7, 9, 3, logOf(11, 2, fiveEntries().Entries...)), journal(7, 9, 3, logOf(10, 1, fiveEntries().Entries...)),
		journal(7, 9, 3, logOf(10, 2, fiveEntries().Entries[:4]...)), journal(7, 9, 3, logOf(10, 2, append(fiveEntries().Entries, none(7))...)), journal(7, 9, 3, logOf(10, 2)),
		journal(7, 9, 3, logOf(10, 2, append(fiveEntries().Entries[:4], command(7, ""))...)), now,
	}
	texts := []string{"", "x", framed(beginOf(10, 2)), "x" + plainJournal(old), framed(recordsOf(old)[1:]...)}
	for _, other := range others {
		texts = append(texts, plainJournal(other))
	}
	for _, text := range texts {
		d := diskOf(kept("j7", text))
		wantNoJournalActs(t, d, old, now)
		wantNoJournalActs(t, d, old, old)
		wantNoJournalActs(t, d, old, journal(7, 9, 3, logOf(0, 0)))
	}
}

// Two files that tell old in other records than JournalText's are old's, too.
func TestJournalActsOfAFileThatWasAddedTo(t *testing.T) {
	old := fiveJournal()
	entries := entriesOf(old.Log)
	late := framed(append(append([]string{beginOf(10, 2)}, entries...), headOf(1, 1), headOf(9, 3))...)
	again := framed(append(append(recordsOf(old), plainEntry(12, none(9))), entries[1:]...)...)
	for _, text := range []string{late, again} {
		d := diskOf(kept("j7", text))
		wantJournalActs(t, d, old, old, old)
		now := journal(7, 9, 1, fiveEntries())
		wantJournalActs(t, d, old, now, now, adds("j7", framed(headOf(9, 1))), keeps("j7"))
	}
}

func TestJournalActsWithoutOldsFile(t *testing.T) {
	old := fiveJournal()
	text := plainJournal(old)
	for _, d := range []impl.Disk{
		{}, diskOf(kept("j0", text)), diskOf(kept("j70", text)), diskOf(kept("j07", text), kept("j6", text), kept("j8", text)), diskOf(kept("J7", text)), diskOf(kept("7", text), kept("j", text)),
	} {
		wantNoJournalActs(t, d, old, old)
		wantNoJournalActs(t, d, old, journal(7, 9, 1, fiveEntries()))
		wantNoJournalActs(t, d, old, journal(7, 9, 3, logOf(0, 0)))
	}
}

func TestJournalActsOfAFileWithAByteLeft(t *testing.T) {
	old := fiveJournal()
	text := plainJournal(old)
	for _, left := range []string{"\x00", "x", "torn", framed(beginOf(10, 2)), framed(headOf(9, 5)), framed("x"), framed(plainEntry(17, none(9))), framed(headOf(9, 3))[:7]} {
		d := diskOf(kept("j7", text+left))
		wantNoJournalActs(t, d, old, old)
		wantNoJournalActs(t, d, old, journal(7, 9, 1, fiveEntries()))
		wantNoJournalActs(t, d, old, journal(7, 9, 3, logOf(0, 0)))
	}
}

func TestJournalActsOfWrongArguments(t *testing.T) {
	old := fiveJournal()
	d := journalDisk(old)
	for _, wrong := range wrongJournals() {
		wantNoJournalActs(t, d, old, wrong)
		wantNoJournalActs(t, d, wrong, old)
		wantNoJournalActs(t, d, wrong, wrong)
	}
	for _, number := range []int{-1, 1000} {
		now := old
		now.Number = number
		wantNoJournalActs(t, d, old, now)
		wantNoJournalActs(t, diskOf(kept("j"+strconv.Itoa(number), plainJournal(old))), now, old)
	}
	for _, wrong := range wrongDisks() {
		wantNoJournalActs(t, wrong, old, old)
		wrong.Files = append([]impl.File{kept("a7", plainJournal(old))}, wrong.Files...)
		wrong.Files[0].Name = "j7"
		wantNoJournalActs(t, wrong, old, old)
		wantNoJournalActs(t, wrong, old, journal(7, 9, 1, fiveEntries()))
	}
}

// What is not yet kept counts as the rest of a file does.
func TestJournalActsOfAFileThatIsNotKept(t *testing.T) {
	old := fiveJournal()
	for _, kept := range []int{0, 5, 40} {
		d := diskOf(file("j7", plainJournal(old), kept))
		wantJournalActs(t, d, old, old, old)
		now := journal(7, 9, 1, fiveEntries())
		wantJournalActs(t, d, old, now, now, adds("j7", framed(headOf(9, 1))), keeps("j7"))
	}
}

// A disk that has no room for one more file is none of what is refused.
func TestJournalActsOnAFullDisk(t *testing.T) {
	old := fiveJournal()
	d := diskOf(append([]impl.File{kept("j7", plainJournal(old))}, manyFiles(impl.MaxFiles-1).Files...)...)
	wantJournalActs(t, d, old, old, old)
	wantNewFile(t, d, old, journal(7, 9, 3, logOf(0, 0)))
}

// smallJournals have few entries each, and two heads.
func smallJournals() []impl.Journal {
	kinds := []impl.Entry{none(0), none(1), command(1, "x"), none(2)}
	list := []impl.Journal{}
	for length := range 4 {
		eachList([]int{0, 1, 2, 3}, length, func(picks []int) {
			entries := []impl.Entry{}
			for _, pick := range picks {
				entries = append(entries, kinds[pick])
			}
			for place := range 4 {
				if l := logOf(place%2, place/2, entries...); impl.LogOk(l) {
					list = append(list, journal(3, len(list)%2, 1, l))
				}
			}
		})
	}
	return list
}

// plainActs goes by the chapter's words, for a file of old that is right.
func plainActs(d impl.Disk, old, now impl.Journal) ([]impl.Act, impl.Journal) {
	name := "j" + strconv.Itoa(old.Number)
	text, _ := impl.FileAt(d, name)
	a, b := old.Log, now.Log
	shorter := len(b.Entries) < len(a.Entries) && slices.Equal(a.Entries[:len(b.Entries)], b.Entries)
	then := journal(old.Number, now.Term, now.Vote, b)
	if a.Start != b.Start || a.StartTerm != b.StartTerm || shorter || len(text) > 400 {
		then.Number++
		return newFile(old.Number, then), then
	}
	records := []string{}
	if old.Term != now.Term || old.Vote != now.Vote {
		records = append(records, headOf(now.Term, now.Vote))
	}
	unlike := false
	for at, e := range b.Entries {
		unlike = unlike || at >= len(a.Entries) || a.Entries[at] != e
		if unlike {
			records = append(records, plainEntry(b.Start+1+at, e))
		}
	}
	if len(records) == 0 {
		return nil, then
	}
	return []impl.Act{adds(name, framed(records...)), keeps(name)}, then
}

// Behind all acts the journal is opened as the one then, and nothing is left
// to be done.
func TestJournalActsOfEverySmallJournal(t *testing.T) {
	list := smallJournals()
	for _, old := range list {
		d := journalDisk(old)
		for _, now := range list {
			acts, then, ok := impl.JournalActs(d, old, now)
			want, wantThen := plainActs(d, old, now)
			if !ok || !slices.Equal(acts, want) || !sameJournal(then, wantThen) {
				t.Fatalf("JournalActs from %v to %v is %v, %v, %v; want %v, %v", old, now, acts, then, ok, want, wantThen)
			}
			behind, done := impl.DoActs(d, acts)
			j, more, opened := impl.OpenJournal(behind)
			if done != len(acts) || !opened || len(more) != 0 || !sameJournal(j, then) || !impl.AllKept(behind) {
				t.Fatalf("from %v to %v: what is opened is %v, %v, %v; want %v", old, now, j, more, opened, then)
			}
		}
	}
}

func wantOpened(t *testing.T, d impl.Disk, want impl.Journal, acts ...impl.Act) {
	t.Helper()
	j, got, ok := impl.OpenJournal(d)
	if !ok || !sameJournal(j, want) || !slices.Equal(got, acts) {
		t.Errorf("OpenJournal(%v) = %v, %v, %v; want %v, %v", d, j, got, ok, want, acts)
	}
}

func wantNotOpened(t *testing.T, d impl.Disk) {
	t.Helper()
	if j, acts, ok := impl.OpenJournal(d); ok || len(acts) != 0 || !isZeroJournal(j) {
		t.Errorf("OpenJournal(%v) = %v, %v, %v; want none", d, j, acts, ok)
	}
}

func numbered(n int) impl.Journal {
	j := fiveJournal()
	j.Number = n
	return j
}

func TestOpenJournalOfOneFile(t *testing.T) {
	for _, j := range rightJournals() {
		wantOpened(t, diskOf(kept("j"+strconv.Itoa(j.Number), plainJournal(j))), j)
		wantOpened(t, journalDisk(j), j)
	}
	for n := range 1000 {
		wantOpened(t, journalDisk(numbered(n)), numbered(n))
	}
}

func TestOpenJournalTakesTheGreatestNumber(t *testing.T) {
	text := plainJournal(fiveJournal())
	wantOpened(t, diskOf(kept("j10", text), kept("j9", "x")), numbered(10), drops("j9"))
	wantOpened(t, diskOf(kept("j0", "x"), kept("j1", text)), numbered(1), drops("j0"))
	wantOpened(t, diskOf(kept("j0", text), kept("j00", "x"), kept("j01", "x")), numbered(0))
	wantOpened(t, diskOf(kept("j1", ""), kept("j10", ""), kept("j100", text), kept("j11", ""), kept("j2", ""), kept("j99", "")), numbered(100),
		drops("j1"), drops("j10"), drops("j11"), drops("j2"), drops("j99"))
	wantOpened(t, diskOf(kept("j1", ""), kept("j998", ""), kept("j999", text), kept("k", "")), numbered(999), drops("j1"), drops("j998"))
	wantOpened(t, diskOf(kept("a", ""), kept("j2", "x"), kept("j20", text), kept("j3", ""), kept("s1", "")), numbered(20), drops("j2"), drops("j3"))
}

// Many journals in files that are unlike: the one of the greatest number is told.
func TestOpenJournalOfUnlikeFiles(t *testing.T) {
	eachList([]int{0, 1, 2, 9, 10, 11, 99, 100, 999}, 3, func(numbers []int) {
		sorted := slices.Compact(slices.Sorted(slices.Values(numbers)))
		var d impl.Disk
		for _, n := range sorted {
			d.Files = append(d.Files, kept("j"+strconv.Itoa(n), plainJournal(journal(n, n+1, n%5, logOf(n, 0)))))
		}
		slices.SortFunc(d.Files, func(a, b impl.File) int { return strings.Compare(a.Name, b.Name) })
		greatest := sorted[len(sorted)-1]
		acts := []impl.Act{}
		for _, f := range d.Files {
			if f.Name != "j"+strconv.Itoa(greatest) {
				acts = append(acts, drops(f.Name))
			}
		}
		wantOpened(t, d, journal(greatest, greatest+1, greatest%5, logOf(greatest, 0)), acts...)
	})
}

func TestOpenJournalPassesOverOtherNames(t *testing.T) {
	text := plainJournal(fiveJournal())
	for _, name := range []string{
		"j", "j01", "j00", "j007", "j1000", "j1001", "j99999", "j9999999", "J8", "k8", "i8", "8", "j-1", "j 8", "j8 ", "j8x", "jj8", "j+8", "j++", "j8.0", "j\x008", "jx", " j8", "j8\x00", "j٣",
	} {
		wantNotOpened(t, diskOf(kept(name, text)))
		d := diskOf(kept("j7", text), kept(name, "x"))
		slices.SortFunc(d.Files, func(a, b impl.File) int { return strings.Compare(a.Name, b.Name) })
		wantOpened(t, d, numbered(7))
	}
}

func TestOpenJournalDropsNameNew(t *testing.T) {
	text := plainJournal(fiveJournal())
	for _, new := range []string{"", "x", text, text + "x"} {
		wantOpened(t, diskOf(kept("j+", new), kept("j7", text)), numbered(7), drops("j+"))
		wantOpened(t, diskOf(kept("a", ""), kept("j+", new), kept("j10", "x"), kept("j6", ""), kept("j77", text), kept("j8", "x")), numbered(77),
			drops("j+"), drops("j10"), drops("j6"), drops("j8"))
		wantNotOpened(t, diskOf(kept("j+", new)))
	}
}

// What is torn is written anew, into the file of the next Number.
func TestOpenJournalOfAFileWithAByteLeft(t *testing.T) {
	text := plainJournal(fiveJournal())
	for _, left := range []string{"\x00", "torn", framed(beginOf(10, 2)), framed(headOf(9, 5)), framed("x", headOf(1, 1)), framed(headOf(1, 1))[:7], strings.Repeat("x", 20000-len(text))} {
		for _, n := range []int{0, 7, 9, 99, 998} {
			name := "j" + strconv.Itoa(n)
			wantOpened(t, diskOf(kept(name, text+left)), numbered(n+1), newFile(n, numbered(n+1))...)
			acts := append([]impl.Act{drops("j+")}, newFile(n, numbered(n+1))...)
			wantOpened(t, diskOf(kept("j+", "x"), kept(name, text+left)), numbered(n+1), acts...)
		}
		wantNotOpened(t, diskOf(kept("j999", text+left)))
		wantNotOpened(t, diskOf(kept("j+", text), kept("j998", text), kept("j999", text+left)))
		d := diskOf(kept("j+", "x"), kept("j1", "x"), kept("j10", text+left), kept("j9", "x"), kept("s1", "x"))
		wantOpened(t, d, numbered(11), append([]impl.Act{drops("j+"), drops("j1"), drops("j9")}, newFile(10, numbered(11))...)...)
	}
	wantOpened(t, diskOf(kept("j999", text)), numbered(999))
	wantOpened(t, diskOf(kept("j998", text+"x"), kept("j999", text)), numbered(999), drops("j998"))
}

func TestOpenJournalOfATornFile(t *testing.T) {
	j := fiveJournal()
	text := plainJournal(j)
	for cut := range len(text) + 1 {
		d := diskOf(kept("j7", text[:cut]))
		want, behind, ok := plainReadJournal(7, text[:cut])
		if !ok {
			wantNotOpened(t, d)
		} else if behind == cut {
			wantOpened(t, d, want)
		} else {
			want.Number = 8
			wantOpened(t, d, want, newFile(7, want)...)
		}
	}
}

func TestOpenJournalOfNoFile(t *testing.T) {
	text := plainJournal(fiveJournal())
	wantNotOpened(t, impl.Disk{})
	wantNotOpened(t, threeFiles())
	wantNotOpened(t, manyFiles(impl.MaxFiles))
	for _, wrong := range []string{"", "x", "torn", framed(headOf(1, 1)), framed(beginOf(1000001, 0)), "x" + text} {
		wantNotOpened(t, diskOf(kept("j7", wrong)))
		wantNotOpened(t, diskOf(kept("j6", text), kept("j7", wrong)))
		wantOpened(t, diskOf(kept("j6", wrong), kept("j7", text)), numbered(7), drops("j6"))
	}
}

func TestOpenJournalOfWrongDisks(t *testing.T) {
	text := plainJournal(fiveJournal())
	for _, wrong := range wrongDisks() {
		wantNotOpened(t, wrong)
		wrong.Files = append(slices.Clone(wrong.Files), kept("j7", text))
		wantNotOpened(t, wrong)
	}
	wantNotOpened(t, diskOf(kept("j7", text), kept("j6", text)))
	wantNotOpened(t, diskOf(kept("j7", text), kept("j7", text)))
	wantNotOpened(t, diskOf(file("j7", text, -1)))
	wantNotOpened(t, diskOf(file("j7", text, len(text)+1)))
	wantNotOpened(t, diskOf(kept("j7", text+strings.Repeat("x", 20001-len(text)))))
}

// Opened again, a journal is the same, and there is nothing to be done.
func TestOpenJournalTwice(t *testing.T) {
	text := plainJournal(fiveJournal())
	for _, d := range []impl.Disk{
		diskOf(kept("j7", text)), diskOf(kept("j7", text+"x")), diskOf(kept("j+", "x"), kept("j10", text[:60]), kept("j9", text), kept("s3", "x")), diskOf(file("j8", text+"torn", 3), file("j9", text[:30], 2)),
	} {
		j, acts, ok := impl.OpenJournal(d)
		behind, done := impl.DoActs(d, acts)
		if !ok || done != len(acts) {
			t.Fatalf("of %v %d acts of %v are done, %v", d, done, acts, ok)
		}
		wantOpened(t, behind, j)
		if acts, then, ok := impl.JournalActs(behind, j, j); !ok || len(acts) != 0 || !sameJournal(j, then) {
			t.Errorf("a journal that was opened is not that of its file: %v", j)
		}
	}
}

// lefts are what the power may leave of a disk of few files: of the file that
// is written to each number of bytes, of others nothing that is not kept.
func lefts(d impl.Disk) [][]int {
	list := [][]int{nil}
	for at, f := range d.Files {
		for left := f.Kept; left <= len(f.Text); left++ {
			one := make([]int, at+1)
			one[at] = left
			list = append(list, one)
		}
	}
	return list
}

// eachCut hands on every disk that the power may leave of the acts.
func eachCut(t *testing.T, d impl.Disk, acts []impl.Act, hand func(whole int, left impl.Disk)) {
	t.Helper()
	for whole := range len(acts) + 1 {
		behind, done := impl.DoActs(d, acts[:whole])
		if done != whole {
			t.Fatalf("act %d of %v is not done", done, acts)
		}
		for _, left := range lefts(behind) {
			cut, ok := impl.CutActs(d, acts, whole, left)
			if !ok {
				t.Fatalf("CutActs behind %d is false", whole)
			}
			hand(whole, cut)
		}
	}
}

// isBetween tells whether a journal that was opened is old, then, or one on
// the way: each entry is that of one of these at its index, in one piece of
// old and one of then, and its Term and Vote are those of one of them.
func isBetween(j, old, then impl.Journal) bool {
	if !sameHeads(j, old) && !sameHeads(j, then) {
		return false
	}
	for _, one := range []impl.Journal{old, then} {
		if sameLog(j.Log, one.Log) {
			return true
		}
	}
	if j.Log.Start != old.Log.Start || j.Log.StartTerm != old.Log.StartTerm || old.Log.Start != then.Log.Start || !sameHeads(j, then) {
		return false
	}
	count := len(j.Log.Entries)
	return count <= len(then.Log.Entries) && slices.Equal(j.Log.Entries, then.Log.Entries[:count])
}

func sameHeads(a, b impl.Journal) bool { return a.Term == b.Term && a.Vote == b.Vote }

// commonCount is how many entries two logs begin with in common.
func commonCount(a, b impl.Log) int {
	count := 0
	for count < len(a.Entries) && count < len(b.Entries) && a.Entries[count] == b.Entries[count] {
		count++
	}
	return count
}

// checkCuts opens what the power leaves of JournalActs, at every place.
func checkCuts(t *testing.T, d impl.Disk, old, now impl.Journal) {
	t.Helper()
	acts, then, ok := impl.JournalActs(d, old, now)
	if !ok {
		t.Fatalf("JournalActs from %v to %v is false", old, now)
	}
	common := commonCount(old.Log, now.Log)
	eachCut(t, d, acts, func(whole int, left impl.Disk) {
		j, more, ok := impl.OpenJournal(left)
		if !ok || !isBetween(j, old, then) {
			t.Fatalf("from %v to %v, behind %d acts: what is opened is %v, %v", old, now, whole, j, ok)
		}
		if len(acts) == 2 && len(j.Log.Entries) < common {
			t.Fatalf("from %v to %v, behind %d acts: an entry of both is lost: %v", old, now, whole, j)
		}
		if whole == len(acts) && !sameJournal(j, then) || whole == 0 && !sameJournal(j, old) {
			t.Fatalf("from %v to %v, behind %d acts: what is opened is %v", old, now, whole, j)
		}
		behind, done := impl.DoActs(left, more)
		again, none, right := impl.OpenJournal(behind)
		if done != len(more) || !right || len(none) != 0 || !sameJournal(again, j) {
			t.Fatalf("what is opened twice is %v and %v", j, again)
		}
	})
}

func TestPowerLeavesOldOrNewOfEverySmallJournal(t *testing.T) {
	list := smallJournals()
	for at, old := range list {
		for to := at % 3; to < len(list); to += 3 {
			checkCuts(t, journalDisk(old), old, list[to])
		}
	}
}

func TestPowerLeavesOldOrNew(t *testing.T) {
	old := fiveJournal()
	entries := fiveEntries().Entries
	for _, now := range []impl.Journal{
		old, journal(7, 10, 1, logOf(10, 2, entries...)), journal(7, 9, 3, logOf(10, 2, append(slices.Clone(entries), unlikeEntries(20, 8)...)...)),
		journal(7, 12, 0, logOf(10, 2, append(slices.Clone(entries[:2]), unlikeEntries(9, 8)...)...)), journal(7, 12, 0, logOf(10, 2, entries[:2]...)), journal(7, 9, 3, logOf(12, 2, entries[2:]...)), journal(7, 9, 3, logOf(900, 9)),
	} {
		checkCuts(t, journalDisk(old), old, now)
		checkCuts(t, grownTo(t, 400), old, now)
		checkCuts(t, grownTo(t, 401), old, now)
	}
}

// The acts of OpenJournal may be cut, too: what is opened then is the same.
func TestPowerLeavesWhatIsOpened(t *testing.T) {
	text := plainJournal(fiveJournal())
	for _, d := range []impl.Disk{
		diskOf(kept("j7", text+"torn")), diskOf(kept("j+", "new"), kept("j6", text[:40]), kept("j7", text+"torn")), diskOf(kept("j10", text[:len(text)-3]), kept("j8", text), kept("j9", text)), diskOf(kept("j+", text), kept("j6", ""), kept("j7", text)),
	} {
		want, acts, ok := impl.OpenJournal(d)
		if !ok {
			t.Fatalf("%v is not opened", d)
		}
		eachCut(t, d, acts, func(whole int, left impl.Disk) {
			j, _, ok := impl.OpenJournal(left)
			j.Number = want.Number
			if !ok || !sameJournal(j, want) {
				t.Fatalf("behind %d acts of %v: what is opened is %v, %v", whole, d, j, ok)
			}
		})
	}
}

// A life of a journal: drawn steps, with a cut now and then.
func TestPowerLeavesOldOrNewInALongLife(t *testing.T) {
	for seed := range 60 {
		draw := func(n int) int {
			seed = (seed*1103515245 + 12345) % 2147483648
			return seed / 65536 % n
		}
		j := journal(0, 0, 0, impl.Log{})
		d := journalDisk(j)
		for step := range 120 {
			now := journal(draw(1000), j.Term+draw(2), draw(5), copyOfLog(j.Log))
			last, _ := impl.LogLast(now.Log)
			index := max(now.Log.Start+1, last+1-draw(3)*draw(2))
			if put, ok := impl.LogPut(now.Log, index, command(max(step, 1), mixedBytes(draw(30)))); ok {
				now.Log = put
			}
			if last, _ = impl.LogLast(now.Log); draw(9) == 0 {
				now.Log = impl.LogBehind(now.Log, last, impl.LogTerm(now.Log, last))
			}
			acts, then, ok := impl.JournalActs(d, j, now)
			if !ok {
				t.Fatalf("JournalActs from %v to %v is false", j, now)
			}
			whole := len(acts)
			if draw(3) == 0 {
				whole = draw(len(acts) + 1)
			}
			left, fine := impl.CutActs(d, acts, whole, []int{draw(900), draw(900), draw(900), draw(900)})
			opened, more, right := impl.OpenJournal(left)
			if !fine || !right || !isBetween(opened, j, then) {
				t.Fatalf("from %v to %v: what is opened is %v, %v", j, then, opened, right)
			}
			d, _ = impl.DoActs(left, more)
			j = opened
		}
	}
}

func TestJournalsAreNotWrittenInto(t *testing.T) {
	for at, one := range append(rightJournals(), wrongJournals()...) {
		l, whole := roomyLog(one.Log)
		was := slices.Clone(whole)
		j := journal(one.Number, one.Term, one.Vote, l)
		d, files := roomy(diskOf(kept("j+", "x"), kept("j0", plainJournal(fiveJournal())), kept("j7", plainJournal(fiveJournal())+"x")))
		if at%2 == 0 && impl.JournalOk(j) {
			d, files = roomy(diskOf(kept(impl.JournalName(j.Number), plainJournal(j))))
		}
		there := slices.Clone(files)
		longer := j
		longer.Log.Entries = append(slices.Clone(j.Log.Entries), none(impl.MaxTerm))
		impl.JournalOk(j)
		impl.JournalText(j)
		impl.OpenJournal(d)
		for _, other := range []impl.Journal{j, fiveJournal(), longer} {
			impl.JournalActs(d, j, other)
			impl.JournalActs(d, other, j)
		}
		if !slices.Equal(whole, was) || !slices.Equal(files, there) {
			t.Fatalf("an argument was written into: %v, %v", whole, files)
		}
	}
}

func TestJournalsThatAreAnsweredAreNew(t *testing.T) {
	old := fiveJournal()
	now := journal(7, 9, 1, logOf(10, 2, append(fiveEntries().Entries, command(8, mixedBytes(50)))...))
	behind := journal(7, 9, 1, logOf(12, 2, append(fiveEntries().Entries[2:], command(8, mixedBytes(50)))...))
	for _, to := range []impl.Journal{old, now, behind} {
		was := copyOfLog(to.Log)
		d := journalDisk(old)
		_, first, _ := impl.JournalActs(d, old, to)
		acts, second, ok := impl.JournalActs(d, old, to)
		if !ok || len(second.Log.Entries) != len(to.Log.Entries) {
			t.Fatal("this journal is right")
		}
		for at := range first.Log.Entries {
			if lieTogether(second.Log.Entries[at].Data, to.Log.Entries[at].Data) {
				t.Errorf("the Data of entry %d lies in that of an argument", at)
			}
			first.Log.Entries[at] = none(at)
		}
		_ = append(first.Log.Entries, none(0))
		if !sameLog(to.Log, was) || !sameLog(second.Log, was) {
			t.Errorf("an answer shares its entries: %v", first)
		}
		for _, a := range acts {
			for _, f := range d.Files {
				if lieTogether(a.Name, f.Name) || lieTogether(a.Text, f.Text) || lieTogether(a.To, f.Name) {
					t.Errorf("the act %v lies in the disk", a)
				}
			}
		}
	}
}

func TestWhatIsOpenedIsNew(t *testing.T) {
	j := journal(8, 9, 3, logOf(0, 0, command(1, mixedBytes(60)), command(2, mixedBytes(70))))
	text := plainJournal(j)
	for _, left := range []string{"", "torn"} {
		d := diskOf(kept(strings.Clone("j+"), "x"), kept(strings.Clone("j70"), "x"), kept(strings.Clone("j71"), text+left))
		first, acts, ok := impl.OpenJournal(d)
		second, _, fine := impl.ReadJournal(71, d.Files[2].Text)
		if !ok || !fine {
			t.Fatal("this disk is right")
		}
		for at := range 2 {
			for _, data := range []string{first.Log.Entries[at].Data, second.Log.Entries[at].Data} {
				if lieTogether(data, d.Files[2].Text) {
					t.Errorf("the Data of entry %d lies in the file", at)
				}
			}
		}
		for _, a := range acts {
			for _, f := range d.Files {
				if lieTogether(a.Name, f.Name) || lieTogether(a.To, f.Name) || lieTogether(a.Text, f.Text) {
					t.Errorf("the act %v lies in the disk", a)
				}
			}
		}
	}
}

// What was answered ahead says nothing of what is answered.
func TestJournalsKeepNothing(t *testing.T) {
	old := fiveJournal()
	d := diskOf(kept("j7", plainJournal(old)+"x"))
	for range 3 {
		wantOpened(t, d, numbered(8), newFile(7, numbered(8))...)
		wantNotOpened(t, impl.Disk{})
		wantAdded(t, old, journal(7, 9, 1, fiveEntries()), headOf(9, 1))
		wantNoJournalActs(t, d, old, old)
		wantNoReadJournal(t, -1, plainJournal(old))
	}
}
