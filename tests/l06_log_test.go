package tests

import (
	"math"
	"slices"
	"strings"
	"testing"

	"loop.example/g00232/impl"
)

func TestLogLimit(t *testing.T) {
	if impl.MaxLog != 60 {
		t.Errorf("MaxLog is %d", impl.MaxLog)
	}
}

func logOf(start, startTerm int, entries ...impl.Entry) impl.Log {
	return impl.Log{Start: start, StartTerm: startTerm, Entries: entries}
}

func none(term int) impl.Entry { return entry(term, impl.EntryNone, "") }

func command(term int, data string) impl.Entry { return entry(term, impl.EntryCommand, data) }

func conf(term int, text string) impl.Entry { return entry(term, impl.EntryConf, text) }

// noneOf are entries with these terms.
func noneOf(terms ...int) []impl.Entry {
	list := []impl.Entry{}
	for _, term := range terms {
		list = append(list, none(term))
	}
	return list
}

// unlikeEntries are commands of one term, no two of them the same.
func unlikeEntries(count, term int) []impl.Entry {
	list := []impl.Entry{}
	for at := range count {
		list = append(list, command(term, bytesOf([]int{at, at + 1})))
	}
	return list
}

// fiveEntries begins behind 10; its entries are of every Kind.
func fiveEntries() impl.Log {
	return logOf(10, 2, none(2), conf(2, "\x01\x02"), command(4, "a"), command(4, "b"), none(7))
}

func copyOfLog(l impl.Log) impl.Log {
	return logOf(l.Start, l.StartTerm, slices.Clone(l.Entries)...)
}

func sameLog(a, b impl.Log) bool {
	return a.Start == b.Start && a.StartTerm == b.StartTerm && slices.Equal(a.Entries, b.Entries)
}

// rightLogs has the edges of what a right log may be.
func rightLogs() []impl.Log {
	return []impl.Log{
		{}, logOf(0, 0), logOf(0, impl.MaxTerm), logOf(impl.MaxIndex, 0), logOf(impl.MaxIndex, impl.MaxTerm),
		fiveEntries(), logOf(0, 0, none(0)), logOf(0, 3, none(3)), logOf(0, 3, none(4)), logOf(7, 0, none(impl.MaxTerm)),
		logOf(1, impl.MaxTerm, none(impl.MaxTerm), command(impl.MaxTerm, "x")), logOf(0, 1, noneOf(1, 1, 1)...), logOf(0, 0, noneOf(0, 0, 1, 1, 5, 100000)...),
		logOf(0, 0, unlikeEntries(impl.MaxLog-1, 1)...), logOf(0, 0, unlikeEntries(impl.MaxLog, 1)...), logOf(5, 9, unlikeEntries(impl.MaxLog, 9)...),
		logOf(impl.MaxIndex-1, 0, none(0)), logOf(impl.MaxIndex-3, 1, noneOf(1, 2, 3)...), logOf(impl.MaxIndex-4, 1, noneOf(1, 2, 3)...),
		logOf(impl.MaxIndex-impl.MaxLog, 0, unlikeEntries(impl.MaxLog, 3)...),
		logOf(4, 1, command(1, mixedBytes(impl.MaxData)), conf(1, "\x01\x02\x03\x04"), command(2, "")),
	}
}

// wrongLogs are none, each for one reason of its own.
func wrongLogs() []impl.Log {
	list := []impl.Log{
		logOf(0, 0, unlikeEntries(impl.MaxLog+1, 1)...), logOf(0, 0, unlikeEntries(1000, 1)...), logOf(impl.MaxIndex-impl.MaxLog-1, 0, unlikeEntries(impl.MaxLog+1, 1)...),
		logOf(impl.MaxIndex, 0, none(0)), logOf(impl.MaxIndex-1, 0, noneOf(0, 0)...), logOf(impl.MaxIndex-3, 1, noneOf(1, 2, 3, 3)...), logOf(impl.MaxIndex-impl.MaxLog+1, 0, unlikeEntries(impl.MaxLog, 3)...),
		logOf(0, 1, none(0)), logOf(3, impl.MaxTerm, none(impl.MaxTerm-1)), logOf(0, 2, noneOf(1, 2, 3)...),
		logOf(0, 0, noneOf(2, 1)...), logOf(0, 0, noneOf(1, 2, 3, 2)...), logOf(0, 0, noneOf(1, 3, 2, 3)...), logOf(0, 1, noneOf(5, 1, 5)...), logOf(0, 0, noneOf(1, 0)...),
	}
	for _, start := range []int{-1, -2, -60, math.MinInt, math.MinInt + 1, impl.MaxIndex + 1, impl.MaxNumber, 1 << 32, math.MaxInt - 1, math.MaxInt} {
		list = append(list, logOf(start, 0), logOf(start, 1, none(1)), logOf(start, 1, noneOf(1, 2, 2)...))
	}
	for _, term := range []int{-1, -2, math.MinInt, impl.MaxTerm + 1, impl.MaxNumber, 1 << 32, math.MaxInt} {
		list = append(list, logOf(0, term), logOf(3, term, none(5)), logOf(3, term, none(impl.MaxTerm)), logOf(3, term, none(term)))
	}
	for _, wrong := range wrongEntries() {
		list = append(list, logOf(2, 0, wrong), logOf(2, 0, wrong, none(impl.MaxTerm)), logOf(2, 0, none(0), wrong, none(impl.MaxTerm)), logOf(2, 0, noneOf(0, 0)...))
		last := &list[len(list)-1]
		last.Entries = append(last.Entries, wrong)
	}
	return list
}

func TestRightLogs(t *testing.T) {
	for _, l := range rightLogs() {
		if !impl.LogOk(l) {
			t.Errorf("LogOk(%.200v) is false", l)
		}
	}
}

func TestWrongLogs(t *testing.T) {
	for _, l := range wrongLogs() {
		if impl.LogOk(l) {
			t.Errorf("LogOk(%.200v) is true", l)
		}
	}
}

func TestLogOkOfEveryRightEntry(t *testing.T) {
	for _, e := range rightEntries() {
		for _, l := range []impl.Log{logOf(0, 0, e), logOf(0, e.Term, e, e), logOf(9, 0, none(0), e, none(impl.MaxTerm))} {
			if !impl.LogOk(l) {
				t.Errorf("LogOk(%v) is false", l)
			}
		}
	}
}

func TestLogOkOfEachNumberOfEntries(t *testing.T) {
	for count := 0; count <= 2*impl.MaxLog; count++ {
		if impl.LogOk(logOf(0, 0, unlikeEntries(count, 2)...)) != (count <= 60) {
			t.Errorf("a log of %d entries is not told", count)
		}
		near := logOf(impl.MaxIndex-30, 0, unlikeEntries(count, 2)...)
		if impl.LogOk(near) != (count <= 30) {
			t.Errorf("a log of %d entries behind %d is not told", count, near.Start)
		}
	}
}

// Of terms alone: a log is right when they are in order, from StartTerm on.
func TestLogOkOfEveryFewTerms(t *testing.T) {
	for length := 1; length <= 5; length++ {
		eachList([]int{-1, 0, 1, 2, 100000, 100001}, length, func(terms []int) {
			l := logOf(3, terms[0], noneOf(terms[1:]...)...)
			inRange := slices.Min(terms) >= 0 && slices.Max(terms) <= 100000
			if impl.LogOk(l) != (inRange && slices.IsSorted(terms)) {
				t.Errorf("LogOk of the terms %v is %v", terms, impl.LogOk(l))
			}
		})
	}
}

func wantLast(t *testing.T, l impl.Log, index, term int) {
	t.Helper()
	if gotIndex, gotTerm := impl.LogLast(l); gotIndex != index || gotTerm != term {
		t.Errorf("LogLast(%.200v) = %d, %d; want %d, %d", l, gotIndex, gotTerm, index, term)
	}
}

func TestLogLast(t *testing.T) {
	wantLast(t, impl.Log{}, 0, 0)
	wantLast(t, logOf(8, 3), 8, 3)
	wantLast(t, logOf(impl.MaxIndex, impl.MaxTerm), 1000000, 100000)
	wantLast(t, logOf(8, 3, none(3)), 9, 3)
	wantLast(t, logOf(8, 3, none(5)), 9, 5)
	wantLast(t, logOf(0, 0, noneOf(1, 2)...), 2, 2)
	wantLast(t, fiveEntries(), 15, 7)
	wantLast(t, logOf(impl.MaxIndex-impl.MaxLog, 0, unlikeEntries(impl.MaxLog, 3)...), 1000000, 3)
}

// The chapter names no other answer for a log that is not right.
func TestLogLastOfWrongLogs(t *testing.T) {
	wantLast(t, logOf(-1, -5), -1, -5)
	wantLast(t, logOf(-1, 2, none(1)), 0, 1)
	wantLast(t, logOf(3, 2, impl.Entry{}), 4, 0)
	wantLast(t, logOf(3, 0, none(9), none(-4)), 5, -4)
	wantLast(t, logOf(impl.MaxIndex, 0, none(0)), 1000001, 0)
	wantLast(t, logOf(7, 0, unlikeEntries(100, 4)...), 107, 4)
	wantLast(t, logOf(math.MaxInt, 6), math.MaxInt, 6)
	wantLast(t, logOf(math.MinInt, 6, none(7)), math.MinInt+1, 7)
}

func wantTerm(t *testing.T, l impl.Log, index, term int) {
	t.Helper()
	if got := impl.LogTerm(l, index); got != term {
		t.Errorf("LogTerm(%.200v, %d) = %d; want %d", l, index, got, term)
	}
}

// wantTerms also asks for the indexes ahead of and behind those of the log,
// and for those that are as far off as may be.
func wantTerms(t *testing.T, l impl.Log, terms ...int) {
	t.Helper()
	for at, term := range terms {
		wantTerm(t, l, l.Start+at, term)
	}
	last := l.Start + len(terms) - 1
	for _, index := range []int{-1, -2, math.MinInt, math.MinInt + 1, math.MaxInt, l.Start - 1, l.Start - 2, l.Start - 60, last + 1, last + 2, last + 60, impl.MaxIndex + 1, l.Start + math.MinInt, l.Start + math.MaxInt} {
		if index < l.Start || index > last {
			wantTerm(t, l, index, -1)
		}
	}
}

func TestLogTerm(t *testing.T) {
	wantTerms(t, impl.Log{}, 0)
	wantTerms(t, logOf(8, 3), 3)
	wantTerms(t, logOf(0, 0, none(1)), 0, 1)
	wantTerms(t, fiveEntries(), 2, 2, 2, 4, 4, 7)
	wantTerms(t, logOf(impl.MaxIndex, impl.MaxTerm), 100000)
	wantTerms(t, logOf(impl.MaxIndex-2, 1, noneOf(2, 3)...), 1, 2, 3)
}

func TestLogTermOfEachRightLog(t *testing.T) {
	for _, l := range rightLogs() {
		terms := []int{l.StartTerm}
		for _, e := range l.Entries {
			terms = append(terms, e.Term)
		}
		wantTerms(t, l, terms...)
		lastIndex, lastTerm := impl.LogLast(l)
		wantTerm(t, l, lastIndex, lastTerm)
	}
}

// The chapter names no other answer for a log that is not right.
func TestLogTermOfWrongLogs(t *testing.T) {
	wantTerms(t, logOf(3, -7, none(-9), none(4), none(2)), -7, -9, 4, 2)
	wantTerms(t, logOf(impl.MaxIndex, 2, none(3)), 2, 3)
	wantTerms(t, logOf(math.MinInt, 2, none(3)), 2, 3)
	wantTerms(t, logOf(math.MaxInt-1, 2, none(3)), 2, 3)
	below := logOf(-3, 5, none(6), none(7))
	for at, term := range []int{-1, 5, 6, 7, -1, -1} {
		wantTerm(t, below, at-4, term)
	}
	long := logOf(0, 0, unlikeEntries(100, 4)...)
	wantTerm(t, long, 100, 4)
	wantTerm(t, long, 101, -1)
	great := logOf(math.MaxInt, 5, none(6))
	wantTerm(t, great, math.MaxInt, 5)
	wantTerm(t, great, math.MaxInt-1, -1)
	wantTerm(t, great, 0, -1)
	wantTerm(t, great, math.MinInt, -1)
}

func wantPut(t *testing.T, l impl.Log, index int, e impl.Entry, want ...impl.Entry) {
	t.Helper()
	got, ok := impl.LogPut(l, index, e)
	if !ok || !sameLog(got, logOf(l.Start, l.StartTerm, want...)) {
		t.Errorf("LogPut(%.200v, %d, %.40v) = %.200v, %v; want %.200v", l, index, e, got, ok, want)
	}
}

func wantNoPut(t *testing.T, l impl.Log, index int, e impl.Entry) {
	t.Helper()
	if got, ok := impl.LogPut(l, index, e); ok || !sameLog(got, impl.Log{}) {
		t.Errorf("LogPut(%.200v, %d, %.40v) = %.200v, %v; want none", l, index, e, got, ok)
	}
}

func TestLogPut(t *testing.T) {
	l := fiveEntries()
	e := command(7, "new")
	for index := 11; index <= 16; index++ {
		wantPut(t, l, index, e, append(slices.Clone(l.Entries[:index-11]), e)...)
	}
	for _, index := range []int{10, 9, 0, -1, 17, 18, 26, impl.MaxIndex, impl.MaxIndex + 1, math.MinInt, math.MaxInt, 10 + math.MinInt} {
		wantNoPut(t, l, index, e)
	}
}

func TestLogPutIntoALogWithoutEntries(t *testing.T) {
	wantPut(t, impl.Log{}, 1, none(0), none(0))
	wantNoPut(t, impl.Log{}, 0, none(0))
	wantNoPut(t, impl.Log{}, 2, none(0))
	wantNoPut(t, impl.Log{}, -1, none(0))
	wantPut(t, logOf(5, 3), 6, command(3, "x"), command(3, "x"))
	wantPut(t, logOf(5, 3), 6, command(4, "x"), command(4, "x"))
	wantNoPut(t, logOf(5, 3), 6, command(2, "x"))
	wantNoPut(t, logOf(5, 3), 5, command(3, "x"))
	wantNoPut(t, logOf(5, 3), 7, command(3, "x"))
}

// What counts is the term ahead, not those of what is gone.
func TestLogPutOfTerms(t *testing.T) {
	l := fiveEntries()
	ahead := map[int]int{11: 2, 12: 2, 13: 2, 14: 4, 15: 4, 16: 7}
	for index, least := range ahead {
		for term := 0; term <= 9; term++ {
			if term < least {
				wantNoPut(t, l, index, command(term, "n"))
			} else {
				wantPut(t, l, index, command(term, "n"), append(slices.Clone(l.Entries[:index-11]), command(term, "n"))...)
			}
		}
		wantNoPut(t, l, index, none(-1))
		wantNoPut(t, l, index, none(impl.MaxTerm+1))
	}
}

// An entry that was there already takes what stood behind it away, too.
func TestLogPutOfTheSameEntry(t *testing.T) {
	l := fiveEntries()
	for at, e := range l.Entries {
		wantPut(t, l, 11+at, e, l.Entries[:at+1]...)
	}
}

func TestLogPutOfEachRightEntry(t *testing.T) {
	for _, e := range rightEntries() {
		wantPut(t, impl.Log{}, 1, e, e)
		wantPut(t, logOf(3, 0, none(0), none(impl.MaxTerm), none(impl.MaxTerm)), 5, e, none(0), e)
		wantPut(t, logOf(3, 0, none(0), e), 6, none(impl.MaxTerm), none(0), e, none(impl.MaxTerm))
	}
}

func TestLogPutOfWrongEntries(t *testing.T) {
	for _, e := range wrongEntries() {
		wantNoPut(t, impl.Log{}, 1, e)
		for index := 10; index <= 17; index++ {
			wantNoPut(t, fiveEntries(), index, e)
		}
		wantNoPut(t, logOf(impl.MaxIndex, 0), impl.MaxIndex+1, e)
	}
}

// Nor is a log taken of which just what is gone was not right.
func TestLogPutIntoWrongLogs(t *testing.T) {
	for _, l := range wrongLogs() {
		for _, index := range []int{l.Start, l.Start + 1, l.Start + 2, l.Start + 3, l.Start + len(l.Entries), l.Start + len(l.Entries) + 1, 0, 1, 2, math.MinInt, math.MaxInt} {
			wantNoPut(t, l, index, none(impl.MaxTerm))
			wantNoPut(t, l, index, none(0))
		}
	}
}

func TestLogPutIntoAFullLog(t *testing.T) {
	full := logOf(20, 0, unlikeEntries(impl.MaxLog, 3)...)
	e := command(3, "last")
	wantPut(t, full, 80, e, append(slices.Clone(full.Entries[:59]), e)...)
	wantPut(t, full, 79, e, append(slices.Clone(full.Entries[:58]), e)...)
	wantPut(t, full, 21, e, e)
	wantNoPut(t, full, 81, e)
	wantNoPut(t, full, 82, e)
	wantNoPut(t, full, 20, e)
	fewer := logOf(20, 0, unlikeEntries(impl.MaxLog-1, 3)...)
	wantPut(t, fewer, 80, e, append(slices.Clone(fewer.Entries), e)...)
}

func TestLogPutAtTheGreatestIndex(t *testing.T) {
	at := impl.MaxIndex
	wantPut(t, logOf(at-1, 2), at, none(2), none(2))
	wantPut(t, logOf(at-1, 2, none(3)), at, none(2), none(2))
	wantPut(t, logOf(at-2, 2, none(3)), at, none(3), none(3), none(3))
	wantNoPut(t, logOf(at, 2), at+1, none(2))
	wantNoPut(t, logOf(at, 2), at, none(2))
	wantNoPut(t, logOf(at-1, 2, none(2)), at+1, none(2))
}

func wantBehind(t *testing.T, l impl.Log, base, term int, want ...impl.Entry) {
	t.Helper()
	if got := impl.LogBehind(l, base, term); !sameLog(got, logOf(base, term, want...)) {
		t.Errorf("LogBehind(%.200v, %d, %d) = %.200v; want %.200v", l, base, term, got, want)
	}
}

func TestLogBehind(t *testing.T) {
	l := fiveEntries()
	for at, term := range []int{2, 2, 2, 4, 4, 7} {
		wantBehind(t, l, 10+at, term, l.Entries[at:]...)
	}
	wantBehind(t, impl.Log{}, 0, 0)
	wantBehind(t, logOf(9, 4), 9, 4)
	wantBehind(t, logOf(0, 0, none(1)), 0, 0, none(1))
	wantBehind(t, logOf(0, 0, none(1)), 1, 1)
	wantBehind(t, logOf(impl.MaxIndex-1, 5, none(6)), impl.MaxIndex-1, 5, none(6))
	wantBehind(t, logOf(impl.MaxIndex-1, 5, none(6)), impl.MaxIndex, 6)
}

func TestLogBehindOfAnotherTerm(t *testing.T) {
	l := fiveEntries()
	for base := 10; base <= 15; base++ {
		there := impl.LogTerm(l, base)
		for _, term := range []int{-1, 0, 1, 2, 3, 4, 5, 6, 7, 8, impl.MaxTerm, impl.MaxTerm + 1, math.MinInt, math.MaxInt} {
			if term != there {
				wantBehind(t, l, base, term)
			}
		}
	}
}

// The term that LogTerm tells of an index that is not there is none, either.
func TestLogBehindWhatIsNotThere(t *testing.T) {
	for _, l := range append(rightLogs(), fiveEntries()) {
		last, lastTerm := impl.LogLast(l)
		for _, base := range []int{l.Start - 1, l.Start - 2, l.Start - 60, last + 1, last + 2, last + 60, -1, math.MinInt, math.MaxInt, l.Start + math.MinInt, l.Start + math.MaxInt} {
			if base >= l.Start && base <= last {
				continue
			}
			for _, term := range []int{-1, 0, l.StartTerm, lastTerm, impl.MaxTerm, impl.MaxTerm + 1, math.MinInt, math.MaxInt} {
				wantBehind(t, l, base, term)
			}
		}
	}
}

func TestLogBehindOfWrongLogs(t *testing.T) {
	for _, l := range wrongLogs() {
		last, lastTerm := impl.LogLast(l)
		wantBehind(t, l, l.Start, l.StartTerm)
		wantBehind(t, l, l.Start+1, impl.LogTerm(l, l.Start+1))
		wantBehind(t, l, last, lastTerm)
		wantBehind(t, l, last+1, -1)
		wantBehind(t, l, 0, 0)
	}
}

// checkBehind holds a log behind one of its entries against the log itself.
func checkBehind(t *testing.T, l impl.Log, base int) {
	t.Helper()
	behind := impl.LogBehind(l, base, impl.LogTerm(l, base))
	last, lastTerm := impl.LogLast(l)
	wantLast(t, behind, last, lastTerm)
	if !impl.LogOk(behind) || impl.Shared(l, behind) != last || impl.Shared(behind, l) != last {
		t.Errorf("%.200v behind %d is %.200v", l, base, behind)
	}
	for index := base; index <= last; index++ {
		wantTerm(t, behind, index, impl.LogTerm(l, index))
		if index > base && behind.Entries[index-base-1] != l.Entries[index-l.Start-1] {
			t.Errorf("entry %d of %.200v behind %d is another one", index, l, base)
		}
	}
	wantTerm(t, behind, base-1, -1)
	wantTerm(t, behind, last+1, -1)
}

func TestALogBehindAnEntryHasTheSameEntries(t *testing.T) {
	for _, l := range rightLogs() {
		for base := l.Start; base <= l.Start+len(l.Entries); base++ {
			checkBehind(t, l, base)
		}
	}
}

// What is cut off ahead of an entry changes nothing of what is put behind it.
func TestLogPutBehindACut(t *testing.T) {
	l := fiveEntries()
	for base := 10; base <= 15; base++ {
		for index := base + 1; index <= 16; index++ {
			term := impl.LogTerm(l, base)
			put, ok := impl.LogPut(l, index, none(9))
			cut, fine := impl.LogPut(impl.LogBehind(l, base, term), index, none(9))
			if !ok || !fine || !sameLog(cut, impl.LogBehind(put, base, term)) {
				t.Errorf("at %d behind %d there is %v, %v", index, base, put, cut)
			}
		}
	}
}

func wantShared(t *testing.T, a, b impl.Log, want int) {
	t.Helper()
	if got := impl.Shared(a, b); got != want {
		t.Errorf("Shared(%.200v, %.200v) = %d; want %d", a, b, got, want)
	}
	if got := impl.Shared(b, a); got != want {
		t.Errorf("Shared(%.200v, %.200v) = %d; want %d", b, a, got, want)
	}
}

func TestALogSharesAllWithItself(t *testing.T) {
	for _, l := range rightLogs() {
		last, _ := impl.LogLast(l)
		wantShared(t, l, l, last)
		wantShared(t, l, copyOfLog(l), last)
	}
}

func TestSharedOfLogsThatPart(t *testing.T) {
	l := fiveEntries()
	for at := range l.Entries {
		for _, e := range []impl.Entry{command(7, "other"), none(8), command(100000, "")} {
			other := copyOfLog(l)
			other.Entries = append(other.Entries[:at:at], e)
			wantShared(t, l, other, 10+at)
			other.Entries = append(other.Entries, none(100000))
			wantShared(t, l, other, 10+at)
		}
	}
	wantShared(t, l, logOf(10, 2), 10)
	wantShared(t, l, logOf(10, 2, l.Entries[:3]...), 13)
	wantShared(t, logOf(0, 0, noneOf(1, 1)...), logOf(0, 0, noneOf(2, 2)...), 0)
}

// What is the same again behind an entry that is not, is not shared.
func TestSharedEndsAtTheFirstUnlikeEntry(t *testing.T) {
	l := logOf(4, 1, unlikeEntries(6, 1)...)
	for at := range l.Entries {
		other := copyOfLog(l)
		other.Entries[at].Data = "other"
		wantShared(t, l, other, 4+at)
	}
}

func TestSharedOfEntriesOfOneTerm(t *testing.T) {
	bodies := []impl.Entry{none(3), command(3, ""), command(3, "\x01"), conf(3, "\x01"), conf(3, "\x02"), conf(3, "\x01\x02"), command(3, "\x01\x02"), command(3, "x"), command(3, mixedBytes(impl.MaxData)), command(3, mixedBytes(impl.MaxData)[:impl.MaxData-1]+"?")}
	for first, e := range bodies {
		for second, other := range bodies {
			a, b := logOf(6, 2, none(2), e, none(3)), logOf(6, 2, none(2), other, none(3))
			if first == second {
				wantShared(t, a, b, 9)
			} else {
				wantShared(t, a, b, 7)
			}
		}
	}
}

func TestSharedOfLogsThatBeginElsewhere(t *testing.T) {
	l := fiveEntries()
	for at, term := range []int{2, 2, 2, 4, 4, 7} {
		wantShared(t, l, logOf(10+at, term, l.Entries[at:]...), 15)
		wantShared(t, l, logOf(10+at, term), 10+at)
		wantShared(t, l, logOf(10+at, term, none(9)), 10+at)
		wantShared(t, l, logOf(10+at, term+1), -1)
	}
	wantShared(t, l, logOf(12, 2, command(4, "a"), command(5, "b")), 13)
	wantShared(t, l, logOf(15, 7, none(7)), 15)
	wantShared(t, l, logOf(16, 7), -1)
	wantShared(t, l, logOf(16, 7, none(7)), -1)
	wantShared(t, l, logOf(1000, 7, none(7)), -1)
}

// The terms at the greater Start are unlike: the logs have parted there.
func TestSharedOfLogsThatPartedAheadOfTheGreaterStart(t *testing.T) {
	wantShared(t, logOf(0, 0, noneOf(1, 3)...), logOf(1, 2, none(3)), -1)
	wantShared(t, logOf(0, 0, noneOf(1, 3, 3)...), logOf(1, 0, noneOf(3, 3)...), -1)
	wantShared(t, logOf(5, 1, noneOf(3, 3)...), logOf(5, 2, noneOf(3, 3)...), -1)
}

func TestSharedOfLogsWithNothingInCommon(t *testing.T) {
	wantShared(t, impl.Log{}, logOf(1, 1), -1)
	wantShared(t, impl.Log{}, logOf(0, 1), -1)
	wantShared(t, logOf(0, 0, noneOf(1, 1)...), logOf(3, 1, none(1)), -1)
	wantShared(t, logOf(0, 0, noneOf(1, 1)...), logOf(impl.MaxIndex, 1), -1)
	wantShared(t, impl.Log{}, impl.Log{}, 0)
}

func TestSharedOfWrongLogs(t *testing.T) {
	for _, wrong := range wrongLogs() {
		wantShared(t, wrong, wrong, -1)
		wantShared(t, wrong, impl.Log{}, -1)
		wantShared(t, wrong, fiveEntries(), -1)
		wantShared(t, wrong, logOf(wrong.Start, wrong.StartTerm), -1)
	}
}

// smallLogs has every right log of a few entries of few kinds.
func smallLogs() []impl.Log {
	kinds := []impl.Entry{none(0), none(1), command(1, ""), command(1, "x"), none(2)}
	list := []impl.Log{}
	for length := 0; length <= 3; length++ {
		eachList([]int{0, 1, 2, 3, 4}, length, func(picks []int) {
			entries := []impl.Entry{}
			for _, pick := range picks {
				entries = append(entries, kinds[pick])
			}
			for place := range 9 {
				if l := logOf(place/3, place%3, entries...); impl.LogOk(l) {
					list = append(list, l)
				}
			}
		})
	}
	return list
}

// plainLog has what a log tells of each index: of Start its term alone.
func plainLog(l impl.Log) map[int]impl.Entry {
	told := map[int]impl.Entry{l.Start: {Term: l.StartTerm}}
	for at, e := range l.Entries {
		told[l.Start+1+at] = e
	}
	return told
}

func plainShared(a, b impl.Log) int {
	toldByA, toldByB := plainLog(a), plainLog(b)
	shared := -1
	for index := max(a.Start, b.Start); ; index++ {
		ofA, inA := toldByA[index]
		ofB, inB := toldByB[index]
		alike := ofA == ofB || index == max(a.Start, b.Start) && ofA.Term == ofB.Term
		if !inA || !inB || !alike {
			return shared
		}
		shared = index
	}
}

func TestSharedOfEveryTwoSmallLogs(t *testing.T) {
	logs := smallLogs()
	if len(logs) < 300 {
		t.Fatalf("there are %d small logs alone", len(logs))
	}
	for _, a := range logs {
		for _, b := range logs {
			if got, want := impl.Shared(a, b), plainShared(a, b); got != want {
				t.Fatalf("Shared(%v, %v) = %d; want %d", a, b, got, want)
			}
		}
	}
}

// What two logs share comes out the same of both, from the greater Start on.
func TestWhatTwoLogsShareIsInBoth(t *testing.T) {
	logs := smallLogs()
	for at, a := range logs {
		for _, b := range logs[:at] {
			shared := impl.Shared(a, b)
			if shared == -1 {
				continue
			}
			start := max(a.Start, b.Start)
			term := impl.LogTerm(a, start)
			ofA, ofB := impl.LogBehind(a, start, term), impl.LogBehind(b, start, term)
			count := shared - start
			if impl.LogTerm(a, shared) != impl.LogTerm(b, shared) || !slices.Equal(ofA.Entries[:count], ofB.Entries[:count]) {
				t.Fatalf("%d is not shared by %v and %v", shared, a, b)
			}
			if len(ofA.Entries) > count && len(ofB.Entries) > count && ofA.Entries[count] == ofB.Entries[count] {
				t.Fatalf("%v and %v share more than %d", a, b, shared)
			}
		}
	}
}

func TestLogPutOfEverySmallLog(t *testing.T) {
	entries := []impl.Entry{none(0), none(1), command(1, "x"), none(2), command(2, strings.Repeat("y", 121)), {}, none(-1)}
	for _, l := range smallLogs() {
		for index := -1; index <= 7; index++ {
			for _, e := range entries {
				place := index - l.Start - 1
				if place < 0 || place > len(l.Entries) || !impl.EntryOk(e) || e.Term < impl.LogTerm(l, index-1) {
					wantNoPut(t, l, index, e)
				} else {
					wantPut(t, l, index, e, append(slices.Clone(l.Entries[:place]), e)...)
				}
			}
		}
	}
}

// Entries that take the place of others: whatever came before, the last that
// was put at an index, or behind what was put since, is there.
func TestLogPutOneBehindTheOther(t *testing.T) {
	for seed := range 200 {
		l, want := logOf(seed%5, 0), []impl.Entry{}
		for step := range 150 {
			seed = (seed*1103515245 + 12345) % 2147483648
			place := seed / 65536 % (len(want) + 4)
			if step < 90 {
				place = len(want) + min(0, 1-seed/65536%6)
			}
			e := command(step, bytesOf([]int{seed % 256}))
			put, ok := impl.LogPut(l, l.Start+1+place, e)
			right := place >= 0 && place <= len(want) && place < 60
			if ok != right {
				t.Fatalf("LogPut at the place %d of %d is %v", place, len(want), ok)
			}
			if right {
				want = append(slices.Clone(want[:place]), e)
				l = put
			}
			if !sameLog(l, logOf(l.Start, 0, want...)) {
				t.Fatalf("the log is %.200v; want %.200v", l, want)
			}
		}
	}
}

// roomyLog has spare room behind its entries, in which nothing may be written.
func roomyLog(l impl.Log) (impl.Log, []impl.Entry) {
	whole := append(slices.Clone(l.Entries), command(1, "spare"), none(9), impl.Entry{Term: -1})
	return logOf(l.Start, l.StartTerm, whole[:len(l.Entries)]...), whole
}

func TestLogsAreNotWrittenInto(t *testing.T) {
	for _, one := range append(rightLogs(), wrongLogs()...) {
		l, whole := roomyLog(one)
		was := slices.Clone(whole)
		impl.LogOk(l)
		impl.LogLast(l)
		impl.Shared(l, l)
		for place := -1; place <= len(l.Entries)+2 && place <= 100; place++ {
			index := l.Start + place
			impl.LogPut(l, index, command(impl.MaxTerm, "new"))
			impl.LogPut(l, index, none(0))
			impl.LogBehind(l, index, impl.LogTerm(l, index))
		}
		if !slices.Equal(whole, was) {
			t.Fatalf("%.200v was written into", was)
		}
	}
}

// Two logs that are made of one by LogPut, one by the other, stay what they are.
func TestLogsThatArePutAreNew(t *testing.T) {
	l := fiveEntries()
	first, _ := impl.LogPut(l, 16, command(8, "first"))
	second, _ := impl.LogPut(l, 16, command(9, "second"))
	third, _ := impl.LogPut(first, 17, command(9, "third"))
	fourth, _ := impl.LogPut(first, 17, command(9, "fourth"))
	if first.Entries[5].Data != "first" || second.Entries[5].Data != "second" || third.Entries[6].Data != "third" || fourth.Entries[6].Data != "fourth" {
		t.Errorf("these share a list: %v, %v, %v, %v", first, second, third, fourth)
	}
}

func TestLogsThatAreAnsweredAreNew(t *testing.T) {
	for _, one := range append(rightLogs(), wrongLogs()...) {
		l, whole := roomyLog(one)
		was := slices.Clone(whole)
		for place := 0; place <= len(l.Entries)+1 && place <= 100; place++ {
			index := l.Start + place
			put, _ := impl.LogPut(l, index, command(impl.MaxTerm, "new"))
			behind := impl.LogBehind(l, index, impl.LogTerm(l, index))
			for _, answer := range []impl.Log{put, behind} {
				for at := range answer.Entries {
					answer.Entries[at] = command(at, "written over")
				}
				_ = append(answer.Entries, command(0, "written behind"))
			}
		}
		if !slices.Equal(whole, was) {
			t.Fatalf("what is answered shares memory with %.200v", was)
		}
	}
}

func TestDataThatIsAnsweredIsNew(t *testing.T) {
	l := logOf(0, 1, command(1, mixedBytes(30)), conf(1, bytesOf([]int{1, 3})), command(2, mixedBytes(120)))
	e := command(2, mixedBytes(40))
	put, ok := impl.LogPut(l, 4, e)
	if !ok || len(put.Entries) != 4 {
		t.Fatal("this entry is right")
	}
	behind := impl.LogBehind(l, 0, 1)
	for _, answer := range append(put.Entries, behind.Entries...) {
		for _, old := range append(slices.Clone(l.Entries), e) {
			if lieTogether(answer.Data, old.Data) {
				t.Errorf("the Data of %.60v lies in that of an argument", answer)
			}
		}
	}
}
