package tests

import (
	"fmt"
	"math"
	"slices"
	"strings"
	"testing"

	"loop.example/g00232/impl"
)

func TestMessageLimits(t *testing.T) {
	got := []int{impl.MaxSend, impl.ChunkSize, impl.AskVote, impl.TellVote, impl.AskAppend, impl.TellAppend, impl.AskInstall, impl.TellInstall}
	if !slices.Equal(got, []int{4, 60, 1, 2, 3, 4, 5, 6}) {
		t.Errorf("limits are %v", got)
	}
}

// messageOf carries nothing: of AskInstall it lacks a Conf.
func messageOf(kind, term, index, logTerm, commit int) impl.Message {
	return impl.Message{Kind: kind, From: 1, To: 2, Term: term, Index: index, LogTerm: logTerm, Commit: commit}
}

func changedMessage(m impl.Message, change func(*impl.Message)) impl.Message {
	change(&m)
	return m
}

func eachKind() []int { return []int{1, 2, 3, 4, 5, 6} }

// bareOf carries no more than a message of its Kind must.
func bareOf(kind int) impl.Message {
	m := messageOf(kind, 9, 20, 4, 15)
	if kind == impl.AskInstall {
		m.Conf = []int{1}
	}
	return m
}

// fullOf carries all that a message of its Kind may.
func fullOf(kind int) impl.Message {
	m := messageOf(kind, 300, 20000, 4, 1000000)
	m.From, m.To, m.Ok = 4, 3, true
	switch kind {
	case impl.AskAppend:
		m.Entries = []impl.Entry{none(4), conf(4, "\x01\x03"), command(128, mixedBytes(120)), command(300, "ab")}
	case impl.AskInstall:
		m.Conf, m.Data, m.Last = []int{1, 2, 3, 4}, mixedBytes(60), true
	}
	return m
}

func sameMessage(a, b impl.Message) bool { return toldMessage(a) == toldMessage(b) }

// toldMessage is another text for each other message, right or not.
func toldMessage(m impl.Message) string {
	var out strings.Builder
	fmt.Fprintf(&out, "%d %d %d %d %d %d %d %v %v %v %q", m.Kind, m.From, m.To, m.Term, m.Index, m.LogTerm, m.Commit, m.Ok, m.Last, m.Conf, m.Data)
	for _, e := range m.Entries {
		fmt.Fprintf(&out, " entry %d %d %q", e.Term, e.Kind, e.Data)
	}
	return out.String()
}

func plainEntryOk(e impl.Entry) bool {
	_, isConf := rightConfs()[e.Data]
	return within(e.Term, 0, 100000) && (e.Kind == 1 && e.Data == "" || e.Kind == 2 && isConf || e.Kind == 3 && len(e.Data) <= 120)
}

func plainEntriesOk(m impl.Message) bool {
	if len(m.Entries) == 0 {
		return true
	}
	terms := []int{m.LogTerm}
	for _, e := range m.Entries {
		if !plainEntryOk(e) {
			return false
		}
		terms = append(terms, e.Term)
	}
	return m.Kind == 3 && len(m.Entries) <= 4 && slices.IsSorted(append(terms, m.Term))
}

func plainMessageOk(m impl.Message) bool {
	heads := within(m.Kind, 1, 6) && within(m.From, 1, 4) && within(m.To, 1, 4) && m.From != m.To
	numbers := within(m.Term, 0, 100000) && within(m.LogTerm, 0, 100000) && within(m.Index, 0, 1000000) && within(m.Commit, 0, 1000000)
	chunk := len(m.Conf) == 0 && m.Data == "" && !m.Last
	if m.Kind == 5 {
		chunk = isRightConf(m.Conf) && len(m.Data) <= 60
	}
	return heads && numbers && chunk && plainEntriesOk(m)
}

func flagPart(up bool) textPart {
	if up {
		return textPart{"\x01", -1}
	}
	return textPart{"\x00", -1}
}

// Where the parts of a message's text stand; behind partCount there is a
// length and a text for each entry.
const (
	partKind = iota
	partFrom
	partTo
	partTerm
	partIndex
	partLogTerm
	partCommit
	partOk
	partLast
	partCount
	partEntries
)

// messageParts are those of a message's text, also of one that Encode refuses.
func messageParts(m impl.Message) []textPart {
	parts := []textPart{{bytesOf([]int{m.Kind}), -1}, {bytesOf([]int{m.From}), -1}, {bytesOf([]int{m.To}), -1}}
	parts = append(parts, numberPart(m.Term), numberPart(m.Index), numberPart(m.LogTerm), numberPart(m.Commit))
	parts = append(parts, flagPart(m.Ok), flagPart(m.Last), numberPart(len(m.Entries)))
	for _, e := range m.Entries {
		parts = append(parts, shortParts(plainEntry(1, e))...)
	}
	parts = append(parts, shortParts(bytesOf(m.Conf))...)
	return append(parts, shortParts(m.Data)...)
}

func plainEncode(m impl.Message) string { return joinedWith(messageParts(m), -1, "") }

// withEntryText has another text in the place of one entry's.
func withEntryText(m impl.Message, at int, text string) string {
	parts := messageParts(m)
	parts[partEntries+2*at] = numberPart(len(text))
	return joinedWith(parts, partEntries+2*at+1, text)
}

// withConfText has this text as that of the Conf.
func withConfText(m impl.Message, text string) string {
	parts := messageParts(m)
	at := len(parts) - 4
	parts[at] = numberPart(len(text))
	return joinedWith(parts, at+1, text)
}

func (p *plainParts) oneByte() int {
	if p.rest == "" {
		p.ok = false
		return 0
	}
	b := int(p.rest[0])
	p.rest = p.rest[1:]
	return b
}

func (p *plainParts) flag() bool {
	b := p.oneByte()
	p.ok = p.ok && b < 2
	return b == 1
}

func (p *plainParts) entry() impl.Entry {
	index, e, ok := plainReadEntry(p.short(20000))
	p.ok = p.ok && ok && index == 1
	return e
}

func plainDecode(text string) (impl.Message, bool) {
	p, m := &plainParts{text, true}, impl.Message{}
	m.Kind, m.From, m.To = p.oneByte(), p.oneByte(), p.oneByte()
	m.Term, m.Index, m.LogTerm, m.Commit = p.number(100000), p.number(1000000), p.number(100000), p.number(1000000)
	m.Ok, m.Last = p.flag(), p.flag()
	for count := p.number(4); count > 0; count-- {
		m.Entries = append(m.Entries, p.entry())
	}
	for _, node := range []byte(p.short(20000)) {
		m.Conf = append(m.Conf, int(node))
	}
	m.Data = p.short(20000)
	if !p.ok || p.rest != "" || !plainMessageOk(m) {
		return impl.Message{}, false
	}
	return m, true
}

func wantMessageOk(t *testing.T, m impl.Message, want bool) {
	t.Helper()
	if got := impl.MessageOk(m); got != want {
		t.Errorf("MessageOk(%.300v) is %v", m, got)
	}
}

func wantEncode(t *testing.T, m impl.Message, want string) {
	t.Helper()
	if got, ok := impl.Encode(m); !ok || got != want {
		t.Errorf("Encode(%.300v) = %.300q, %v; want %.300q", m, got, ok, want)
	}
}

func wantNoEncode(t *testing.T, m impl.Message) {
	t.Helper()
	if got, ok := impl.Encode(m); ok || got != "" {
		t.Errorf("Encode(%.300v) = %.300q, %v; want none", m, got, ok)
	}
}

func wantDecode(t *testing.T, text string, want impl.Message) {
	t.Helper()
	if got, ok := impl.Decode(text); !ok || !sameMessage(got, want) {
		t.Errorf("Decode(%.300q) = %.300v, %v; want %.300v", text, got, ok, want)
	}
}

func wantNoDecode(t *testing.T, text string) {
	t.Helper()
	if got, ok := impl.Decode(text); ok || !sameMessage(got, impl.Message{}) {
		t.Errorf("Decode of the %d bytes %.300q is %.300v, %v; want none", len(text), text, got, ok)
	}
}

// wantRight holds all three functions of a right message against each other.
func wantRight(t *testing.T, m impl.Message) {
	t.Helper()
	wantMessageOk(t, m, true)
	wantEncode(t, m, plainEncode(m))
	wantDecode(t, plainEncode(m), m)
}

// wantWrong tells Decode of it, where it has a text at all.
func wantWrong(t *testing.T, m impl.Message) {
	t.Helper()
	wantMessageOk(t, m, false)
	wantNoEncode(t, m)
	heads := within(m.Kind, 0, 255) && within(m.From, 0, 255) && within(m.To, 0, 255)
	for _, e := range m.Entries {
		heads = heads && e.Term >= 0 && within(e.Kind, 0, 255)
	}
	for _, node := range m.Conf {
		heads = heads && within(node, 0, 255)
	}
	if heads && min(m.Term, m.Index, m.LogTerm, m.Commit) >= 0 {
		wantNoDecode(t, plainEncode(m))
	}
}

func checkMessage(t *testing.T, m impl.Message) bool {
	t.Helper()
	if !plainMessageOk(m) {
		wantWrong(t, m)
		return false
	}
	wantRight(t, m)
	return true
}

// checkDecode also holds what is read against what is written of it.
func checkDecode(t *testing.T, text string) bool {
	t.Helper()
	m, right := plainDecode(text)
	if !right {
		wantNoDecode(t, text)
		return false
	}
	wantDecode(t, text, m)
	wantEncode(t, m, text)
	return true
}

func TestMessagesWrittenOut(t *testing.T) {
	ok := func(m impl.Message) impl.Message { m.Ok = true; return m }
	written := map[string]impl.Message{
		"\x01\x01\x02\x03\x04\x02\x00\x00\x00\x00\x00\x00": messageOf(1, 3, 4, 2, 0),
		"\x02\x01\x02\x03\x00\x00\x00\x01\x00\x00\x00\x00": ok(messageOf(2, 3, 0, 0, 0)),
		"\x02\x01\x02\x03\x00\x00\x00\x00\x00\x00\x00\x00": messageOf(2, 3, 0, 0, 0),
		"\x03\x01\x02\x00\x00\x00\x00\x00\x00\x00\x00\x00": messageOf(3, 0, 0, 0, 0),
		"\x03\x04\x03\x80\x01\xff\x01\x02\x7f\x00\x00\x03\x05E\x01\x02\x03a\x04E\x01\x03\x01\x07E\x01\x80\x01\x02\x01\x04\x00\x00": {
			Kind: 3, From: 4, To: 3, Term: 128, Index: 255, LogTerm: 2, Commit: 127, Entries: []impl.Entry{command(2, "a"), none(3), conf(128, "\x01\x04")}},
		"\x04\x01\x02\xa0\x8d\x06\xc0\x84\x3d\xa0\x8d\x06\xc0\x84\x3d\x01\x00\x00\x00\x00": ok(messageOf(4, 100000, 1000000, 100000, 1000000)),
		"\x05\x03\x01\x02\x09\x01\x00\x00\x00\x00\x02\x01\x03\x00":                         {Kind: 5, From: 3, To: 1, Term: 2, Index: 9, LogTerm: 1, Conf: []int{1, 3}},
		"\x05\x02\x04\x02\x09\x01\x3c\x00\x01\x00\x01\x04\x02\x00\xff":                     {Kind: 5, From: 2, To: 4, Term: 2, Index: 9, LogTerm: 1, Commit: 60, Conf: []int{4}, Data: "\x00\xff", Last: true},
		"\x05\x02\x04\x00\x00\x00\x00\x01\x01\x00\x04\x01\x02\x03\x04\x03abc":              {Kind: 5, From: 2, To: 4, Ok: true, Conf: []int{1, 2, 3, 4}, Data: "abc", Last: true},
		"\x06\x01\x02\x07\x08\x00\x05\x00\x00\x00\x00\x00":                                 messageOf(6, 7, 8, 0, 5),
	}
	for text, m := range written {
		wantMessageOk(t, m, true)
		wantEncode(t, m, text)
		wantDecode(t, text, m)
	}
}

func TestTheLongestMessageComesBack(t *testing.T) {
	m := messageOf(3, 100000, 1000000, 100000, 1000000)
	for range 4 {
		m.Entries = append(m.Entries, command(100000, mixedBytes(120)))
	}
	if text := plainEncode(m); len(text) != 528 {
		t.Fatalf("it has %d bytes", len(text))
	}
	wantRight(t, m)
}

func TestMessagesOfEachKind(t *testing.T) {
	for _, kind := range eachKind() {
		wantRight(t, bareOf(kind))
		wantRight(t, fullOf(kind))
		for _, up := range []bool{true, false} {
			wantRight(t, changedMessage(bareOf(kind), func(m *impl.Message) { m.Ok = up }))
			wantRight(t, changedMessage(fullOf(kind), func(m *impl.Message) { m.Ok = up }))
		}
	}
	for _, kind := range slices.Concat(oddInts(), []int{-3, -2, 7, 8, 9, 254, 255, 256, 257, 258, 259, 260, 261, 262, 1<<32 + 1, 1<<32 + 3, 1<<32 + 5}) {
		for _, of := range eachKind() {
			for _, m := range []impl.Message{bareOf(of), fullOf(of)} {
				m.Kind = kind
				if checkMessage(t, m) && !within(kind, 1, 6) {
					t.Errorf("the Kind %d is right", kind)
				}
			}
		}
	}
	wantWrong(t, impl.Message{})
}

func TestMessagesOfEachFromAndTo(t *testing.T) {
	odd := []int{math.MinInt, -255, -4, -1, 0, 1, 2, 3, 4, 5, 6, 255, 256, 257, 258, 260, 1<<32 + 1, 1<<32 + 4, math.MaxInt}
	right := 0
	for _, kind := range eachKind() {
		for _, from := range odd {
			for _, to := range odd {
				m := fullOf(kind)
				m.From, m.To = from, to
				if checkMessage(t, m) {
					right++
				}
			}
		}
	}
	if right != 6*12 {
		t.Errorf("%d of them are right", right)
	}
}

// messageNumbers are the fields, each with its greatest number.
func messageNumbers() map[int]func(*impl.Message) *int {
	return map[int]func(*impl.Message) *int{
		partTerm:    func(m *impl.Message) *int { return &m.Term },
		partIndex:   func(m *impl.Message) *int { return &m.Index },
		partLogTerm: func(m *impl.Message) *int { return &m.LogTerm },
		partCommit:  func(m *impl.Message) *int { return &m.Commit },
	}
}

func sevenBitEdges() []int {
	return []int{0, 1, 2, 126, 127, 128, 129, 255, 256, 16383, 16384, 16385, 99999, 100000, 100001, 999999, 1000000, 1000001, 2097151, 2097152, 1000000000}
}

// What one of the numbers is says nothing of what another one may be.
func TestMessagesOfEachNumber(t *testing.T) {
	for place, field := range messageNumbers() {
		most := map[int]int{partTerm: 100000, partIndex: 1000000, partLogTerm: 100000, partCommit: 1000000}[place]
		for _, kind := range eachKind() {
			for _, n := range slices.Concat(keepNumbers(), oddInts(), sevenBitEdges()) {
				m := bareOf(kind)
				*field(&m) = n
				if checkMessage(t, m) != within(n, 0, most) {
					t.Errorf("%d at the place %d of the Kind %d is told wrong", n, place, kind)
				}
			}
		}
	}
	for _, kind := range eachKind() {
		eachList([]int{0, 1, 100000}, 2, func(terms []int) {
			eachList([]int{0, 1, 1000000}, 2, func(indexes []int) {
				m := messageOf(kind, terms[0], indexes[0], terms[1], indexes[1])
				m.Conf = bareOf(kind).Conf
				wantRight(t, m)
			})
		})
	}
}

func TestMessagesOfEachNumberOfEntries(t *testing.T) {
	for _, kind := range eachKind() {
		for _, count := range []int{0, 1, 2, 3, 4, 5, 6, 59, 60, 61, 127, 128, 132, 256, 259, 300} {
			for _, term := range []int{4, 6, 9} {
				m := bareOf(kind)
				m.Entries = unlikeEntries(count, term)
				if checkMessage(t, m) != (count == 0 || kind == 3 && count <= 4) {
					t.Errorf("%d entries of the Kind %d are told wrong", count, kind)
				}
			}
		}
	}
}

func TestMessagesOfEachEntry(t *testing.T) {
	withEntries := func(logTerm int, list ...impl.Entry) impl.Message {
		m := messageOf(3, 100000, 20, logTerm, 15)
		m.Entries = list
		return m
	}
	for _, e := range rightEntries() {
		wantRight(t, withEntries(0, e))
		wantRight(t, withEntries(e.Term, e, e, e, e))
		wantRight(t, withEntries(0, none(0), e, none(100000)))
	}
	for _, e := range wrongEntries() {
		for _, m := range []impl.Message{withEntries(0, e), withEntries(0, none(0), e), withEntries(0, e, none(100000)), withEntries(0, none(0), none(2), none(2), e), withEntries(3, none(3), e, none(3))} {
			wantWrong(t, m)
			m.Term = e.Term
			wantWrong(t, m)
		}
	}
	for _, kind := range []int{1, 2, 4, 5, 6} {
		for _, e := range []impl.Entry{none(4), none(9), conf(5, "\x01"), command(6, "x"), {}} {
			wantWrong(t, changedMessage(bareOf(kind), func(m *impl.Message) { m.Entries = []impl.Entry{e} }))
		}
	}
}

// Of terms alone: LogTerm, those of the entries, and Term never fall; but
// LogTerm may be above Term, where no entry stands between.
func TestMessagesOfEveryFewTerms(t *testing.T) {
	for count := range 5 {
		right := 0
		eachList([]int{0, 1, 2, 3}, count+2, func(terms []int) {
			m := messageOf(3, terms[count+1], 20, terms[0], 15)
			m.Entries = noneOf(terms[1 : count+1]...)
			if checkMessage(t, m) != (count == 0 || slices.IsSorted(terms)) {
				t.Errorf("the terms %v are told wrong", terms)
			}
			if impl.MessageOk(m) {
				right++
			}
		})
		if right != []int{16, 20, 35, 56, 84}[count] {
			t.Errorf("%d of those with %d entries are right", right, count)
		}
	}
	for _, terms := range [][]int{{0, 100000, 100000}, {100000, 100000, 100000}, {99999, 100000, 99999}, {100000, 99999, 100000}, {127, 128, 127}, {128, 127, 128}, {0, 100001, 100001}} {
		m := messageOf(3, terms[2], 20, terms[0], 15)
		m.Entries = noneOf(terms[1])
		if checkMessage(t, m) != (slices.IsSorted(terms) && terms[2] <= 100000) {
			t.Errorf("the terms %v are told wrong", terms)
		}
	}
}

func TestMessagesOfEachConf(t *testing.T) {
	for _, kind := range eachKind() {
		for _, conf := range rightConfs() {
			m := changedMessage(bareOf(kind), func(m *impl.Message) { m.Conf = conf })
			if checkMessage(t, m) != (kind == 5) {
				t.Errorf("the Conf %v of the Kind %d is told wrong", conf, kind)
			}
		}
		for _, conf := range wrongConfs() {
			for _, of := range []impl.Message{bareOf(kind), fullOf(kind)} {
				of.Conf = conf
				if checkMessage(t, of) != (kind != 5 && len(conf) == 0) {
					t.Errorf("the Conf %v of the Kind %d is told wrong", conf, kind)
				}
			}
		}
	}
}

func TestMessagesOfEachDataAndLast(t *testing.T) {
	for _, kind := range eachKind() {
		for _, length := range slices.Concat(lengthsTo(130), []int{255, 256, 257, 300, 316, 20000, 20001, 70000}) {
			for _, last := range []bool{true, false} {
				m := bareOf(kind)
				m.Data, m.Last = mixedBytes(length), last
				if checkMessage(t, m) != (kind == 5 && length <= 60 || length == 0 && !last) {
					t.Errorf("Data of %d bytes and Last %v of the Kind %d are told wrong", length, last, kind)
				}
			}
		}
	}
	for b := range 256 {
		wantRight(t, changedMessage(bareOf(5), func(m *impl.Message) { m.Data = bytesOf([]int{b}) }))
		wantWrong(t, changedMessage(bareOf(1+b%4), func(m *impl.Message) { m.Data = bytesOf([]int{b}) }))
	}
}

// What no sentence speaks of may be whatever it is.
func TestMessagesWhoseFieldsAreNotTold(t *testing.T) {
	m := fullOf(3)
	m.Index, m.Commit = 1000000, 0
	wantRight(t, m)
	m.Index, m.Commit = 0, 1000000
	wantRight(t, m)
	install := fullOf(5)
	install.From, install.To, install.Conf = 1, 2, []int{3, 4}
	install.Index, install.Commit, install.LogTerm, install.Term = 0, 1000000, 100000, 0
	wantRight(t, install)
	install.Data, install.Last = "", true
	wantRight(t, install)
	install.Data, install.Last = mixedBytes(3), false
	wantRight(t, install)
	for _, kind := range eachKind() {
		for _, ok := range []bool{true, false} {
			list := [][]int{{0, 1000000, 100000, 1000000}, {0, 0, 0, 0}, {100000, 0, 0, 1000000}, {3, 7, 9, 8}}
			for _, n := range list {
				m := messageOf(kind, n[0], n[1], n[2], n[3])
				m.Ok, m.Conf = ok, bareOf(kind).Conf
				wantRight(t, m)
			}
		}
	}
}

// someMessages are of each Kind, bare and full, with numbers of one byte and
// of more.
func someMessages() []impl.Message {
	list := []impl.Message{}
	for _, kind := range eachKind() {
		list = append(list, bareOf(kind), fullOf(kind))
	}
	one := messageOf(3, 128, 127, 0, 129)
	one.Entries = []impl.Entry{conf(1, "\x02\x03\x04")}
	some := bareOf(5)
	some.Term, some.Index, some.LogTerm, some.Commit = 16384, 16383, 100000, 300
	some.Conf, some.Data = []int{2, 3}, "\x00\x01\x02"
	return append(list, one, some, messageOf(6, 100000, 1000000, 100000, 1000000))
}

func TestDecodeOfNoMessage(t *testing.T) {
	for _, text := range []string{"", "\x01", "\x01\x01\x02", "x", "\x00", "\xff", strings.Repeat("\x00", 12), strings.Repeat("\x01", 12), strings.Repeat("\xff", 12), "no message", mixedBytes(12), mixedBytes(528), mixedBytes(20000), mixedBytes(70000)} {
		wantNoDecode(t, text)
	}
}

func TestDecodeOfTextsThatAreCut(t *testing.T) {
	for _, m := range someMessages() {
		text := plainEncode(m)
		for cut := range len(text) {
			wantNoDecode(t, text[:cut])
			checkDecode(t, text[cut+1:])
			checkDecode(t, text[:cut]+text[cut+1:])
		}
	}
}

func TestDecodeOfTextsWithMore(t *testing.T) {
	for _, m := range someMessages() {
		text := plainEncode(m)
		for b := range 256 {
			wantNoDecode(t, text+bytesOf([]int{b}))
			checkDecode(t, bytesOf([]int{b})+text)
		}
		wantNoDecode(t, text+text)
		wantNoDecode(t, text+mixedBytes(20000))
	}
}

func TestDecodeOfTextsWithOneByteTurned(t *testing.T) {
	read := 0
	for _, m := range someMessages() {
		text := plainEncode(m)
		for at := range len(text) {
			for b := range 256 {
				turned := turnedTo(text, at, b)
				if turned == text || !checkDecode(t, turned) {
					continue
				}
				read++
				if got, _ := impl.Decode(turned); sameMessage(got, m) {
					t.Errorf("%q and %q are one message", text, turned)
				}
			}
		}
	}
	if read < 1000 {
		t.Errorf("%d of the texts alone were read", read)
	}
}

func turnedTo(text string, at, b int) string { return text[:at] + bytesOf([]int{b}) + text[at+1:] }

func TestDecodeOfEachByteOfTheHead(t *testing.T) {
	for _, m := range someMessages() {
		text := plainEncode(m)
		for b := range 256 {
			checkDecode(t, turnedTo(text, partKind, b))
			if !within(b, 1, 6) {
				wantNoDecode(t, turnedTo(text, partKind, b))
			}
			for _, at := range []int{partFrom, partTo} {
				other := []int{m.From, m.To}[partTo-at]
				if checkDecode(t, turnedTo(text, at, b)) != (within(b, 1, 4) && b != other) {
					t.Errorf("the byte %d at %d is told wrong", b, at)
				}
			}
		}
	}
}

func TestDecodeOfEachByteForAFlag(t *testing.T) {
	for _, m := range someMessages() {
		parts := messageParts(m)
		for b := range 256 {
			one := bytesOf([]int{b})
			if checkDecode(t, joinedWith(parts, partOk, one)) != (b < 2) {
				t.Errorf("the byte %d for Ok is told wrong", b)
			}
			if checkDecode(t, joinedWith(parts, partLast, one)) != (b == 0 || b == 1 && m.Kind == 5) {
				t.Errorf("the byte %d for Last is told wrong of the Kind %d", b, m.Kind)
			}
		}
		for _, longer := range slices.Concat(longerNumbers(0), longerNumbers(1), greatNumbers(), []string{"", "\x00\x00", "\x01\x01", "true"}) {
			wantNoDecode(t, joinedWith(parts, partOk, longer))
			wantNoDecode(t, joinedWith(parts, partLast, longer))
		}
	}
}

func TestDecodeOfNumbersInALongerForm(t *testing.T) {
	for _, m := range someMessages() {
		parts := messageParts(m)
		for at, part := range parts {
			if part.number < 0 {
				continue
			}
			for _, longer := range longerNumbers(part.number) {
				wantNoDecode(t, joinedWith(parts, at, longer))
			}
		}
	}
}

func TestDecodeOfEachNumberAtEachPlace(t *testing.T) {
	for _, m := range someMessages() {
		parts := messageParts(m)
		for at, part := range parts {
			if part.number < 0 {
				continue
			}
			for _, n := range slices.Concat(keepNumbers(), sevenBitEdges()) {
				if n >= 0 {
					checkDecode(t, joinedWith(parts, at, plainNumber(n)))
				}
			}
			for _, great := range greatNumbers() {
				wantNoDecode(t, joinedWith(parts, at, great))
			}
		}
	}
}

// A number that is one too small leaves bytes, one that is too great wants some.
func TestDecodeOfAnotherNumberOfEntries(t *testing.T) {
	for count := range 5 {
		m := bareOf(3)
		m.Entries = unlikeEntries(count, 6)
		for told := range 300 {
			if text := joinedWith(messageParts(m), partCount, plainNumber(told)); told != count {
				wantNoDecode(t, text)
			}
		}
	}
	one := plainShort(plainEntry(1, none(6)))
	for _, count := range []int{5, 6, 8, 60, 127, 128, 132, 256, 260} {
		for _, kind := range eachKind() {
			parts := messageParts(bareOf(kind))
			wantNoDecode(t, joinedWith(parts, partCount, plainNumber(count)))
			wantNoDecode(t, joinedWith(parts, partCount, plainNumber(count)+strings.Repeat(one, count)))
		}
	}
	for _, great := range append(greatNumbers(), plainNumber(impl.MaxNumber), plainNumber(1<<24)) {
		parts := messageParts(bareOf(3))
		wantNoDecode(t, joinedWith(parts, partCount, great))
		wantNoDecode(t, joinedWith(parts, partCount, great+strings.Repeat(one, 3000)))
	}
}

// noEntryTexts are none with the index 1, each for one reason of its own.
func noEntryTexts() []string {
	list := []string{"", "E", "e\x01\x05\x01", "\x01\x05\x01", "E\x01", "E\x01\x05", "E\x01\x05\x00", "E\x01\x05\x04", "E\x01\x05\x01x", "EE\x01\x05\x01", "x", "B\x00\x00", "H\x00\x00", mixedBytes(126), mixedBytes(20000), mixedBytes(20001)}
	for _, index := range []int{0, 2, 3, 20, 21, 127, 128, 129, 257, 1000000, 1000001} {
		list = append(list, plainEntry(index, none(5)), plainEntry(index, conf(5, "\x01")), plainEntry(index, command(5, "x")))
	}
	for _, longer := range longerNumbers(1) {
		list = append(list, "E"+longer+"\x05\x03x")
	}
	for _, longer := range longerNumbers(5) {
		list = append(list, "E\x01"+longer+"\x03x")
	}
	for _, great := range greatNumbers() {
		list = append(list, "E"+great+"\x05\x03x", "E\x01"+great+"\x03x")
	}
	for _, e := range wrongEntries() {
		if e.Term >= 0 && within(e.Kind, 0, 255) {
			list = append(list, plainEntry(1, e))
		}
	}
	return list
}

func TestDecodeOfEntriesThatAreNone(t *testing.T) {
	m := messageOf(3, 100000, 20, 0, 15)
	for count := 1; count <= 4; count++ {
		m.Entries = unlikeEntries(count, 5)
		for at := range count {
			for _, text := range noEntryTexts() {
				wantNoDecode(t, withEntryText(m, at, text))
			}
			checkDecode(t, withEntryText(m, at, "E\x01\x05\x03x"))
			wantDecode(t, withEntryText(m, at, plainEntry(1, m.Entries[at])), m)
		}
	}
}

func TestDecodeOfEntriesWithOneByteTurned(t *testing.T) {
	m, read := messageOf(3, 100000, 20, 0, 15), 0
	m.Entries = []impl.Entry{none(2), conf(128, "\x01\x03"), command(128, "abc"), command(300, "")}
	for place, e := range m.Entries {
		text := plainEntry(1, e)
		for at := range len(text) {
			for b := range 256 {
				one := bytesOf([]int{b})
				for _, other := range []string{turnedTo(text, at, b), text[:at] + one + text[at:], text + one, text[:at] + text[at+1:], text[:at]} {
					if checkDecode(t, withEntryText(m, place, other)) {
						read++
					}
				}
			}
		}
	}
	if read < 1000 {
		t.Errorf("%d of the texts alone were read", read)
	}
}

func TestDecodeOfConfsThatAreNone(t *testing.T) {
	for _, text := range wrongConfTexts() {
		for _, kind := range eachKind() {
			for _, m := range []impl.Message{bareOf(kind), fullOf(kind)} {
				if checkDecode(t, withConfText(m, text)) != (text == "" && kind != 5) {
					t.Errorf("the conf %.30q of the Kind %d is told wrong", text, kind)
				}
			}
		}
	}
	for text, conf := range rightConfs() {
		m := changedMessage(fullOf(5), func(m *impl.Message) { m.Conf = conf })
		wantDecode(t, withConfText(fullOf(5), text), m)
		for _, kind := range []int{1, 2, 3, 4, 6} {
			wantNoDecode(t, withConfText(fullOf(kind), text))
		}
	}
	for length := range 6 {
		eachList([]int{0, 1, 2, 3, 4, 5, 129}, min(length, 4), func(list []int) {
			checkDecode(t, withConfText(bareOf(5), bytesOf(list)+strings.Repeat("\x04", length-min(length, 4))))
		})
	}
}

func TestDecodeOfEveryShortText(t *testing.T) {
	read := 0
	for _, kind := range []string{"", "\x00", "\x01", "\x03", "\x05", "\x06", "\x07"} {
		for length := range 7 {
			eachList([]int{0, 1, 2, 128}, length, func(list []int) {
				for _, behind := range []string{"", "\x00", "\x00\x00", "\x00\x00\x00\x00"} {
					if checkDecode(t, kind+"\x02\x01\x05"+bytesOf(list)+behind) {
						read++
					}
				}
			})
		}
	}
	if read < 100 {
		t.Errorf("%d texts alone were read", read)
	}
}

func drawnRightEntry(draw func(int) int, term int) impl.Entry {
	switch draw(3) {
	case 0:
		return none(term)
	case 1:
		return conf(term, []string{"\x01", "\x02\x04", "\x01\x02\x03", "\x01\x02\x03\x04"}[draw(4)])
	}
	return command(term, drawnBytes(draw, draw(121)))
}

func drawnMessage(draw func(int) int) impl.Message {
	m := messageOf(1+draw(6), drawnUpTo(draw, 100000), drawnUpTo(draw, 1000000), drawnUpTo(draw, 100000), drawnUpTo(draw, 1000000))
	m.From, m.Ok = 1+draw(4), draw(2) == 0
	m.To = 1 + (m.From+draw(3))%4
	switch m.Kind {
	case impl.AskAppend:
		terms := []int{m.LogTerm, m.Term}
		for range draw(5) {
			terms = append(terms, drawnUpTo(draw, 100000))
		}
		slices.Sort(terms)
		last := len(terms) - 1
		m.LogTerm, m.Term = terms[0], terms[last]
		for _, term := range terms[1:last] {
			m.Entries = append(m.Entries, drawnRightEntry(draw, term))
		}
	case impl.AskInstall:
		m.Conf = [][]int{{1}, {3}, {2, 4}, {1, 2, 3}, {1, 2, 3, 4}}[draw(5)]
		m.Data, m.Last = drawnBytes(draw, draw(61)), draw(2) == 0
	}
	return m
}

// Two messages have two texts, and what is read of a spoilt one is another.
func TestDrawnMessagesComeBack(t *testing.T) {
	draw, read, texts := drawsFrom(170), 0, map[string]string{}
	for range 30000 {
		m := drawnMessage(draw)
		text := plainEncode(m)
		if !plainMessageOk(m) {
			t.Fatalf("%v is drawn", m)
		}
		wantRight(t, m)
		told := toldMessage(m)
		if other, there := texts[text]; there && other != told {
			t.Errorf("%s and %s have one text", told, other)
		}
		texts[text] = told
		spoilt := drawnSpoilt(draw, text)
		if checkDecode(t, spoilt) {
			read++
			other, _ := impl.Decode(spoilt)
			if sameMessage(m, other) != (text == spoilt) {
				t.Errorf("%q and %q are one message", text, spoilt)
			}
		}
	}
	if read < 3000 || read > 27000 {
		t.Errorf("%d spoilt texts were read", read)
	}
}

// drawnOddly changes one thing or two of a message to an edge, or beyond.
func drawnOddly(draw func(int) int, m impl.Message, numbers []int, wrongs []impl.Entry, confs [][]int) impl.Message {
	number := func() int { return numbers[draw(len(numbers))] }
	for range 1 + draw(2) {
		switch draw(11) {
		case 0:
			m.Kind = draw(9)
		case 1:
			m.From, m.To = draw(6), draw(6)
		case 2:
			m.Term = number()
		case 3:
			m.Index = number()
		case 4:
			m.LogTerm = number()
		case 5:
			m.Commit = number()
		case 6:
			m.Ok, m.Last = !m.Ok, draw(2) == 0
		case 7:
			m.Entries = append(slices.Clone(m.Entries), none(draw(max(m.Term%200000, 0)+2)))
		case 8:
			m.Entries = append(slices.Clone(m.Entries), wrongs[draw(len(wrongs))])
		case 9:
			m.Conf = confs[draw(len(confs))]
		case 10:
			m.Data = drawnBytes(draw, []int{0, 1, 59, 60, 61, 62, 127, 128}[draw(8)])
		}
	}
	return m
}

// No call panics, whatever it is given; and what is right is told.
func TestMessagesOfWhateverIsGiven(t *testing.T) {
	draw, right := drawsFrom(171), 0
	numbers := slices.Concat(sevenBitEdges(), []int{-1, math.MinInt, math.MaxInt})
	wrongs, confs := wrongEntries(), wrongConfs()
	for range 30000 {
		if checkMessage(t, drawnOddly(draw, drawnMessage(draw), numbers, wrongs, confs)) {
			right++
		}
		checkDecode(t, drawnBytes(draw, draw(40)))
	}
	if right < 3000 || right > 27000 {
		t.Errorf("%d of them are right", right)
	}
	wantWrong(t, impl.Message{Kind: 3, From: 1, To: 2, Entries: make([]impl.Entry, 100000)})
	wantWrong(t, impl.Message{Kind: 5, From: 1, To: 2, Conf: make([]int, 100000)})
}

func copyOfMessage(m impl.Message) impl.Message {
	m.Entries, m.Conf, m.Data = slices.Clone(m.Entries), slices.Clone(m.Conf), strings.Clone(m.Data)
	for at := range m.Entries {
		m.Entries[at].Data = strings.Clone(m.Entries[at].Data)
	}
	return m
}

// roomyMessage has spare room behind its lists, which are all in the second.
func roomyMessage(m impl.Message) (impl.Message, impl.Message) {
	whole := copyOfMessage(m)
	whole.Entries = append(whole.Entries, command(-8, "spare"), none(-9))
	whole.Conf = append(whole.Conf, -8, -9)
	m = copyOfMessage(whole)
	m.Entries, m.Conf = whole.Entries[:len(whole.Entries)-2], whole.Conf[:len(whole.Conf)-2]
	return m, whole
}

func textsOfMessage(m impl.Message) []string {
	list := []string{m.Data}
	for _, e := range m.Entries {
		list = append(list, e.Data)
	}
	return list
}

func spoilMessage(m impl.Message) {
	ofEntries, ofConf := m.Entries[:cap(m.Entries)], m.Conf[:cap(m.Conf)]
	for at := range ofEntries {
		ofEntries[at] = command(-7, "spoilt")
	}
	for at := range ofConf {
		ofConf[at] = -7
	}
}

func memoryMessages() []impl.Message {
	list := someMessages()
	for _, kind := range eachKind() {
		wrong := fullOf(kind)
		wrong.To = wrong.From
		all := fullOf(kind)
		all.Entries, all.Conf, all.Data = unlikeEntries(5, 9), []int{4, 3, 2}, mixedBytes(61)
		list = append(list, wrong, all)
	}
	return append(list, impl.Message{})
}

func TestMessagesAreNewAndWriteIntoNothing(t *testing.T) {
	for _, one := range memoryMessages() {
		m, whole := roomyMessage(one)
		was := copyOfMessage(whole)
		impl.MessageOk(m)
		text, ok := impl.Encode(m)
		wantNewTexts(t, []string{text}, append(textsOfMessage(m), textsOfMessage(whole)...)...)
		if !ok {
			text = plainEncode(m)
		}
		first, _ := impl.Decode(text)
		second, _ := impl.Decode(text)
		wantNewTexts(t, append(textsOfMessage(first), textsOfMessage(second)...), text)
		wantNewTexts(t, textsOfMessage(first), textsOfMessage(second)...)
		spoilMessage(first)
		if third, _ := impl.Decode(text); !sameMessage(whole, was) || !sameMessage(second, third) {
			t.Fatalf("a message was written into, or is shared: %.300v, %.300v", whole, second)
		}
	}
}

// No two texts of one answer lie together, either.
func TestTextsOfMessagesLieApart(t *testing.T) {
	for _, kind := range []int{impl.AskAppend, impl.AskInstall} {
		m, ok := impl.Decode(plainEncode(fullOf(kind)))
		texts := textsOfMessage(m)
		if !ok {
			t.Fatal("this message is right")
		}
		for at := range texts {
			wantNewTexts(t, texts[:at], texts[at])
		}
	}
}

// What was answered ahead says nothing of what is answered.
func TestMessagesKeepNothing(t *testing.T) {
	for range 3 {
		for _, m := range someMessages() {
			text := plainEncode(m)
			wantRight(t, m)
			wantWrong(t, impl.Message{})
			wantNoDecode(t, text+"\x00")
			wantDecode(t, text, m)
			wantNoDecode(t, text[:len(text)-1])
			wantNoDecode(t, "")
			wantRight(t, bareOf(1))
		}
	}
}
