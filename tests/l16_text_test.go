package tests

import (
	"fmt"
	"math"
	"slices"
	"strings"
	"testing"

	"loop.example/g00232/impl"
)

// A textPart is a number of a text, or bytes, which have the number -1.
type textPart struct {
	text   string
	number int
}

func numberPart(n int) textPart { return textPart{plainNumber(n), n} }

func shortParts(s string) []textPart { return []textPart{numberPart(len(s)), {s, -1}} }

// keepParts are those of a keep's text, also of one that KeepText refuses.
func keepParts(k impl.Keep) []textPart {
	parts := []textPart{numberPart(len(k.Sessions))}
	for _, s := range k.Sessions {
		parts = append(parts, numberPart(s.Token), numberPart(s.Last))
		parts = append(parts, shortParts(s.Reply)...)
	}
	parts = append(parts, numberPart(len(k.Items)))
	for _, i := range k.Items {
		parts = append(parts, shortParts(i.Key)...)
		parts = append(parts, shortParts(i.Val)...)
		parts = append(parts, numberPart(i.Ver))
	}
	return parts
}

func commandParts(x impl.Command) []textPart {
	parts := []textPart{{bytesOf([]int{x.Op}), -1}, numberPart(x.Token), numberPart(x.Seq)}
	parts = append(parts, shortParts(x.Key)...)
	parts = append(parts, shortParts(x.Val)...)
	return append(parts, numberPart(x.Ver))
}

// joinedWith has another text in the place of one part; of none, when at is -1.
func joinedWith(parts []textPart, at int, other string) string {
	var out strings.Builder
	for place, part := range parts {
		if place == at {
			out.WriteString(other)
		} else {
			out.WriteString(part.text)
		}
	}
	return out.String()
}

func plainKeepText(k impl.Keep) string { return joinedWith(keepParts(k), -1, "") }

// plainParts are read one behind the other, from what is left of a text.
type plainParts struct {
	rest string
	ok   bool
}

func (p *plainParts) number(limit int) int {
	n, rest, ok := plainReadNumber(p.rest, limit)
	p.rest, p.ok = rest, p.ok && ok
	return n
}

func (p *plainParts) short(limit int) string {
	length := p.number(limit)
	if !p.ok || length > len(p.rest) {
		p.ok = false
		return ""
	}
	s := p.rest[:length]
	p.rest = p.rest[length:]
	return s
}

func plainReadKeep(text string) (impl.Keep, bool) {
	p, k := &plainParts{text, true}, impl.Keep{}
	for count := p.number(3); count > 0; count-- {
		token, last := p.number(1000000), p.number(1000000)
		k.Sessions = append(k.Sessions, session(token, last, p.short(40)))
	}
	for count := p.number(8); count > 0; count-- {
		key, val := p.short(8), p.short(20)
		k.Items = append(k.Items, item(key, val, p.number(1000000000)))
	}
	if !p.ok || p.rest != "" || !plainKeepOk(k) {
		return impl.Keep{}, false
	}
	return k, true
}

func plainReadCommand(text string) (impl.Command, bool) {
	if text == "" {
		return impl.Command{}, false
	}
	p, x := &plainParts{text[1:], true}, impl.Command{Op: int(text[0])}
	x.Token, x.Seq = p.number(1000000), p.number(1000000)
	x.Key, x.Val = p.short(8), p.short(20)
	x.Ver = p.number(1000000000)
	if !p.ok || p.rest != "" || !plainCommandOk(x) {
		return impl.Command{}, false
	}
	return x, true
}

func wantKeepText(t *testing.T, k impl.Keep, want string) {
	t.Helper()
	if got, ok := impl.KeepText(k); !ok || got != want {
		t.Errorf("KeepText(%.300v) = %.300q, %v; want %.300q", k, got, ok, want)
	}
}

func wantNoKeepText(t *testing.T, k impl.Keep) {
	t.Helper()
	if got, ok := impl.KeepText(k); ok || got != "" {
		t.Errorf("KeepText(%.300v) = %.300q, %v; want none", k, got, ok)
	}
}

func wantReadKeep(t *testing.T, text string, want impl.Keep) {
	t.Helper()
	if got, ok := impl.ReadKeep(text); !ok || !sameKeep(got, want) {
		t.Errorf("ReadKeep(%.300q) = %.300v, %v; want %.300v", text, got, ok, want)
	}
}

func wantNoReadKeep(t *testing.T, text string) {
	t.Helper()
	if got, ok := impl.ReadKeep(text); ok || !sameKeep(got, impl.Keep{}) {
		t.Errorf("ReadKeep of the %d bytes %.300q is %.300v, %v; want none", len(text), text, got, ok)
	}
}

func wantCommandText(t *testing.T, x impl.Command, want string) {
	t.Helper()
	if got, ok := impl.CommandText(x); !ok || got != want {
		t.Errorf("CommandText(%.300v) = %.300q, %v; want %.300q", x, got, ok, want)
	}
}

func wantNoCommandText(t *testing.T, x impl.Command) {
	t.Helper()
	if got, ok := impl.CommandText(x); ok || got != "" {
		t.Errorf("CommandText(%.300v) = %.300q, %v; want none", x, got, ok)
	}
}

func wantReadCommand(t *testing.T, text string, want impl.Command) {
	t.Helper()
	if got, ok := impl.ReadCommand(text); !ok || got != want {
		t.Errorf("ReadCommand(%.300q) = %.300v, %v; want %.300v", text, got, ok, want)
	}
}

func wantNoReadCommand(t *testing.T, text string) {
	t.Helper()
	if got, ok := impl.ReadCommand(text); ok || got != (impl.Command{}) {
		t.Errorf("ReadCommand of the %d bytes %.300q is %.300v, %v; want none", len(text), text, got, ok)
	}
}

// checkReadKeep also holds what is read against what is written of it.
func checkReadKeep(t *testing.T, text string) bool {
	t.Helper()
	k, right := plainReadKeep(text)
	if !right {
		wantNoReadKeep(t, text)
		return false
	}
	wantReadKeep(t, text, k)
	wantKeepText(t, k, text)
	return true
}

func checkReadCommand(t *testing.T, text string) bool {
	t.Helper()
	x, right := plainReadCommand(text)
	if !right {
		wantNoReadCommand(t, text)
		return false
	}
	wantReadCommand(t, text, x)
	wantCommandText(t, x, text)
	return true
}

func TestKeepsWrittenOut(t *testing.T) {
	written := map[string]impl.Keep{
		"\x00\x00":                               {},
		"\x00\x01\x04root\x00\x01":               impl.KeepNew(),
		"\x01\x01\x00\x00\x00":                   keepOf(sessions(session(1, 0, "")), nil),
		"\x01\x03\x02\x05put 9\x00":              keepOf(sessions(session(3, 2, "put 9")), nil),
		"\x01\x80\x01\xff\x01\x00\x00":           keepOf(sessions(session(128, 255, "")), nil),
		"\x00\x01\x01k\x02vw\xac\x02":            keepOf(nil, items(item("k", "vw", 300))),
		"\x00\x02\x01a\x00\x01\x01b\x01\x00\x02": keepOf(nil, items(item("a", "", 1), item("b", "\x00", 2))),
		"\x01\x7f\x01\x01r\x01\x01k\x01v\x7f":    keepOf(sessions(session(127, 1, "r")), items(item("k", "v", 127))),
		"\x02\x01\x04\x00\xc0\x84\x3d\xc0\x84\x3d\x02ab\x01\x08\x00\xff345678\x03xyz\x80\x94\xeb\xdc\x03": keepOf(
			sessions(session(1, 4, ""), session(1000000, 1000000, "ab")), items(item("\x00\xff345678", "xyz", 1000000000))),
		"\x03\x0a\x05\x06put 40\x14\x00\x00\x1e\x07\x06is 9 v\x03\x01a\x01x\x28\x01b\x00\x29\x04root\x01v\x09": threeKeep(),
	}
	for text, k := range written {
		wantKeepText(t, k, text)
		wantReadKeep(t, text, k)
	}
}

// fullKeep has all that a keep may have: no text is longer than its own.
func fullKeep() impl.Keep {
	k := impl.Keep{}
	for at := range 3 {
		k.Sessions = append(k.Sessions, session(999998+at, 1000000, mixedBytes(40)))
	}
	for at := range 8 {
		k.Items = append(k.Items, item(bytesOf([]int{at})+mixedBytes(7), mixedBytes(20), 1000000000))
	}
	return k
}

func TestTheLongestKeepComesBack(t *testing.T) {
	text := plainKeepText(fullKeep())
	if len(text) != 423 {
		t.Fatalf("it has %d bytes", len(text))
	}
	wantKeepText(t, fullKeep(), text)
	wantReadKeep(t, text, fullKeep())
}

// rightKeeps have each number of Sessions and Items, and each limit of each
// field.
func rightKeeps() []impl.Keep {
	list := []impl.Keep{impl.KeepNew(), threeKeep(), fullKeep()}
	for count := range 4 {
		for many := range 9 {
			list = append(list, keepOf(manySessions(count), manyItems(many)))
		}
	}
	for _, n := range []int{1, 2, 126, 127, 128, 129, 255, 256, 16383, 16384, 16385, 399999, 400000, 999999, 1000000} {
		list = append(list, keepOf(sessions(session(n, 3, "r")), nil), keepOf(sessions(session(3, n, "r")), nil), keepOf(sessions(session(n, 0, "")), manyItems(2)))
		list = append(list, keepOf(nil, items(item("k", "v", n))))
	}
	for _, n := range []int{1000001, 2097151, 2097152, 268435455, 268435456, 999999999, 1000000000} {
		list = append(list, keepOf(nil, items(item("k", "v", n))))
	}
	for length := range 41 {
		list = append(list, keepOf(sessions(session(9, 1, mixedBytes(length))), manyItems(1)))
		if length <= 20 {
			list = append(list, keepOf(manySessions(1), items(item("k", mixedBytes(length), 7))))
		}
		if within(length, 1, 8) {
			list = append(list, keepOf(manySessions(1), items(item(mixedBytes(length), "v", 7))))
		}
	}
	return list
}

func TestKeepsComeBackFromTheirBytes(t *testing.T) {
	for _, k := range rightKeeps() {
		wantKeepOk(t, k, true)
		wantKeepText(t, k, plainKeepText(k))
		wantReadKeep(t, plainKeepText(k), k)
	}
}

func TestKeepTextOfWrongKeeps(t *testing.T) {
	for _, k := range wrongKeeps() {
		wantNoKeepText(t, k)
	}
	for _, n := range keepNumbers() {
		for _, k := range []impl.Keep{keepOf(sessions(session(n, 3, "r")), nil), keepOf(sessions(session(3, n, "r")), nil), keepOf(nil, items(item("k", "v", n)))} {
			if plainKeepOk(k) {
				wantKeepText(t, k, plainKeepText(k))
			} else {
				wantNoKeepText(t, k)
			}
		}
	}
	for _, length := range []int{19000, 20000, 20001, 70000} {
		wantNoKeepText(t, keepOf(sessions(session(1, 1, mixedBytes(length))), nil))
		wantNoKeepText(t, keepOf(nil, items(item("k", mixedBytes(length), 1))))
		wantNoKeepText(t, keepOf(nil, items(item(mixedBytes(length), "", 1))))
	}
	for _, count := range []int{4, 5, 127, 128, 256, 259} {
		wantNoKeepText(t, keepOf(manySessions(count), nil))
	}
	for _, count := range []int{9, 10, 100} {
		wantNoKeepText(t, keepOf(nil, manyItems(count)))
	}
}

func TestReadKeepOfNoKeep(t *testing.T) {
	for _, text := range []string{"", "\x00", "\x01", "\x00\x00\x00", "x", "\x80", "\x80\x00", "\xff\xff\xff\xff\xff", "\x00\x01", "\x00\x01\x04root", strings.Repeat("\x00", 423), mixedBytes(100), mixedBytes(423), mixedBytes(20000), mixedBytes(70000)} {
		wantNoReadKeep(t, text)
	}
}

func TestReadKeepOfTextsThatAreCut(t *testing.T) {
	for _, k := range rightKeeps() {
		text := plainKeepText(k)
		for cut := range len(text) {
			wantNoReadKeep(t, text[:cut])
		}
	}
	for _, k := range []impl.Keep{threeKeep(), fullKeep(), impl.KeepNew()} {
		text := plainKeepText(k)
		for cut := range len(text) {
			checkReadKeep(t, text[cut+1:])
			checkReadKeep(t, text[:cut]+text[cut+1:])
		}
	}
}

func TestReadKeepOfTextsWithMore(t *testing.T) {
	for _, k := range rightKeeps() {
		text := plainKeepText(k)
		for b := range 256 {
			wantNoReadKeep(t, text+bytesOf([]int{b}))
		}
		wantNoReadKeep(t, text+text)
		wantNoReadKeep(t, text+mixedBytes(20000))
	}
}

func TestReadKeepOfTextsWithOneByteTurned(t *testing.T) {
	read := 0
	for _, k := range []impl.Keep{{}, impl.KeepNew(), threeKeep(), fullKeep(), keepOf(manySessions(3), manyItems(8))} {
		text := plainKeepText(k)
		for at := range len(text) {
			for b := range 256 {
				turned := text[:at] + bytesOf([]int{b}) + text[at+1:]
				if turned == text || !checkReadKeep(t, turned) {
					continue
				}
				read++
				if got, _ := impl.ReadKeep(turned); impl.SameKeep(got, k) {
					t.Errorf("%q and %q are one keep", text, turned)
				}
			}
		}
	}
	if read < 1000 {
		t.Errorf("%d of the texts alone were read", read)
	}
}

// Each number stands at each place of a text once.
func TestReadKeepOfNumbersInALongerForm(t *testing.T) {
	for _, k := range []impl.Keep{{}, impl.KeepNew(), threeKeep(), fullKeep(), keepOf(manySessions(3), manyItems(8)), keepOf(sessions(session(127, 128, "r")), items(item("k", "v", 16384)))} {
		parts := keepParts(k)
		for at, part := range parts {
			if part.number < 0 {
				continue
			}
			for _, longer := range longerNumbers(part.number) {
				wantNoReadKeep(t, joinedWith(parts, at, longer))
			}
		}
	}
}

// greatNumbers are beyond MaxNumber, or no number at all.
func greatNumbers() []string {
	return []string{"\x81\x94\xeb\xdc\x03", "\xff\xff\xff\xff\x07", "\xff\xff\xff\xff\x7f", "\x81\x80\x80\x80\x80\x80\x80\x80\x80\x01", "\xff\xff\xff\xff\xff\xff\xff\xff\xff\x01", "\x80\x80\x80\x80\x80\x80\x80\x80\x80\x02", strings.Repeat("\xff", 100)}
}

func TestReadKeepOfEachNumberAtEachPlace(t *testing.T) {
	for _, k := range []impl.Keep{{}, threeKeep(), fullKeep(), keepOf(manySessions(1), manyItems(1))} {
		parts := keepParts(k)
		for at, part := range parts {
			if part.number < 0 {
				continue
			}
			for _, n := range keepNumbers() {
				if n >= 0 {
					checkReadKeep(t, joinedWith(parts, at, plainNumber(n)))
				}
			}
			for _, great := range greatNumbers() {
				wantNoReadKeep(t, joinedWith(parts, at, great))
			}
		}
	}
}

func TestReadKeepOfTooMany(t *testing.T) {
	for _, count := range []int{4, 5, 8, 9, 127, 128, 256, 259, 264} {
		wantNoReadKeep(t, plainKeepText(keepOf(manySessions(min(count, 40)), nil)))
		wantNoReadKeep(t, plainNumber(count)+strings.Repeat("\x01\x00\x00", count)+"\x00")
		wantNoReadKeep(t, plainNumber(count))
		wantNoReadKeep(t, plainNumber(count)+"\x00")
	}
	for _, count := range []int{9, 10, 16, 127, 128, 256, 264} {
		wantNoReadKeep(t, plainKeepText(keepOf(nil, manyItems(min(count, 100)))))
		wantNoReadKeep(t, plainKeepText(keepOf(manySessions(3), manyItems(min(count, 100)))))
		wantNoReadKeep(t, "\x00"+plainNumber(count)+strings.Repeat("\x01k\x00\x01", count))
		wantNoReadKeep(t, "\x00"+plainNumber(count))
	}
	for _, great := range append(greatNumbers(), plainNumber(impl.MaxNumber), plainNumber(1<<24)) {
		wantNoReadKeep(t, great+"\x00")
		wantNoReadKeep(t, great+strings.Repeat("\x01\x00\x00", 6000))
		wantNoReadKeep(t, "\x00"+great)
		wantNoReadKeep(t, "\x00"+great+strings.Repeat("\x01k\x00\x01", 5000))
	}
}

// A number that is one too small leaves bytes, one that is one too great
// wants some.
func TestReadKeepOfOneMoreOrLess(t *testing.T) {
	for count := range 4 {
		for many := range 9 {
			parts := keepParts(keepOf(manySessions(count), manyItems(many)))
			wantNoReadKeep(t, joinedWith(parts, 0, plainNumber(count+1)))
			wantNoReadKeep(t, joinedWith(parts, 1+4*count, plainNumber(many+1)))
			if count > 0 {
				wantNoReadKeep(t, joinedWith(parts, 0, plainNumber(count-1)))
			}
			if many > 0 {
				wantNoReadKeep(t, joinedWith(parts, 1+4*count, plainNumber(many-1)))
			}
		}
	}
}

func TestReadKeepOfWrongKeeps(t *testing.T) {
	for _, k := range wrongKeeps() {
		wantNoReadKeep(t, plainKeepText(k))
	}
	for number := range 4 {
		eachList([]int{0, 1, 2, 3, 127, 128, 1000000, 1000001}, number, func(tokens []int) {
			k := impl.Keep{}
			for _, token := range tokens {
				k.Sessions = append(k.Sessions, session(token, 4, "r"))
			}
			if checkReadKeep(t, plainKeepText(k)) != plainKeepOk(k) {
				t.Errorf("the Tokens %v are told wrong", tokens)
			}
		})
		some := []string{"", "a", "aa", "b", "B", "\xff", "aaaaaaaa", "aaaaaaaaa"}
		eachList([]int{0, 1, 2, 3, 4, 5, 6, 7}, number, func(list []int) {
			k := impl.Keep{}
			for _, which := range list {
				k.Items = append(k.Items, item(some[which], "v", 4))
			}
			if checkReadKeep(t, plainKeepText(k)) != plainKeepOk(k) {
				t.Errorf("the Keys %v are told wrong", list)
			}
		})
	}
	for at := range 7 {
		turned, twice := manyItems(8), manyItems(8)
		turned[at], turned[at+1] = turned[at+1], turned[at]
		twice[at+1].Key = twice[at].Key
		wantNoReadKeep(t, plainKeepText(keepOf(nil, turned)))
		wantNoReadKeep(t, plainKeepText(keepOf(nil, twice)))
	}
}

func TestReadKeepOfEachLength(t *testing.T) {
	for _, length := range slices.Concat([]int{127, 128, 129, 255, 256, 264, 276, 296, 19000, 20000, 20001, 70000}, lengthsTo(50)) {
		text := mixedBytes(length)
		for _, last := range []int{0, 1, 1000000} {
			k := keepOf(sessions(session(5, last, text)), manyItems(1))
			if right := length == 0 || length <= 40 && last > 0; checkReadKeep(t, plainKeepText(k)) != right {
				t.Errorf("a Reply of %d bytes with Last %d is told wrong", length, last)
			}
		}
		if checkReadKeep(t, plainKeepText(keepOf(nil, items(item("k", text, 1))))) != (length <= 20) {
			t.Errorf("a Val of %d bytes is told wrong", length)
		}
		if checkReadKeep(t, plainKeepText(keepOf(nil, items(item(text, "v", 1))))) != within(length, 1, 8) {
			t.Errorf("a Key of %d bytes is told wrong", length)
		}
	}
}

func TestReadKeepOfEveryShortText(t *testing.T) {
	read := 0
	for length := range 8 {
		eachList([]int{0, 1, 2, 'k', 128}, length, func(list []int) {
			if checkReadKeep(t, bytesOf(list)) {
				read++
			}
		})
	}
	if read < 30 {
		t.Errorf("%d texts alone were read", read)
	}
}

func TestCommandsWrittenOut(t *testing.T) {
	written := map[string]impl.Command{
		"\x01\x00\x00\x00\x00\x00":                                             askOpen(),
		"\x02\x01\x02\x01k\x01v\x00":                                           askPut(1, 2, "k", "v"),
		"\x02\x00\x00\x01k\x00\x00":                                            askPut(0, 0, "k", ""),
		"\x03\x01\x02\x01a\x00\x00":                                            askGet(1, 2, "a"),
		"\x04\xac\x02\x80\x01\x04root\x00\x00":                                 askDrop(300, 128, "root"),
		"\x05\x7f\xff\x01\x02\x00\xff\x02xy\x29":                               askSwap(127, 255, "\x00\xff", "xy", 41),
		"\x05\x01\x02\x01k\x00\x80\x94\xeb\xdc\x03":                            askSwap(1, 2, "k", "", 1000000000),
		"\x02\xc0\x84\x3d\xc0\x84\x3d\x0812345678\x14abcdefghijklmnopqrst\x00": askPut(1000000, 1000000, "12345678", "abcdefghijklmnopqrst"),
	}
	for text, x := range written {
		wantCommandText(t, x, text)
		wantReadCommand(t, text, x)
	}
}

// moreCommands have each length and each length of a number's bytes.
func moreCommands() []impl.Command {
	list := rightCommands()
	for _, n := range []int{1, 126, 127, 128, 129, 255, 256, 16383, 16384, 16385, 999999, 1000000} {
		list = append(list, askPut(n, 3, "k", "v"), askGet(3, n, "k"), askDrop(n, n, "k"), askSwap(3, 4, "k", "v", n))
	}
	for _, n := range []int{1000001, 2097151, 2097152, 268435455, 268435456, 999999999} {
		list = append(list, askSwap(3, 4, "k", "v", n))
	}
	for length := 1; length <= 20; length++ {
		list = append(list, askPut(1, 2, "k", mixedBytes(length)), askSwap(1, 2, "k", mixedBytes(length), 3))
	}
	for length := 1; length <= 8; length++ {
		key := mixedBytes(length)
		list = append(list, askPut(1, 2, key, ""), askGet(1, 2, key), askDrop(1, 2, key), askSwap(1, 2, key, key, 3))
	}
	return list
}

func TestCommandsComeBackFromTheirBytes(t *testing.T) {
	for _, x := range moreCommands() {
		wantCommandOk(t, x, true)
		wantCommandText(t, x, plainCommandText(x))
		wantReadCommand(t, plainCommandText(x), x)
	}
}

// Each command fits into an entry.
func TestCommandsAreDataOfEntries(t *testing.T) {
	longest := plainCommandText(askSwap(1000000, 1000000, mixedBytes(8), mixedBytes(20), 1000000000))
	if len(longest) > impl.MaxData || !impl.EntryOk(command(1, longest)) {
		t.Errorf("a command of %d bytes is no Data", len(longest))
	}
}

func TestCommandTextOfWrongCommands(t *testing.T) {
	for _, x := range wrongCommands() {
		wantNoCommandText(t, x)
	}
	for op := range 300 {
		if !within(op, 1, 5) {
			wantNoCommandText(t, impl.Command{Op: op})
			wantNoCommandText(t, impl.Command{Op: op, Token: 1, Seq: 2, Key: "k"})
		}
	}
}

func TestCommandTextOfEachMix(t *testing.T) {
	eachMix(func(x impl.Command) {
		if plainCommandOk(x) {
			wantCommandText(t, x, plainCommandText(x))
			wantReadCommand(t, plainCommandText(x), x)
		} else {
			wantNoCommandText(t, x)
		}
		if min(x.Token, x.Seq, x.Ver) >= 0 {
			checkReadCommand(t, plainCommandText(x))
		}
	})
}

func TestReadCommandOfNoCommand(t *testing.T) {
	for _, text := range []string{"", "\x01", "\x02", "\x01\x00\x00\x00\x00", "\x00\x00\x00\x00\x00\x00", "\x06\x00\x00\x00\x00\x00", "x", "\xff", strings.Repeat("\x00", 42), "no command", mixedBytes(42), mixedBytes(120), mixedBytes(20000), mixedBytes(70000)} {
		wantNoReadCommand(t, text)
	}
}

func TestReadCommandOfEachOp(t *testing.T) {
	for op := range 256 {
		one := bytesOf([]int{op})
		for _, behind := range []string{"\x00\x00\x00\x00\x00", "\x01\x02\x01k\x00\x00", "\x01\x02\x01k\x01v\x00", "\x01\x02\x01k\x00\x03", "\x01\x02\x01k\x01v\x03", "\x01\x00\x00\x00\x00", "\x00\x01\x00\x00\x00", "\x00\x00\x01k\x00\x00", "\x00\x00\x00\x01v\x00", "\x00\x00\x00\x00\x01"} {
			checkReadCommand(t, one+behind)
		}
		if !within(op, 1, 5) {
			for _, x := range []impl.Command{askOpen(), askPut(1, 2, "k", "v"), askGet(1, 2, "k"), askDrop(1, 2, "k"), askSwap(1, 2, "k", "v", 3)} {
				wantNoReadCommand(t, one+plainCommandText(x)[1:])
			}
			wantNoReadCommand(t, one)
		}
	}
}

func TestReadCommandOfWhatAnOpDoesNotUse(t *testing.T) {
	for _, op := range []string{"\x01", "\x02", "\x03", "\x04", "\x05"} {
		wantNoReadCommand(t, op+"\x01\x02\x00\x00\x00")
		wantNoReadCommand(t, op+"\x01\x02\x00\x01v\x03")
	}
	for _, x := range []impl.Command{{Op: 1, Token: 1}, {Op: 1, Seq: 1}, {Op: 1, Key: "k"}, {Op: 1, Val: "v"}, {Op: 1, Ver: 1}, {Op: 1, Token: 1000000, Seq: 1, Key: "k"}} {
		wantNoReadCommand(t, plainCommandText(x))
	}
	for _, ver := range []int{1, 127, 128, 1000000000} {
		wantNoReadCommand(t, plainCommandText(askSwap(1, 2, "k", "v", 0)))
		for _, x := range []impl.Command{askPut(1, 2, "k", "v"), askPut(1, 2, "k", ""), askGet(1, 2, "k"), askDrop(1, 2, "k")} {
			x.Ver = ver
			wantNoReadCommand(t, plainCommandText(x))
		}
	}
	for _, length := range []int{1, 20} {
		for _, x := range []impl.Command{askGet(1, 2, "k"), askDrop(1, 2, "k"), askOpen()} {
			x.Val = mixedBytes(length)
			wantNoReadCommand(t, plainCommandText(x))
		}
	}
}

func TestReadCommandOfTextsThatAreCut(t *testing.T) {
	for _, x := range moreCommands() {
		text := plainCommandText(x)
		for cut := range len(text) {
			wantNoReadCommand(t, text[:cut])
			checkReadCommand(t, text[cut+1:])
			checkReadCommand(t, text[:cut]+text[cut+1:])
		}
	}
}

func TestReadCommandOfTextsWithMore(t *testing.T) {
	for _, x := range moreCommands() {
		text := plainCommandText(x)
		for b := range 256 {
			wantNoReadCommand(t, text+bytesOf([]int{b}))
		}
		wantNoReadCommand(t, text+text)
		wantNoReadCommand(t, text+mixedBytes(20000))
	}
}

// fewCommands have each Op, with numbers of one byte and of more.
func fewCommands() []impl.Command {
	return []impl.Command{askOpen(), askPut(1, 2, "k", "v"), askPut(300, 20000, "12345678", mixedBytes(20)), askGet(1, 2, "k"), askGet(1000000, 128, "root"), askDrop(0, 0, "k"), askDrop(127, 16384, "ab"), askSwap(1, 2, "k", "", 1), askSwap(129, 1000000, "12345678", "vw", 1000000000)}
}

func TestReadCommandOfTextsWithOneByteTurned(t *testing.T) {
	read := 0
	for _, x := range fewCommands() {
		text := plainCommandText(x)
		for at := range len(text) {
			for b := range 256 {
				turned := text[:at] + bytesOf([]int{b}) + text[at+1:]
				if turned == text || !checkReadCommand(t, turned) {
					continue
				}
				read++
				if got, _ := impl.ReadCommand(turned); got == x {
					t.Errorf("%q and %q are one command", text, turned)
				}
			}
		}
	}
	if read < 1000 {
		t.Errorf("%d of the texts alone were read", read)
	}
}

func TestReadCommandOfNumbersInALongerForm(t *testing.T) {
	for _, x := range fewCommands() {
		parts := commandParts(x)
		for at, part := range parts {
			if part.number < 0 {
				continue
			}
			for _, longer := range longerNumbers(part.number) {
				wantNoReadCommand(t, joinedWith(parts, at, longer))
			}
		}
	}
}

func TestReadCommandOfEachNumberAtEachPlace(t *testing.T) {
	for _, x := range fewCommands() {
		parts := commandParts(x)
		for at, part := range parts {
			if part.number < 0 {
				continue
			}
			for _, n := range keepNumbers() {
				if n >= 0 {
					checkReadCommand(t, joinedWith(parts, at, plainNumber(n)))
				}
			}
			for _, great := range greatNumbers() {
				wantNoReadCommand(t, joinedWith(parts, at, great))
			}
		}
	}
}

func TestReadCommandOfEachLength(t *testing.T) {
	for _, length := range slices.Concat([]int{127, 128, 255, 256, 264, 276, 19000, 20000, 20001, 70000}, lengthsTo(50)) {
		text := mixedBytes(length)
		for _, x := range []impl.Command{askPut(1, 2, text, "v"), askGet(1, 2, text), askDrop(1, 2, text), askSwap(1, 2, text, "v", 3)} {
			if checkReadCommand(t, plainCommandText(x)) != within(length, 1, 8) {
				t.Errorf("a Key of %d bytes is told wrong of the Op %d", length, x.Op)
			}
		}
		for _, x := range []impl.Command{askPut(1, 2, "k", text), askSwap(1, 2, "k", text, 3)} {
			if checkReadCommand(t, plainCommandText(x)) != (length <= 20) {
				t.Errorf("a Val of %d bytes is told wrong of the Op %d", length, x.Op)
			}
		}
	}
}

func TestReadCommandOfEveryShortText(t *testing.T) {
	read := 0
	for _, op := range []string{"", "\x00", "\x01", "\x02", "\x03", "\x04", "\x05", "\x06", "\xff"} {
		for length := range 7 {
			eachList([]int{0, 1, 2, 'k', 128}, length, func(list []int) {
				if checkReadCommand(t, op+bytesOf(list)) {
					read++
				}
			})
		}
	}
	if read < 100 {
		t.Errorf("%d texts alone were read", read)
	}
}

func wantSameKeep(t *testing.T, a, b impl.Keep, want bool) {
	t.Helper()
	if got := impl.SameKeep(a, b); got != want {
		t.Errorf("SameKeep(%.300v, %.300v) is %v", a, b, got)
	}
	if got := impl.SameKeep(b, a); got != want {
		t.Errorf("SameKeep(%.300v, %.300v) is %v", b, a, got)
	}
}

func TestSameKeepOfKeepsThatDifferInOneField(t *testing.T) {
	wantSameKeep(t, threeKeep(), threeKeep(), true)
	for at, s := range threeKeep().Sessions {
		for _, other := range []impl.Session{session(s.Token+1, s.Last, s.Reply), session(s.Token, s.Last+1, s.Reply), session(s.Token, s.Last, s.Reply+"x"), session(s.Token, s.Last, "\x00"+s.Reply), session(s.Token, s.Last, "another"), session(s.Last, s.Token, s.Reply), {}} {
			wantSameKeep(t, threeKeep(), withSession(threeKeep(), at, other), false)
		}
		wantSameKeep(t, threeKeep(), withSession(threeKeep(), at, s), true)
	}
	for at, i := range threeKeep().Items {
		for _, other := range []impl.Item{item(i.Key+"_", i.Val, i.Ver), item(strings.ToUpper(i.Key), i.Val, i.Ver), item(i.Key, i.Val+"x", i.Ver), item(i.Key, "another", i.Ver), item(i.Key, i.Val, i.Ver+1), item(i.Key, i.Val, -i.Ver), item(i.Val, i.Key, i.Ver), item(i.Key+i.Val, "", i.Ver+1), {}} {
			wantSameKeep(t, threeKeep(), withItem(threeKeep(), at, other), false)
		}
		wantSameKeep(t, threeKeep(), withItem(threeKeep(), at, i), true)
	}
}

func TestSameKeepOfTexts(t *testing.T) {
	ofItem := func(key, val string) impl.Keep { return keepOf(nil, items(item(key, val, 4))) }
	wantSameKeep(t, ofItem("ab", "c"), ofItem("a", "bc"), false)
	wantSameKeep(t, ofItem("k", ""), ofItem("", "k"), false)
	wantSameKeep(t, ofItem("k", "v"), ofItem("k", "v\x00"), false)
	wantSameKeep(t, ofItem("k", "v"), ofItem("k", "V"), false)
	wantSameKeep(t, ofItem("k", "\xff"), ofItem("k", "\ufffd"), false)
	wantSameKeep(t, ofItem("k", mixedBytes(20)), ofItem("k", mixedBytes(20)), true)
	wantSameKeep(t, ofItem("k", mixedBytes(20)), ofItem("k", mixedBytes(19)), false)
	for at := range 40 {
		reply := []byte(mixedBytes(40))
		reply[at] ^= 1
		wantSameKeep(t, keepOf(sessions(session(1, 1, mixedBytes(40))), nil), keepOf(sessions(session(1, 1, string(reply))), nil), false)
	}
}

func TestSameKeepOfEachNumberOfEach(t *testing.T) {
	for a := range 12 {
		for b := range 12 {
			for _, rest := range []int{0, 1, 3} {
				wantSameKeep(t, keepOf(manySessions(a), manyItems(rest)), keepOf(manySessions(b), manyItems(rest)), a == b)
				wantSameKeep(t, keepOf(manySessions(rest), manyItems(a)), keepOf(manySessions(rest), manyItems(b)), a == b)
				wantSameKeep(t, keepOf(manySessions(a), manyItems(b)), keepOf(manySessions(b), manyItems(a)), a == b)
			}
		}
	}
}

func TestSameKeepOfEmptyLists(t *testing.T) {
	empty := []impl.Keep{{}, keepOf(sessions(), nil), keepOf(nil, items()), keepOf(sessions(), items()), keepOf(manySessions(2)[:0], manyItems(2)[:0])}
	for _, a := range empty {
		for _, b := range empty {
			wantSameKeep(t, a, b, true)
		}
		wantSameKeep(t, keepOf(a.Sessions, manyItems(2)), keepOf(nil, manyItems(2)), true)
		wantSameKeep(t, keepOf(manySessions(2), a.Items), keepOf(manySessions(2), nil), true)
		wantSameKeep(t, a, keepOf(sessions(session(0, 0, "")), nil), false)
		wantSameKeep(t, a, keepOf(nil, items(item("", "", 0))), false)
		wantSameKeep(t, a, impl.KeepNew(), false)
	}
}

// Those that are not right are held against each other likewise.
func TestSameKeepOfEachOrder(t *testing.T) {
	its, list := manyItems(3), manySessions(3)
	eachList([]int{0, 1, 2}, 3, func(order []int) {
		byItems := keepOf(list, items(its[order[0]], its[order[1]], its[order[2]]))
		bySessions := keepOf(sessions(list[order[0]], list[order[1]], list[order[2]]), its)
		as := slices.Equal(order, []int{0, 1, 2})
		wantSameKeep(t, keepOf(list, its), byItems, as)
		wantSameKeep(t, keepOf(list, its), bySessions, as)
		wantSameKeep(t, byItems, copyOfKeep(byItems), true)
		wantSameKeep(t, bySessions, copyOfKeep(bySessions), true)
	})
}

// toldKeep is another text for each other keep, right or not.
func toldKeep(k impl.Keep) string {
	var out strings.Builder
	for _, s := range k.Sessions {
		fmt.Fprintf(&out, "session %d %d %q\n", s.Token, s.Last, s.Reply)
	}
	for _, i := range k.Items {
		fmt.Fprintf(&out, "item %q %q %d\n", i.Key, i.Val, i.Ver)
	}
	return out.String()
}

func TestSameKeepOfEachTwo(t *testing.T) {
	list := slices.Concat(wrongKeeps(), rightKeeps(), []impl.Keep{keepOf(manySessions(100), manyItems(101)), keepOf(sessions(session(math.MinInt, math.MaxInt, mixedBytes(300))), items(item(mixedBytes(300), "", math.MinInt)))})
	for _, a := range list {
		wantSameKeep(t, a, copyOfKeep(a), true)
		for _, b := range list {
			wantSameKeep(t, a, b, toldKeep(a) == toldKeep(b))
		}
	}
}

// What lies in one memory is the same as far as it is as long.
func TestSameKeepOfListsThatAreShared(t *testing.T) {
	list, its := manySessions(3), manyItems(8)
	wantSameKeep(t, keepOf(list, its), keepOf(list, its), true)
	wantSameKeep(t, keepOf(list[:2], its), keepOf(list, its), false)
	wantSameKeep(t, keepOf(list, its), keepOf(list, its[:7]), false)
	wantSameKeep(t, keepOf(list[:2], its[:3]), keepOf(list[:2:2], its[:3:3]), true)
	wantSameKeep(t, keepOf(list[1:], its), keepOf(list[:2], its), false)
}

func drawnBytes(draw func(int) int, length int) string {
	out := make([]byte, length)
	for at := range out {
		out[at] = byte(draw(256))
	}
	return string(out)
}

// drawnUpTo has each length of a number's bytes.
func drawnUpTo(draw func(int) int, most int) int {
	n := draw(1000000)*1000 + draw(1000)
	return n % (1 + min(most, []int{3, 127, 300, 20000, 1000000, 1000000000}[draw(6)]))
}

func drawnKeep(draw func(int) int) impl.Keep {
	k, keys := impl.Keep{}, []string{}
	for token := range draw(4) {
		s := session(token*300000+1+drawnUpTo(draw, 299998), drawnUpTo(draw, 1000000), "")
		if s.Last > 0 {
			s.Reply = drawnBytes(draw, draw(41))
		}
		k.Sessions = append(k.Sessions, s)
	}
	for range draw(9) {
		keys = append(keys, drawnBytes(draw, 1+draw(8)))
	}
	slices.Sort(keys)
	for _, key := range slices.Compact(keys) {
		k.Items = append(k.Items, item(key, drawnBytes(draw, draw(21)), 1+drawnUpTo(draw, 999999999)))
	}
	return k
}

func drawnRightCommand(draw func(int) int) impl.Command {
	x := impl.Command{Op: 1 + draw(5)}
	if x.Op == impl.OpOpen {
		return x
	}
	x.Token, x.Seq, x.Key = drawnUpTo(draw, 1000000), drawnUpTo(draw, 1000000), drawnBytes(draw, 1+draw(8))
	if x.Op == impl.OpPut || x.Op == impl.OpSwap {
		x.Val = drawnBytes(draw, draw(21))
	}
	if x.Op == impl.OpSwap {
		x.Ver = 1 + drawnUpTo(draw, 999999999)
	}
	return x
}

// drawnSpoilt is the text with some of it turned, gone, put in or doubled.
func drawnSpoilt(draw func(int) int, text string) string {
	for range 1 + draw(3) {
		at := draw(len(text) + 1)
		behind := text[min(at+1+draw(3)*draw(4), len(text)):]
		switch draw(6) {
		case 0:
			text = text[:at] + behind
		case 1:
			text = text[:at] + text[len(text)-len(behind):] + behind
		case 2:
			text = text[:at] + bytesOf([]int{draw(256)}) + text[at:]
		case 3:
			text = text[:at] + bytesOf([]int{draw(10)}) + text[min(at+1, len(text)):]
		case 4:
			text = text[:at] + bytesOf([]int{draw(256)}) + text[min(at+1, len(text)):]
		}
	}
	return text
}

// Each other field is drawn, too: keeps that no commands would make.
func TestDrawnKeepsComeBack(t *testing.T) {
	draw, read, lengths := drawsFrom(160), 0, map[int]bool{}
	for range 20000 {
		k := drawnKeep(draw)
		text := plainKeepText(k)
		wantKeepOk(t, k, true)
		wantKeepText(t, k, text)
		wantReadKeep(t, text, k)
		back, _ := impl.ReadKeep(text)
		wantSameKeep(t, back, k, true)
		lengths[len(k.Sessions)*9+len(k.Items)] = true
		spoilt := drawnSpoilt(draw, text)
		if checkReadKeep(t, spoilt) {
			read++
			other, _ := plainReadKeep(spoilt)
			wantSameKeep(t, k, other, text == spoilt)
		}
	}
	if read < 2000 || read > 18000 || len(lengths) != 36 {
		t.Errorf("%d spoilt texts were read, of %d kinds", read, len(lengths))
	}
}

func TestDrawnRightCommandsComeBack(t *testing.T) {
	draw, read := drawsFrom(161), 0
	for range 40000 {
		x := drawnRightCommand(draw)
		text := plainCommandText(x)
		wantCommandOk(t, x, true)
		wantCommandText(t, x, text)
		wantReadCommand(t, text, x)
		if checkReadCommand(t, drawnSpoilt(draw, text)) {
			read++
		}
	}
	if read < 4000 || read > 36000 {
		t.Errorf("%d spoilt texts were read", read)
	}
}

// Whatever commands come, the keep comes back, and the commands do; what was
// brought back goes on as what was not.
func TestKeepsOfDrawnCommandsComeBack(t *testing.T) {
	for seed := range 100 {
		draw, k := drawsFrom(uint32(seed+16000)), impl.KeepNew()
		for index := 1; index <= 100; index++ {
			x := drawnCommand(draw, k)
			text, _ := impl.CommandText(x)
			wantCommandText(t, x, plainCommandText(x))
			wantReadCommand(t, text, x)
			back, _ := impl.ReadCommand(text)
			then, reply, _ := impl.Perform(k, index, x)
			wantKeepText(t, then, plainKeepText(then))
			wantReadKeep(t, plainKeepText(then), then)
			kept, _ := impl.ReadKeep(plainKeepText(k))
			if again, said, ok := impl.Perform(kept, index, back); !ok || said != reply || !impl.SameKeep(again, then) {
				t.Fatalf("%v at %d makes %v, %q of what was read; want %v, %q", back, index, again, said, then, reply)
			}
			k = then
		}
	}
}

func TestFoldOfFixedCommands(t *testing.T) {
	put := impl.Entry{Term: 1, Kind: impl.EntryCommand, Data: "\x02\x01\x01\x01a\x01v\x00"}
	list := []impl.Entry{
		command(1, "\x01\x00\x00\x00\x00\x00"), none(1), put, conf(1, "\x01\x02"), command(1, "no command"), put,
		command(1, "\x03\x01\x02\x01a\x00\x00"), command(1, "\x05\x01\x03\x01a\x01w\x03"), command(1, "\x05\x01\x04\x01a\x01x\x03"), command(1, "\x04\x01\x05\x01a\x00\x00"),
		command(1, "\x03\x01\x06\x01a\x00\x00"), command(1, "\x03\x01\x09\x01a\x00\x00"), put, command(1, "\x03\x02\x01\x01a\x00\x00"), command(1, ""), command(1, "\x04\x01\x07\x01a\x00\x00"),
	}
	want := []string{"open 1", "", "put 3", "", "", "put 3", "is 3 v", "put 8", "not 8", "drop", "no", "gap", "old", "none", "", "no"}
	got, said := impl.Fold(impl.KeepNew(), list, 1)
	if !slices.Equal(said, want) || !sameKeep(got, keepOf(sessions(session(1, 7, "no")), items(item("root", "", 1)))) {
		t.Errorf("Fold = %v, %q", got, said)
	}
	got, said = impl.Fold(impl.KeepNew(), list[:9], 1)
	if !slices.Equal(said, want[:9]) || !sameKeep(got, keepOf(sessions(session(1, 4, "not 8")), items(item("a", "w", 8), item("root", "", 1)))) {
		t.Errorf("Fold = %v, %q", got, said)
	}
}

// Each Data is of a command, but for one thing.
func TestFoldPassesOverDataThatIsNoCommand(t *testing.T) {
	datas := []string{""}
	for _, x := range []impl.Command{askOpen(), askPut(10, 6, "a", "new"), askDrop(10, 6, "a"), askSwap(10, 6, "a", "new", 40)} {
		text := plainCommandText(x)
		datas = append(datas, text[:len(text)-1], text[1:], text+"\x00", text+text, "\x00"+text[1:], "\x06"+text[1:], "\xff"+text[1:], text[:1]+"\x80\x00"+text[2:], text+mixedBytes(120))
	}
	for _, x := range wrongCommands() {
		if min(x.Token, x.Seq, x.Ver) >= 0 && within(x.Op, 0, 255) {
			datas = append(datas, plainCommandText(x))
		}
	}
	for _, data := range datas {
		wantUnfolded(t, threeKeep(), []impl.Entry{command(1, data)}, 50)
		got, said := wantFold(t, threeKeep(), []impl.Entry{command(1, data), command(1, plainCommandText(askOpen())), command(2, data)}, 50)
		if !slices.Equal(said, []string{"", "open 51", ""}) || !slices.Contains(got.Sessions, session(51, 0, "")) {
			t.Errorf("beside %q Fold is %v, %q", data, got, said)
		}
	}
	for kind := -1; kind <= 300; kind++ {
		if kind != impl.EntryCommand {
			wantUnfolded(t, threeKeep(), []impl.Entry{entry(1, kind, plainCommandText(askOpen()))}, 50)
		}
	}
}

// An index that Perform does not take is one of an entry all the same.
func TestFoldAtTheLimitsOfAnIndex(t *testing.T) {
	opens := commandEntries(askOpen(), askOpen(), askOpen(), askOpen())
	for index, want := range map[int][]string{
		-4: {"", "", "", ""}, -3: {"", "", "", ""}, -2: {"", "", "", "open 1"}, -1: {"", "", "open 1", "open 2"}, 0: {"", "open 1", "open 2", "open 3"}, 1: {"open 1", "open 2", "open 3", "open 4"},
		399997: {"open 399997", "open 399998", "open 399999", "open 400000"}, 399998: {"open 399998", "open 399999", "open 400000", ""}, 400000: {"open 400000", "", "", ""}, 400001: {"", "", "", ""},
		math.MinInt: {"", "", "", ""}, math.MaxInt: {"", "", "", ""}, math.MaxInt - 2: {"", "", "", ""},
	} {
		if got, said := wantFold(t, impl.KeepNew(), opens, index); !slices.Equal(said, want) {
			t.Errorf("Fold from %d on is %v, %q; want %q", index, got, said, want)
		}
	}
}

// The keep between two parts may come from its bytes.
func TestFoldInTwoPartsIsAsFoldedAtOnce(t *testing.T) {
	for seed := range 40 {
		draw := drawsFrom(uint32(seed + 16500))
		k, list := impl.KeepNew(), []impl.Entry{}
		for index := 1; index <= 40; index++ {
			switch draw(8) {
			case 0:
				list = append(list, none(index))
			case 1:
				list = append(list, command(index, drawnSpoilt(draw, plainCommandText(drawnCommand(draw, k)))))
			default:
				list = append(list, command(index, plainCommandText(drawnCommand(draw, k))))
			}
			k, _ = plainFold(impl.KeepNew(), list, 1)
		}
		for _, first := range []int{1, -3, 399980} {
			whole, replies := wantFold(t, impl.KeepNew(), list, first)
			for at := range len(list) + 1 {
				half, ahead := wantFold(t, impl.KeepNew(), list[:at], first)
				text, _ := impl.KeepText(half)
				back, ok := impl.ReadKeep(text)
				rest, behind := wantFold(t, back, list[at:], first+at)
				if !ok || !impl.SameKeep(rest, whole) || !slices.Equal(append(ahead, behind...), replies) {
					t.Fatalf("two folds at %d make %v; one makes %v", at, rest, whole)
				}
			}
		}
	}
}

// No call panics, whatever it is given.
func TestTextsOfWhateverIsGiven(t *testing.T) {
	draw, odd := drawsFrom(162), keepNumbers()
	number := func() int { return odd[draw(len(odd))] }
	text := func() string { return mixedBytes([]int{0, 1, 8, 9, 20, 21, 40, 41, 300}[draw(9)]) }
	for range 20000 {
		k, other := impl.Keep{}, impl.Keep{}
		for range draw(5) {
			k.Sessions = append(k.Sessions, session(number(), number(), text()))
		}
		for range draw(10) {
			k.Items = append(k.Items, item(text(), text(), number()))
		}
		x := impl.Command{Op: draw(8) - 1, Token: number(), Seq: number(), Key: text(), Val: text(), Ver: number()}
		if got, ok := impl.KeepText(k); ok != plainKeepOk(k) || ok && got != plainKeepText(k) || !ok && got != "" {
			t.Errorf("KeepText(%.300v) = %.300q, %v", k, got, ok)
		}
		if got, ok := impl.CommandText(x); ok != plainCommandOk(x) || ok && got != plainCommandText(x) || !ok && got != "" {
			t.Errorf("CommandText(%.300v) = %.300q, %v", x, got, ok)
		}
		wantSameKeep(t, k, k, true)
		wantSameKeep(t, k, other, len(k.Sessions)+len(k.Items) == 0)
		checkReadKeep(t, drawnBytes(draw, draw(60)))
		checkReadCommand(t, drawnBytes(draw, draw(60)))
	}
}

func TestTextsOfKeepsAreNewAndWriteIntoNothing(t *testing.T) {
	for _, one := range append(memoryKeeps(), fullKeep()) {
		k, whole := roomyKeep(one)
		was := copyOfKeep(whole)
		text, ok := impl.KeepText(k)
		impl.SameKeep(k, keepOf(k.Sessions, k.Items[:len(k.Items)/2]))
		wantNewTexts(t, []string{text}, textsOfKeep(whole)...)
		if !ok {
			text = plainKeepText(k)
		}
		first, _ := impl.ReadKeep(text)
		second, _ := impl.ReadKeep(text)
		wantNewTexts(t, append(textsOfKeep(first), textsOfKeep(second)...), text)
		wantNewTexts(t, textsOfKeep(first), textsOfKeep(second)...)
		spoilKeep(first)
		if third, _ := impl.ReadKeep(text); !sameKeep(whole, was) || !sameKeep(second, third) {
			t.Fatalf("a keep was written into, or is shared: %.300v, %.300v", whole, second)
		}
	}
}

// No two texts of one answer lie together, either.
func TestTextsThatAreReadLieApart(t *testing.T) {
	k, ok := impl.ReadKeep(plainKeepText(fullKeep()))
	texts := textsOfKeep(k)
	if !ok || len(texts) != 19 {
		t.Fatalf("%d texts were read", len(texts))
	}
	for at := range texts {
		wantNewTexts(t, texts[:at], texts[at])
	}
}

func TestTextsOfCommandsAreNew(t *testing.T) {
	for _, x := range append(fewCommands(), memoryCommands()...) {
		x.Key, x.Val = strings.Clone(x.Key), strings.Clone(x.Val)
		text, _ := impl.CommandText(x)
		wantNewTexts(t, []string{text}, x.Key, x.Val)
		first, _ := impl.ReadCommand(text)
		second, _ := impl.ReadCommand(text)
		wantNewTexts(t, []string{first.Key, first.Val}, text, second.Key, second.Val)
	}
}

// What was answered ahead says nothing of what is answered.
func TestTextsKeepNothing(t *testing.T) {
	text, put := plainKeepText(threeKeep()), plainCommandText(askPut(1, 2, "k", "v"))
	for range 3 {
		wantKeepText(t, threeKeep(), text)
		wantNoKeepText(t, wrongKeeps()[0])
		wantNoReadKeep(t, text+"\x00")
		wantReadKeep(t, text, threeKeep())
		wantNoReadKeep(t, text[:len(text)-1])
		wantNoReadKeep(t, "")
		wantReadKeep(t, "\x00\x00", impl.Keep{})
		wantCommandText(t, askPut(1, 2, "k", "v"), put)
		wantNoCommandText(t, impl.Command{})
		wantNoReadCommand(t, put+"\x00")
		wantReadCommand(t, put, askPut(1, 2, "k", "v"))
		wantNoReadCommand(t, put[:len(put)-1])
		wantSameKeep(t, threeKeep(), threeKeep(), true)
		wantSameKeep(t, threeKeep(), impl.KeepNew(), false)
	}
}
