package tests

import (
	"math"
	"slices"
	"strconv"
	"strings"
	"testing"

	"loop.example/g00232/impl"
)

func session(token, last int, reply string) impl.Session {
	return impl.Session{Token: token, Last: last, Reply: reply}
}

func item(key, val string, ver int) impl.Item { return impl.Item{Key: key, Val: val, Ver: ver} }

func sessions(list ...impl.Session) []impl.Session { return list }

func items(list ...impl.Item) []impl.Item { return list }

func keepOf(sessions []impl.Session, items []impl.Item) impl.Keep {
	return impl.Keep{Sessions: sessions, Items: items}
}

func askOpen() impl.Command { return impl.Command{Op: impl.OpOpen} }

func askPut(token, seq int, key, val string) impl.Command {
	return impl.Command{Op: impl.OpPut, Token: token, Seq: seq, Key: key, Val: val}
}

func askGet(token, seq int, key string) impl.Command {
	return impl.Command{Op: impl.OpGet, Token: token, Seq: seq, Key: key}
}

func askDrop(token, seq int, key string) impl.Command {
	return impl.Command{Op: impl.OpDrop, Token: token, Seq: seq, Key: key}
}

func askSwap(token, seq int, key, val string, ver int) impl.Command {
	return impl.Command{Op: impl.OpSwap, Token: token, Seq: seq, Key: key, Val: val, Ver: ver}
}

func sameKeep(a, b impl.Keep) bool {
	return slices.Equal(a.Sessions, b.Sessions) && slices.Equal(a.Items, b.Items)
}

// copyOfKeep has each text in memory of its own, so that what is shared is
// told.
func copyOfKeep(k impl.Keep) impl.Keep {
	k = keepOf(slices.Clone(k.Sessions), slices.Clone(k.Items))
	for at := range k.Sessions {
		k.Sessions[at].Reply = strings.Clone(k.Sessions[at].Reply)
	}
	for at := range k.Items {
		k.Items[at].Key, k.Items[at].Val = strings.Clone(k.Items[at].Key), strings.Clone(k.Items[at].Val)
	}
	return k
}

// threeKeep has numbers and texts that are unlike each other, so that one in
// the place of another is told.
func threeKeep() impl.Keep {
	return keepOf(
		sessions(session(10, 5, "put 40"), session(20, 0, ""), session(30, 7, "is 9 v")),
		items(item("a", "x", 40), item("b", "", 41), item("root", "v", 9)))
}

// manyItems have the Keys a, b, c and so on.
func manyItems(count int) []impl.Item {
	list := []impl.Item{}
	for at := range count {
		list = append(list, item(string([]byte{byte('a' + at)}), "v"+strconv.Itoa(at), at+1))
	}
	return list
}

func manySessions(count int) []impl.Session {
	list := []impl.Session{}
	for at := range count {
		list = append(list, session(10*at+10, at, strings.Repeat("r", at)))
	}
	return list
}

func plainKeepOk(k impl.Keep) bool {
	if len(k.Sessions) > 3 || len(k.Items) > 8 {
		return false
	}
	for at, s := range k.Sessions {
		if !within(s.Token, 1, 1000000) || !within(s.Last, 0, 1000000) || len(s.Reply) > 40 || s.Last == 0 && s.Reply != "" {
			return false
		}
		for _, ahead := range k.Sessions[:at] {
			if s.Token <= ahead.Token {
				return false
			}
		}
	}
	for at, i := range k.Items {
		if !within(len(i.Key), 1, 8) || len(i.Val) > 20 || !within(i.Ver, 1, 1000000000) {
			return false
		}
		for _, ahead := range k.Items[:at] {
			if strings.Compare(i.Key, ahead.Key) <= 0 {
				return false
			}
		}
	}
	return true
}

// plainCommandOk takes away what the Op uses; the rest is to be zero.
func plainCommandOk(x impl.Command) bool {
	rest := x
	rest.Op = 0
	if within(x.Op, 2, 5) {
		if !within(x.Token, 0, 1000000) || !within(x.Seq, 0, 1000000) || !within(len(x.Key), 1, 8) {
			return false
		}
		rest.Token, rest.Seq, rest.Key = 0, 0, ""
	}
	if x.Op == 2 || x.Op == 5 {
		if len(x.Val) > 20 {
			return false
		}
		rest.Val = ""
	}
	if x.Op == 5 {
		if !within(x.Ver, 1, 1000000000) {
			return false
		}
		rest.Ver = 0
	}
	return within(x.Op, 1, 5) && rest == impl.Command{}
}

// plainPerform goes through the lists, and sorts what it put behind them.
func plainPerform(k impl.Keep, index int, x impl.Command) (impl.Keep, string, bool) {
	if !plainKeepOk(k) || !within(index, 1, 400000) || !plainCommandOk(x) {
		return impl.Keep{}, "", false
	}
	k = copyOfKeep(k)
	if x.Op == 1 {
		plainOpen(&k, index)
		return k, "open " + strconv.Itoa(index), true
	}
	for at := range k.Sessions {
		s := &k.Sessions[at]
		if s.Token != x.Token {
			continue
		}
		if x.Seq-s.Last > 1 {
			return k, "gap", true
		}
		if x.Seq-s.Last < 0 || x.Seq == 0 {
			return k, "old", true
		}
		if x.Seq-s.Last == 1 {
			s.Last, s.Reply = x.Seq, plainDone(&k, index, x)
		}
		return k, s.Reply, true
	}
	return k, "none", true
}

func plainOpen(k *impl.Keep, index int) {
	list := sessions(session(index, 0, ""))
	for _, s := range k.Sessions {
		if s.Token != index {
			list = append(list, s)
		}
	}
	slices.SortFunc(list, func(a, b impl.Session) int { return a.Token - b.Token })
	k.Sessions = list[max(0, len(list)-3):]
}

func plainDone(k *impl.Keep, index int, x impl.Command) string {
	place := slices.IndexFunc(k.Items, func(i impl.Item) bool { return i.Key == x.Key })
	if x.Op == 2 && place < 0 && len(k.Items) >= 8 {
		return "full"
	}
	if x.Op != 2 && place < 0 {
		return "no"
	}
	if x.Op == 3 {
		return "is " + strconv.Itoa(k.Items[place].Ver) + " " + k.Items[place].Val
	}
	if x.Op == 5 && k.Items[place].Ver != x.Ver {
		return "not " + strconv.Itoa(k.Items[place].Ver)
	}
	k.Items = slices.DeleteFunc(k.Items, func(i impl.Item) bool { return i.Key == x.Key })
	if x.Op == 4 {
		return "drop"
	}
	k.Items = append(k.Items, item(x.Key, x.Val, index))
	slices.SortFunc(k.Items, func(a, b impl.Item) int { return strings.Compare(a.Key, b.Key) })
	return "put " + strconv.Itoa(index)
}

// plainCommandText is what an entry has as its Data.
func plainCommandText(x impl.Command) string {
	return bytesOf([]int{x.Op}) + plainNumber(x.Token) + plainNumber(x.Seq) + plainShort(x.Key) + plainShort(x.Val) + plainNumber(x.Ver)
}

func plainFold(k impl.Keep, list []impl.Entry, index int) (impl.Keep, []string) {
	replies := []string{}
	for _, e := range list {
		x, isCommand := plainReadCommand(e.Data)
		then, reply, ok := plainPerform(k, index, x)
		if e.Kind == 3 && isCommand && ok {
			k = then
			replies = append(replies, reply)
		} else {
			replies = append(replies, "")
		}
		index++
	}
	return k, replies
}

func TestKeepConstants(t *testing.T) {
	if impl.MaxSessions != 3 || impl.MaxItems != 8 {
		t.Error("a limit of keeps is another one")
	}
	if impl.OpOpen != 1 || impl.OpPut != 2 || impl.OpGet != 3 || impl.OpDrop != 4 || impl.OpSwap != 5 {
		t.Error("an Op is another one")
	}
}

func TestKeepNew(t *testing.T) {
	first, second := impl.KeepNew(), impl.KeepNew()
	want := keepOf(nil, items(item("root", "", 1)))
	if !sameKeep(first, want) || !impl.KeepOk(first) {
		t.Errorf("KeepNew() = %v", first)
	}
	spoilKeep(first)
	if !sameKeep(second, want) || !sameKeep(impl.KeepNew(), want) {
		t.Errorf("two new keeps share memory: %v", second)
	}
}

func wantKeepOk(t *testing.T, k impl.Keep, want bool) {
	t.Helper()
	if got := impl.KeepOk(k); got != want {
		t.Errorf("KeepOk(%.300v) is %v", k, got)
	}
}

func TestKeepOkOfFixedKeeps(t *testing.T) {
	wantKeepOk(t, impl.Keep{}, true)
	wantKeepOk(t, keepOf(sessions(), items()), true)
	wantKeepOk(t, threeKeep(), true)
	wantKeepOk(t, keepOf(threeKeep().Sessions, nil), true)
	wantKeepOk(t, keepOf(nil, threeKeep().Items), true)
	wantKeepOk(t, keepOf(manySessions(3), manyItems(8)), true)
	wantKeepOk(t, keepOf(manySessions(4), manyItems(8)), false)
	wantKeepOk(t, keepOf(manySessions(3), manyItems(9)), false)
}

func TestKeepOkOfEachNumberOfEach(t *testing.T) {
	for count := range 40 {
		wantKeepOk(t, keepOf(manySessions(count), nil), count <= 3)
		wantKeepOk(t, keepOf(manySessions(count), manyItems(2)), count <= 3)
		wantKeepOk(t, keepOf(nil, manyItems(count)), count <= 8)
		wantKeepOk(t, keepOf(manySessions(2), manyItems(count)), count <= 8)
	}
	for _, count := range []int{256, 257, 259, 260, 264, 1000} {
		wantKeepOk(t, keepOf(slices.Repeat(manySessions(1), count), nil), false)
		wantKeepOk(t, keepOf(manySessions(count), nil), false)
		wantKeepOk(t, keepOf(nil, slices.Repeat(manyItems(1), count)), false)
	}
}

// withSession is the keep but for one session, withItem but for one item.
func withSession(k impl.Keep, at int, s impl.Session) impl.Keep {
	k = copyOfKeep(k)
	k.Sessions[at] = s
	return k
}

func withItem(k impl.Keep, at int, i impl.Item) impl.Keep {
	k = copyOfKeep(k)
	k.Items[at] = i
	return k
}

func keepNumbers() []int {
	return []int{math.MinInt, math.MinInt + 1, -1000000, -2, -1, 0, 1, 2, 8, 9, 399999, 400000, 400001, 999999, 1000000, 1000001, 1000002, 999999999, 1000000000, 1000000001, 1<<32 - 1, 1 << 32, 1<<32 + 1, 1<<32 + 1000, 1 << 62, math.MaxInt - 1, math.MaxInt}
}

func TestKeepOkOfEachNumber(t *testing.T) {
	for _, n := range keepNumbers() {
		index, number := within(n, 1, 1000000), within(n, 1, 1000000000)
		wantKeepOk(t, keepOf(sessions(session(n, 3, "r")), nil), index)
		wantKeepOk(t, keepOf(sessions(session(n, 0, "")), threeKeep().Items), index)
		wantKeepOk(t, keepOf(nil, items(item("k", "v", n))), number)
		for at, s := range threeKeep().Sessions {
			wantKeepOk(t, withSession(threeKeep(), at, session(s.Token, n, "r")), index)
			wantKeepOk(t, withSession(threeKeep(), at, session(s.Token, n, "")), index || n == 0)
		}
		for at, i := range threeKeep().Items {
			wantKeepOk(t, withItem(threeKeep(), at, item(i.Key, i.Val, n)), number)
		}
	}
}

func TestKeepOkOfTokensInOrder(t *testing.T) {
	ofTokens := func(tokens ...int) impl.Keep {
		k := threeKeep()
		k.Sessions = nil
		for _, token := range tokens {
			k.Sessions = append(k.Sessions, session(token, 4, "r"))
		}
		return k
	}
	wantKeepOk(t, ofTokens(1, 1000000), true)
	wantKeepOk(t, ofTokens(1, 2, 3), true)
	wantKeepOk(t, ofTokens(999998, 999999, 1000000), true)
	wantKeepOk(t, ofTokens(1000000, 1), false)
	wantKeepOk(t, ofTokens(2, 1), false)
	wantKeepOk(t, ofTokens(5, 5), false)
	wantKeepOk(t, ofTokens(1, 3, 2), false)
	wantKeepOk(t, ofTokens(2, 1, 3), false)
	wantKeepOk(t, ofTokens(1, 1, 3), false)
	wantKeepOk(t, ofTokens(1, 3, 3), false)
	wantKeepOk(t, ofTokens(3, 2, 1), false)
	wantKeepOk(t, ofTokens(0, 1), false)
	wantKeepOk(t, ofTokens(-1, 0, 1), false)
	wantKeepOk(t, ofTokens(1, 1000001), false)
	for number := range 5 {
		eachList([]int{0, 1, 2, 3, 1000000, 1000001}, number, func(tokens []int) {
			k := ofTokens(tokens...)
			wantKeepOk(t, k, plainKeepOk(k))
		})
	}
}

func TestKeepOkOfKeysInOrder(t *testing.T) {
	ofKeys := func(keys ...string) impl.Keep {
		k := threeKeep()
		k.Items = nil
		for _, key := range keys {
			k.Items = append(k.Items, item(key, "v", 4))
		}
		return k
	}
	wantKeepOk(t, ofKeys("a", "b", "c"), true)
	wantKeepOk(t, ofKeys("a", "ab", "b"), true)
	wantKeepOk(t, ofKeys("B", "a"), true)
	wantKeepOk(t, ofKeys("10", "9"), true)
	wantKeepOk(t, ofKeys("\x00", "\x00\x00", "\xff", "\xff\xff"), true)
	wantKeepOk(t, ofKeys("z", "\x80"), true)
	wantKeepOk(t, ofKeys("a", "B"), false)
	wantKeepOk(t, ofKeys("9", "10"), false)
	wantKeepOk(t, ofKeys("ab", "a"), false)
	wantKeepOk(t, ofKeys("a", "a"), false)
	wantKeepOk(t, ofKeys("a", "c", "b"), false)
	wantKeepOk(t, ofKeys("b", "a", "c"), false)
	wantKeepOk(t, ofKeys("\x80", "z"), false)
	wantKeepOk(t, ofKeys("", "a"), false)
	wantKeepOk(t, ofKeys("a", ""), false)
	some := []string{"", "a", "aa", "b", "B", "aaaaaaaa", "aaaaaaaaa"}
	for number := range 5 {
		eachList([]int{0, 1, 2, 3, 4, 5, 6}, number, func(list []int) {
			keys := []string{}
			for _, which := range list {
				keys = append(keys, some[which])
			}
			k := ofKeys(keys...)
			wantKeepOk(t, k, plainKeepOk(k))
		})
	}
	for at := range 7 {
		turned := manyItems(8)
		turned[at], turned[at+1] = turned[at+1], turned[at]
		wantKeepOk(t, keepOf(nil, turned), false)
		twice := manyItems(8)
		twice[at+1].Key = twice[at].Key
		wantKeepOk(t, keepOf(nil, twice), false)
	}
}

func TestKeepOkOfEachLength(t *testing.T) {
	for _, length := range slices.Concat([]int{255, 256, 257, 264, 276, 296, 20001}, lengthsTo(70)) {
		text := mixedBytes(length)
		for at, s := range threeKeep().Sessions {
			wantKeepOk(t, withSession(threeKeep(), at, session(s.Token, 1, text)), length <= 40)
			wantKeepOk(t, withSession(threeKeep(), at, session(s.Token, 1000000, text)), length <= 40)
			wantKeepOk(t, withSession(threeKeep(), at, session(s.Token, 0, text)), length == 0)
		}
		for at, i := range threeKeep().Items {
			wantKeepOk(t, withItem(threeKeep(), at, item(i.Key, text, i.Ver)), length <= 20)
		}
		wantKeepOk(t, keepOf(nil, items(item(text, "v", 1))), within(length, 1, 8))
		wantKeepOk(t, keepOf(nil, items(item(text, "v", 1), item("\xff\xff\xff\xff\xff\xff\xff\xff", "", 1))), within(length, 1, 8))
		wantKeepOk(t, keepOf(nil, items(item("\x00", "v", 1), item("\x01"+text, "", 1))), length <= 7)
	}
}

func lengthsTo(most int) []int {
	list := []int{}
	for length := range most + 1 {
		list = append(list, length)
	}
	return list
}

func wantCommandOk(t *testing.T, x impl.Command, want bool) {
	t.Helper()
	if got := impl.CommandOk(x); got != want {
		t.Errorf("CommandOk(%.300v) is %v", x, got)
	}
}

func rightCommands() []impl.Command {
	list := []impl.Command{askOpen()}
	for _, token := range []int{0, 1, 10, 1000000} {
		for _, seq := range []int{0, 1, 1000000} {
			for _, key := range []string{"a", "\x00", "root", "12345678"} {
				list = append(list, askGet(token, seq, key), askDrop(token, seq, key))
				for _, val := range []string{"", "v", mixedBytes(20)} {
					list = append(list, askPut(token, seq, key, val))
					for _, ver := range []int{1, 41, 1000000000} {
						list = append(list, askSwap(token, seq, key, val, ver))
					}
				}
			}
		}
	}
	return list
}

// wrongCommands are right but for one field each, but for the last ones.
func wrongCommands() []impl.Command {
	list := []impl.Command{}
	rights := []impl.Command{askPut(1, 2, "k", "v"), askPut(0, 0, "k", ""), askGet(1, 2, "k"), askDrop(1, 2, "k"), askSwap(1, 2, "k", "v", 3)}
	for _, right := range rights {
		add := func(change func(x *impl.Command)) {
			x := right
			change(&x)
			list = append(list, x)
		}
		for _, n := range keepNumbers() {
			if !within(n, 0, 1000000) {
				add(func(x *impl.Command) { x.Token = n })
				add(func(x *impl.Command) { x.Seq = n })
			}
			if right.Op == impl.OpSwap && !within(n, 1, 1000000000) || right.Op != impl.OpSwap && n != 0 {
				add(func(x *impl.Command) { x.Ver = n })
			}
			if !within(n, 1, 5) {
				add(func(x *impl.Command) { x.Op = n })
			}
		}
		for _, length := range []int{0, 9, 10, 16, 255, 256, 257, 264, 20001} {
			add(func(x *impl.Command) { x.Key = mixedBytes(length) })
		}
		for _, length := range []int{1, 20, 21, 22, 40, 41, 255, 256, 276, 20001} {
			if length > 20 || right.Op == impl.OpGet || right.Op == impl.OpDrop {
				add(func(x *impl.Command) { x.Val = mixedBytes(length) })
			}
		}
	}
	for _, n := range []int{-1, 1, 2, 1000000, math.MaxInt, math.MinInt} {
		list = append(list, impl.Command{Op: impl.OpOpen, Token: n}, impl.Command{Op: impl.OpOpen, Seq: n}, impl.Command{Op: impl.OpOpen, Ver: n})
	}
	list = append(list, impl.Command{Op: impl.OpOpen, Key: "k"}, impl.Command{Op: impl.OpOpen, Val: "v"}, impl.Command{Op: impl.OpOpen, Token: 1, Seq: 1, Key: "k"})
	return append(list, impl.Command{}, impl.Command{Op: 6}, impl.Command{Op: -1}, impl.Command{Op: 2}, impl.Command{Op: 1 << 32, Key: "k"}, impl.Command{Op: 9, Token: -1, Seq: -1, Val: mixedBytes(21), Ver: -1})
}

func TestCommandOkOfFixedCommands(t *testing.T) {
	wantCommandOk(t, askOpen(), true)
	wantCommandOk(t, impl.Command{Op: 2, Token: 1, Seq: 2, Key: "k", Val: "v"}, true)
	wantCommandOk(t, impl.Command{Op: 2, Token: 1, Seq: 2, Key: "k", Val: "v", Ver: 1}, false)
	wantCommandOk(t, impl.Command{Op: 3, Token: 1, Seq: 2, Key: "k"}, true)
	wantCommandOk(t, impl.Command{Op: 3, Token: 1, Seq: 2, Key: "k", Val: "v"}, false)
	wantCommandOk(t, impl.Command{Op: 3, Token: 1, Seq: 2, Key: "k", Ver: 1}, false)
	wantCommandOk(t, impl.Command{Op: 4, Token: 1, Seq: 2, Key: "k"}, true)
	wantCommandOk(t, impl.Command{Op: 4, Token: 1, Seq: 2, Key: "k", Val: "v"}, false)
	wantCommandOk(t, impl.Command{Op: 4, Token: 1, Seq: 2, Key: "k", Ver: 1}, false)
	wantCommandOk(t, impl.Command{Op: 5, Token: 1, Seq: 2, Key: "k", Val: "v", Ver: 3}, true)
	wantCommandOk(t, impl.Command{Op: 5, Token: 1, Seq: 2, Key: "k", Ver: 3}, true)
	wantCommandOk(t, impl.Command{Op: 5, Token: 1, Seq: 2, Key: "k", Val: "v"}, false)
}

func TestCommandOkOfRightAndWrongCommands(t *testing.T) {
	for _, x := range rightCommands() {
		wantCommandOk(t, x, true)
	}
	for _, x := range wrongCommands() {
		wantCommandOk(t, x, false)
	}
}

// eachMix has each edge of one field beside each edge of the others.
func eachMix(hand func(x impl.Command)) {
	for op := -1; op <= 7; op++ {
		for _, token := range []int{-1, 0, 1, 1000000, 1000001} {
			for _, seq := range []int{-1, 0, 1, 1000000, 1000001} {
				for _, key := range []string{"", "k", "12345678", "123456789"} {
					for _, val := range []string{"", "v", mixedBytes(20), mixedBytes(21)} {
						for _, ver := range []int{-1, 0, 1, 1000000000, 1000000001} {
							hand(impl.Command{Op: op, Token: token, Seq: seq, Key: key, Val: val, Ver: ver})
						}
					}
				}
			}
		}
	}
}

func TestCommandOkOfEachMix(t *testing.T) {
	right := 0
	eachMix(func(x impl.Command) {
		want := plainCommandOk(x)
		wantCommandOk(t, x, want)
		if want {
			right++
		}
	})
	// Of Tokens and Seqs three each are right, of Keys two, of Vals three.
	if right != 1+9*2*(3+1+1+3*2) {
		t.Errorf("%d commands are right", right)
	}
}

func TestCommandOkOfEachLength(t *testing.T) {
	for length := range 60 {
		text := mixedBytes(length)
		for _, x := range []impl.Command{askPut(1, 2, text, "v"), askGet(1, 2, text), askDrop(1, 2, text), askSwap(1, 2, text, "v", 3)} {
			wantCommandOk(t, x, within(length, 1, 8))
		}
		wantCommandOk(t, askPut(1, 2, "k", text), length <= 20)
		wantCommandOk(t, askSwap(1, 2, "k", text, 3), length <= 20)
	}
}

func wantItem(t *testing.T, k impl.Keep, key string, want impl.Item) {
	t.Helper()
	if got, ok := impl.ItemOf(k, key); !ok || got != want {
		t.Errorf("ItemOf(%.300v, %.60q) = %v, %v; want %v", k, key, got, ok, want)
	}
}

func wantNoItem(t *testing.T, k impl.Keep, key string) {
	t.Helper()
	if got, ok := impl.ItemOf(k, key); ok || got != (impl.Item{}) {
		t.Errorf("ItemOf(%.300v, %.60q) = %v, %v; want none", k, key, got, ok)
	}
}

func TestItemOf(t *testing.T) {
	wantItem(t, threeKeep(), "a", item("a", "x", 40))
	wantItem(t, threeKeep(), "b", item("b", "", 41))
	wantItem(t, threeKeep(), "root", item("root", "v", 9))
	wantItem(t, impl.KeepNew(), "root", item("root", "", 1))
	for _, key := range []string{"", "A", "aa", "c", "roo", "root ", "roots", "x", "put 40", "\x00", mixedBytes(8), mixedBytes(9), mixedBytes(20001)} {
		wantNoItem(t, threeKeep(), key)
		wantNoItem(t, impl.Keep{}, key)
	}
	for count := range 9 {
		k := keepOf(nil, manyItems(count))
		for _, i := range k.Items {
			wantItem(t, k, i.Key, i)
		}
		wantNoItem(t, k, string([]byte{byte('a' + count)}))
	}
}

// The chapter names no other answer for a keep that is not right.
func TestItemOfWrongKeeps(t *testing.T) {
	wantItem(t, keepOf(manySessions(4), manyItems(9)), "i", item("i", "v8", 9))
	wantItem(t, keepOf(nil, items(item("b", "1", 1), item("a", "2", 2))), "a", item("a", "2", 2))
	wantItem(t, keepOf(nil, items(item("b", "1", 1), item("a", "2", 2))), "b", item("b", "1", 1))
	wantItem(t, keepOf(nil, items(item("a", "1", 1), item("a", "2", 2), item("a", "3", 3))), "a", item("a", "1", 1))
	wantItem(t, keepOf(nil, items(item("", "v", 1))), "", item("", "v", 1))
	wantItem(t, keepOf(nil, items(item("123456789", mixedBytes(21), -1))), "123456789", item("123456789", mixedBytes(21), -1))
	wantItem(t, keepOf(sessions(session(-1, -1, mixedBytes(41))), items(item("a", "", 0))), "a", item("a", "", 0))
	wantNoItem(t, keepOf(manySessions(4), manyItems(9)), "j")
	wantNoItem(t, keepOf(nil, items(item("b", "1", 1), item("a", "2", 2))), "")
}

func wantPerform(t *testing.T, k impl.Keep, index int, x impl.Command, reply string, want impl.Keep) {
	t.Helper()
	got, said, ok := impl.Perform(k, index, x)
	if !ok || said != reply || !sameKeep(got, want) || !impl.KeepOk(got) {
		t.Errorf("Perform(%.300v, %d, %.100v) = %.300v, %q, %v; want %.300v, %q", k, index, x, got, said, ok, want, reply)
	}
}

func wantNoPerform(t *testing.T, k impl.Keep, index int, x impl.Command) {
	t.Helper()
	if got, said, ok := impl.Perform(k, index, x); ok || said != "" || !sameKeep(got, impl.Keep{}) {
		t.Errorf("Perform(%.300v, %d, %.100v) = %.300v, %q, %v; want nothing", k, index, x, got, said, ok)
	}
}

// wantSaid: nothing is changed.
func wantSaid(t *testing.T, k impl.Keep, index int, x impl.Command, reply string) {
	t.Helper()
	wantPerform(t, k, index, x, reply, k)
}

func TestPerformOpen(t *testing.T) {
	s1, s2, s3 := session(10, 5, "put 40"), session(20, 0, ""), session(30, 7, "is 9 v")
	list := threeKeep().Items
	for _, its := range [][]impl.Item{nil, list, manyItems(8)} {
		open := func(index int, from, want []impl.Session) {
			t.Helper()
			wantPerform(t, keepOf(from, its), index, askOpen(), "open "+strconv.Itoa(index), keepOf(want, its))
		}
		open(1, nil, sessions(session(1, 0, "")))
		open(400000, nil, sessions(session(400000, 0, "")))
		open(5, sessions(s1), sessions(session(5, 0, ""), s1))
		open(15, sessions(s1), sessions(s1, session(15, 0, "")))
		open(10, sessions(s1), sessions(session(10, 0, "")))
		open(5, sessions(s1, s3), sessions(session(5, 0, ""), s1, s3))
		open(25, sessions(s1, s3), sessions(s1, session(25, 0, ""), s3))
		open(35, sessions(s1, s3), sessions(s1, s3, session(35, 0, "")))
		open(10, sessions(s1, s3), sessions(session(10, 0, ""), s3))
		open(30, sessions(s1, s3), sessions(s1, session(30, 0, "")))
		open(40, sessions(s1, s2, s3), sessions(s2, s3, session(40, 0, "")))
		open(25, sessions(s1, s2, s3), sessions(s2, session(25, 0, ""), s3))
		open(11, sessions(s1, s2, s3), sessions(session(11, 0, ""), s2, s3))
		open(10, sessions(s1, s2, s3), sessions(session(10, 0, ""), s2, s3))
		open(20, sessions(s1, s2, s3), sessions(s1, s2, s3))
		open(30, sessions(s1, s2, s3), sessions(s1, s2, session(30, 0, "")))
		// The one with the least Token is the new one itself.
		open(9, sessions(s1, s2, s3), sessions(s1, s2, s3))
		open(1, sessions(s1, s2, s3), sessions(s1, s2, s3))
		open(400000, sessions(session(1, 1, ""), session(999999, 1, ""), session(1000000, 1, "")), sessions(session(400000, 0, ""), session(999999, 1, ""), session(1000000, 1, "")))
	}
}

// threeAsks are commands that would change something each, if they were the
// next of their session.
func threeAsks(token, seq int) []impl.Command {
	return []impl.Command{askPut(token, seq, "a", "new"), askPut(token, seq, "new", "new"), askGet(token, seq, "a"), askGet(token, seq, "zz"), askDrop(token, seq, "a"), askDrop(token, seq, "zz"), askSwap(token, seq, "a", "new", 40), askSwap(token, seq, "a", "new", 41), askSwap(token, seq, "zz", "new", 40)}
}

func TestPerformWithoutSession(t *testing.T) {
	for _, token := range []int{0, 1, 9, 11, 19, 21, 29, 31, 50, 1000000} {
		for _, seq := range []int{0, 1, 5, 6, 7, 8, 1000000} {
			for _, x := range threeAsks(token, seq) {
				wantSaid(t, threeKeep(), 50, x, "none")
				wantSaid(t, keepOf(nil, threeKeep().Items), 50, x, "none")
			}
		}
	}
	wantSaid(t, impl.KeepNew(), 1, askPut(1, 1, "a", "v"), "none")
	wantSaid(t, impl.Keep{}, 1, askGet(0, 0, "root"), "none")
}

func TestPerformOfSeqs(t *testing.T) {
	for _, x := range threeAsks(10, 5) {
		wantSaid(t, threeKeep(), 50, x, "put 40")
	}
	for _, x := range threeAsks(30, 7) {
		wantSaid(t, threeKeep(), 50, x, "is 9 v")
	}
	for _, seq := range []int{7, 8, 9, 100, 999999, 1000000} {
		for _, x := range threeAsks(10, seq) {
			wantSaid(t, threeKeep(), 50, x, "gap")
		}
	}
	for _, seq := range []int{2, 3, 5, 1000000} {
		for _, x := range threeAsks(20, seq) {
			wantSaid(t, threeKeep(), 50, x, "gap")
		}
	}
	for _, seq := range []int{0, 1, 2, 3, 4} {
		for _, x := range threeAsks(10, seq) {
			wantSaid(t, threeKeep(), 50, x, "old")
		}
	}
	for _, x := range threeAsks(20, 0) {
		wantSaid(t, threeKeep(), 50, x, "old")
	}
	for _, reply := range []string{"", "x", "none", mixedBytes(40)} {
		k := keepOf(sessions(session(10, 1, reply), session(11, 1000000, reply)), threeKeep().Items)
		for at := range threeAsks(10, 1) {
			wantSaid(t, k, 50, threeAsks(10, 1)[at], reply)
			wantSaid(t, k, 50, threeAsks(11, 1000000)[at], reply)
			wantSaid(t, k, 50, threeAsks(11, 999999)[at], "old")
			wantSaid(t, k, 50, threeAsks(11, 0)[at], "old")
			wantSaid(t, k, 50, threeAsks(10, 3)[at], "gap")
		}
	}
}

// wantDone: of the session 10, whose Last is 5, the command has the Seq 6.
func wantDone(t *testing.T, its []impl.Item, index int, x impl.Command, reply string, want ...impl.Item) {
	t.Helper()
	s1, s2, s3 := session(10, 5, "put 40"), session(20, 0, ""), session(30, 7, "is 9 v")
	wantPerform(t, keepOf(sessions(s1, s2, s3), its), index, x, reply, keepOf(sessions(session(10, 6, reply), s2, s3), want))
	wantPerform(t, keepOf(sessions(s1), its), index, x, reply, keepOf(sessions(session(10, 6, reply)), want))
	last := session(10, 999999, "put 40")
	x.Seq = 1000000
	wantPerform(t, keepOf(sessions(last), its), index, x, reply, keepOf(sessions(session(10, 1000000, reply)), want))
	x.Token, x.Seq = 20, 1
	wantPerform(t, keepOf(sessions(s1, s2, s3), its), index, x, reply, keepOf(sessions(s1, session(20, 1, reply), s3), want))
	x.Token, x.Seq = 30, 8
	wantPerform(t, keepOf(sessions(s1, s2, s3), its), index, x, reply, keepOf(sessions(s1, s2, session(30, 8, reply)), want))
}

func TestPerformPut(t *testing.T) {
	a, b, root := item("a", "x", 40), item("b", "", 41), item("root", "v", 9)
	its := items(a, b, root)
	wantDone(t, nil, 1, askPut(10, 6, "k", "v"), "put 1", item("k", "v", 1))
	wantDone(t, nil, 400000, askPut(10, 6, "k", ""), "put 400000", item("k", "", 400000))
	wantDone(t, its, 50, askPut(10, 6, "A", "new"), "put 50", item("A", "new", 50), a, b, root)
	wantDone(t, its, 50, askPut(10, 6, "aa", "new"), "put 50", a, item("aa", "new", 50), b, root)
	wantDone(t, its, 50, askPut(10, 6, "c", "new"), "put 50", a, b, item("c", "new", 50), root)
	wantDone(t, its, 50, askPut(10, 6, "z", "new"), "put 50", a, b, root, item("z", "new", 50))
	wantDone(t, its, 50, askPut(10, 6, "\xff", "new"), "put 50", a, b, root, item("\xff", "new", 50))
	wantDone(t, its, 50, askPut(10, 6, "a", "new"), "put 50", item("a", "new", 50), b, root)
	wantDone(t, its, 50, askPut(10, 6, "b", "new"), "put 50", a, item("b", "new", 50), root)
	wantDone(t, its, 50, askPut(10, 6, "root", ""), "put 50", a, b, item("root", "", 50))
	wantDone(t, its, 50, askPut(10, 6, "root", mixedBytes(20)), "put 50", a, b, item("root", mixedBytes(20), 50))
	wantDone(t, its, 50, askPut(10, 6, "root", "v"), "put 50", a, b, item("root", "v", 50))
	// The chapter asks for the index, also where that is less than it was.
	wantDone(t, its, 2, askPut(10, 6, "a", "new"), "put 2", item("a", "new", 2), b, root)
	wantDone(t, its, 40, askPut(10, 6, "a", "x"), "put 40", a, b, root)
}

func TestPerformPutOfTooMany(t *testing.T) {
	for count := range 9 {
		k := manyItems(count)
		fresh := string([]byte{byte('a' + count)})
		if count == 8 {
			for _, key := range []string{fresh, "A", "bb", "zz", "a\x00", "12345678"} {
				wantDone(t, k, 50, askPut(10, 6, key, "new"), "full", k...)
			}
		} else {
			wantDone(t, k, 50, askPut(10, 6, fresh, "new"), "put 50", append(slices.Clone(k), item(fresh, "new", 50))...)
		}
		for at, i := range k {
			want := slices.Clone(k)
			want[at] = item(i.Key, "new", 50)
			wantDone(t, k, 50, askPut(10, 6, i.Key, "new"), "put 50", want...)
			wantDone(t, k, 50, askSwap(10, 6, i.Key, "new", i.Ver), "put 50", want...)
		}
	}
}

func TestPerformGet(t *testing.T) {
	its := threeKeep().Items
	wantDone(t, its, 50, askGet(10, 6, "a"), "is 40 x", its...)
	wantDone(t, its, 50, askGet(10, 6, "b"), "is 41 ", its...)
	wantDone(t, its, 50, askGet(10, 6, "root"), "is 9 v", its...)
	wantDone(t, nil, 50, askGet(10, 6, "root"), "no")
	for _, key := range []string{"A", "aa", "c", "roo", "roots", "zz", "\x00", mixedBytes(8)} {
		wantDone(t, its, 50, askGet(10, 6, key), "no", its...)
	}
	longest := items(item("k", " "+mixedBytes(18)+" ", 1000000000))
	wantDone(t, longest, 50, askGet(10, 6, "k"), "is 1000000000  "+mixedBytes(18)+" ", longest...)
	for at, i := range manyItems(8) {
		wantDone(t, manyItems(8), 50, askGet(10, 6, i.Key), "is "+strconv.Itoa(at+1)+" v"+strconv.Itoa(at), manyItems(8)...)
	}
}

func TestPerformDrop(t *testing.T) {
	its := threeKeep().Items
	wantDone(t, its, 50, askDrop(10, 6, "a"), "drop", its[1], its[2])
	wantDone(t, its, 50, askDrop(10, 6, "b"), "drop", its[0], its[2])
	wantDone(t, its, 50, askDrop(10, 6, "root"), "drop", its[0], its[1])
	wantDone(t, its[:1], 50, askDrop(10, 6, "a"), "drop")
	wantDone(t, nil, 50, askDrop(10, 6, "a"), "no")
	for _, key := range []string{"A", "aa", "c", "roo", "roots", "zz", "\x00", mixedBytes(8)} {
		wantDone(t, its, 50, askDrop(10, 6, key), "no", its...)
	}
	for at, i := range manyItems(8) {
		wantDone(t, manyItems(8), 50, askDrop(10, 6, i.Key), "drop", slices.Delete(manyItems(8), at, at+1)...)
	}
}

func TestPerformSwap(t *testing.T) {
	its := threeKeep().Items
	wantDone(t, its, 50, askSwap(10, 6, "a", "new", 40), "put 50", item("a", "new", 50), its[1], its[2])
	wantDone(t, its, 50, askSwap(10, 6, "b", "new", 41), "put 50", its[0], item("b", "new", 50), its[2])
	wantDone(t, its, 50, askSwap(10, 6, "root", "", 9), "put 50", its[0], its[1], item("root", "", 50))
	wantDone(t, its, 5, askSwap(10, 6, "root", "v", 9), "put 5", its[0], its[1], item("root", "v", 5))
	for _, ver := range []int{1, 8, 10, 39, 41, 50, 1000000000} {
		wantDone(t, its, 50, askSwap(10, 6, "a", "new", ver), "not 40", its...)
	}
	wantDone(t, its, 50, askSwap(10, 6, "b", "new", 40), "not 41", its...)
	wantDone(t, its, 50, askSwap(10, 6, "root", "new", 50), "not 9", its...)
	wantDone(t, nil, 50, askSwap(10, 6, "a", "new", 40), "no")
	for _, key := range []string{"A", "aa", "c", "roo", "roots", "zz"} {
		for _, ver := range []int{1, 9, 40, 41, 50} {
			wantDone(t, its, 50, askSwap(10, 6, key, "new", ver), "no", its...)
			wantDone(t, manyItems(8), 50, askSwap(10, 6, key+"_", "new", ver), "no", manyItems(8)...)
		}
	}
	longest := items(item("k", mixedBytes(20), 1000000000))
	wantDone(t, longest, 50, askSwap(10, 6, "k", "new", 999999999), "not 1000000000", longest...)
	wantDone(t, longest, 50, askSwap(10, 6, "k", "new", 1000000000), "put 50", item("k", "new", 50))
}

// A Key that is dropped leaves nothing behind: neither its Val nor its Ver.
func TestPerformOfWhatIsDroppedAndPutAgain(t *testing.T) {
	k := impl.KeepNew()
	index := 0
	do := func(x impl.Command, reply string) {
		t.Helper()
		index++
		then, said, ok := impl.Perform(k, index, x)
		if !ok || said != reply {
			t.Fatalf("Perform(%v, %d, %v) = %q, %v; want %q", k, index, x, said, ok, reply)
		}
		k = then
	}
	do(askOpen(), "open 1")
	do(askPut(1, 1, "k", "one"), "put 2")
	do(askPut(1, 2, "k", "two"), "put 3")
	do(askDrop(1, 3, "k"), "drop")
	do(askGet(1, 4, "k"), "no")
	do(askSwap(1, 5, "k", "three", 3), "no")
	do(askDrop(1, 6, "k"), "no")
	do(askPut(1, 7, "k", "four"), "put 8")
	wantItem(t, k, "k", item("k", "four", 8))
	do(askSwap(1, 8, "k", "five", 3), "not 8")
	do(askSwap(1, 9, "k", "five", 8), "put 10")
	do(askSwap(1, 10, "k", "six", 8), "not 10")
	do(askSwap(1, 10, "k", "six", 10), "not 10")
	do(askSwap(1, 11, "k", "six", 10), "put 13")
	do(askGet(1, 12, "k"), "is 13 six")
	wantItem(t, k, "root", item("root", "", 1))
	do(askDrop(1, 13, "root"), "drop")
	do(askOpen(), "open 16")
	do(askPut(16, 1, "root", "r"), "put 17")
	do(askDrop(1, 13, "root"), "drop")
	do(askGet(16, 2, "root"), "is 17 r")
	wantItem(t, k, "root", item("root", "r", 17))
}

// A `full` is told again, too, though there is room by then.
func TestPerformTellsTheSameAgain(t *testing.T) {
	k := keepOf(sessions(session(1, 0, ""), session(2, 0, "")), manyItems(8))
	k, said, _ := impl.Perform(k, 20, askPut(1, 1, "new", "v"))
	k, gone, _ := impl.Perform(k, 21, askDrop(2, 1, "a"))
	if said != "full" || gone != "drop" {
		t.Fatalf("it was told %q and %q", said, gone)
	}
	wantSaid(t, k, 22, askPut(1, 1, "new", "v"), "full")
	wantSaid(t, k, 22, askGet(1, 1, "b"), "full")
	wantSaid(t, k, 22, askDrop(2, 1, "a"), "drop")
	k, said, _ = impl.Perform(k, 23, askPut(1, 2, "new", "v"))
	if said != "put 23" {
		t.Errorf("it was told %q", said)
	}
	wantSaid(t, k, 24, askPut(1, 2, "new", "v"), "put 23")
	wantSaid(t, k, 24, askPut(1, 1, "new", "v"), "old")
}

// A session that is gone is not known any more; one that is opened anew with
// its Token has nothing of it.
func TestPerformBehindASessionThatIsGone(t *testing.T) {
	k, _, _ := impl.Perform(threeKeep(), 50, askOpen())
	wantSaid(t, k, 51, askPut(10, 5, "a", "x"), "none")
	wantSaid(t, k, 51, askPut(10, 6, "a", "x"), "none")
	wantSaid(t, k, 51, askGet(30, 7, "root"), "is 9 v")
	anew, _, _ := impl.Perform(threeKeep(), 10, askOpen())
	wantSaid(t, anew, 51, askPut(10, 5, "a", "x"), "gap")
	wantSaid(t, anew, 51, askPut(10, 0, "a", "x"), "old")
	wantPerform(t, anew, 51, askGet(10, 1, "a"), "is 40 x", withSession(anew, 0, session(10, 1, "is 40 x")))
}

func wrongKeeps() []impl.Keep {
	list := []impl.Keep{
		keepOf(manySessions(4), threeKeep().Items),
		keepOf(threeKeep().Sessions, manyItems(9)),
		keepOf(slices.Repeat(manySessions(1), 2), nil),
		keepOf(manySessions(1), slices.Repeat(manyItems(1), 2)),
		keepOf(manySessions(100), manyItems(100)),
	}
	for at, s := range threeKeep().Sessions {
		for _, wrong := range []impl.Session{session(0, 1, "r"), session(-1, 1, "r"), session(1000001, 1, "r"), session(s.Token, -1, ""), session(s.Token, 1000001, "r"), session(s.Token, 0, "r"), session(s.Token, 1, mixedBytes(41)), {}} {
			list = append(list, withSession(threeKeep(), at, wrong))
		}
	}
	for at, i := range threeKeep().Items {
		for _, wrong := range []impl.Item{item("", "v", 1), item(i.Key+"12345678", "v", 1), item(i.Key, mixedBytes(21), 1), item(i.Key, "v", 0), item(i.Key, "v", -1), item(i.Key, "v", 1000000001), {}} {
			list = append(list, withItem(threeKeep(), at, wrong))
		}
	}
	for at := range 2 {
		k := threeKeep()
		k.Sessions[at], k.Sessions[at+1] = k.Sessions[at+1], k.Sessions[at]
		l := threeKeep()
		l.Items[at], l.Items[at+1] = l.Items[at+1], l.Items[at]
		list = append(list, k, l)
	}
	return list
}

func TestPerformOfWrongArguments(t *testing.T) {
	right := append(threeAsks(10, 6), append(threeAsks(10, 5), append(threeAsks(1, 1), askOpen())...)...)
	for _, k := range wrongKeeps() {
		wantKeepOk(t, k, false)
		for _, x := range right {
			for _, index := range []int{1, 50, 400000} {
				wantNoPerform(t, k, index, x)
			}
		}
	}
	for _, x := range wrongCommands() {
		for _, index := range []int{1, 50, 400000} {
			wantNoPerform(t, threeKeep(), index, x)
			wantNoPerform(t, impl.KeepNew(), index, x)
		}
	}
	for _, index := range keepNumbers() {
		for _, x := range right {
			if !within(index, 1, 400000) {
				wantNoPerform(t, threeKeep(), index, x)
			} else if _, _, ok := impl.Perform(threeKeep(), index, x); !ok {
				t.Errorf("Perform at %d of %v is false", index, x)
			}
		}
	}
	wantNoPerform(t, threeKeep(), 0, impl.Command{})
	wantNoPerform(t, keepOf(manySessions(4), manyItems(9)), -1, impl.Command{Op: 6})
}

func TestPerformOfEachIndex(t *testing.T) {
	for index := -3; index <= 400003; index++ {
		if index == 1000 {
			index = 399000
		}
		if !within(index, 1, 400000) {
			wantNoPerform(t, impl.Keep{}, index, askOpen())
			continue
		}
		k, said, _ := impl.Perform(impl.Keep{}, index, askOpen())
		then, put, _ := impl.Perform(k, index, askPut(index, 1, "k", "v"))
		told := strconv.Itoa(index)
		if said != "open "+told || put != "put "+told || !sameKeep(then, keepOf(sessions(session(index, 1, "put "+told)), items(item("k", "v", index)))) {
			t.Fatalf("at %d: %q, %q, %v", index, said, put, then)
		}
	}
}

// Whatever Keys are put, they ascend, byte by byte.
func TestItemsAscendWhateverIsPut(t *testing.T) {
	keys := []string{"b", "a", "ab", "\xff", "\x00", "B", "aaaaaaaa", " "}
	sorted := slices.Sorted(slices.Values(keys))
	for from := range keys {
		for _, by := range []int{1, 3, 5, 7} {
			k := keepOf(sessions(session(1, 0, "")), nil)
			for nth := range keys {
				key := keys[(from+nth*by)%len(keys)]
				k, _, _ = impl.Perform(k, nth+2, askPut(1, nth+1, key, key))
				wantKeepOk(t, k, true)
			}
			got := []string{}
			for _, i := range k.Items {
				got = append(got, i.Key)
			}
			if !slices.Equal(got, sorted) {
				t.Errorf("the Keys are %q", got)
			}
		}
	}
}

func wantPerformAsPlain(t *testing.T, k impl.Keep, index int, x impl.Command) (impl.Keep, string) {
	t.Helper()
	want, reply, right := plainPerform(k, index, x)
	got, said, ok := impl.Perform(k, index, x)
	if ok != right || said != reply || !sameKeep(got, want) {
		t.Fatalf("Perform(%.300v, %d, %.100v) = %.300v, %q, %v; want %.300v, %q, %v", k, index, x, got, said, ok, want, reply, right)
	}
	return got, said
}

func TestPerformOfEachKeepAndCommand(t *testing.T) {
	keeps := []impl.Keep{{}, impl.KeepNew(), threeKeep(), keepOf(manySessions(2), manyItems(7)), keepOf(manySessions(3), manyItems(8)), keepOf(sessions(session(1, 1, "r"), session(10, 0, ""), session(1000000, 999999, "")), items(item("12345678", "v", 41), item("a", "", 1000000000)))}
	for _, k := range append(keeps, wrongKeeps()...) {
		for _, x := range append(rightCommands(), wrongCommands()...) {
			for _, index := range []int{0, 1, 10, 400000, 400001} {
				wantPerformAsPlain(t, k, index, x)
			}
		}
	}
}

// drawnCommand asks mostly for what is there, with the next Seq.
func drawnCommand(draw func(int) int, k impl.Keep) impl.Command {
	op := 1 + draw(5)
	if op == impl.OpOpen && draw(4) > 0 {
		op = impl.OpPut
	}
	if op == impl.OpOpen {
		return askOpen()
	}
	x := impl.Command{Op: op, Token: draw(6), Seq: draw(4), Key: string([]byte{byte('a' + draw(11))})}
	if len(k.Sessions) > 0 && draw(12) > 0 {
		s := k.Sessions[draw(len(k.Sessions))]
		x.Token, x.Seq = s.Token, s.Last+1
		if draw(5) == 0 {
			x.Seq = max(0, s.Last+draw(5)-2)
		}
	}
	if op == impl.OpPut || op == impl.OpSwap {
		x.Val = drawnText(draw, draw(21))
	}
	if op == impl.OpSwap {
		x.Ver = 1 + draw(60)
		if i, there := impl.ItemOf(k, x.Key); there && draw(3) > 0 {
			x.Ver = i.Ver
		}
	}
	return x
}

// wantSameAgain asks once more, also with another command of the same Seq: it
// changes nothing, and is replied the same.
func wantSameAgain(t *testing.T, k impl.Keep, index int, x impl.Command, reply string) {
	t.Helper()
	if x.Op == impl.OpOpen {
		return
	}
	for _, again := range append(threeAsks(x.Token, x.Seq), x) {
		for _, later := range []int{index, index + 1, 400000} {
			wantSaid(t, k, later, again, reply)
		}
	}
}

// wantPutIsGot asks for what was put, if it was.
func wantPutIsGot(t *testing.T, k, then impl.Keep, index int, x impl.Command, reply string) {
	t.Helper()
	told := strconv.Itoa(index)
	others := func(list []impl.Item) []impl.Item {
		return slices.DeleteFunc(slices.Clone(list), func(i impl.Item) bool { return i.Key == x.Key })
	}
	if !slices.Equal(others(k.Items), others(then.Items)) {
		t.Fatalf("%v at %d makes %v of %v", x, index, then, k)
	}
	if reply != "put "+told || !slices.Contains(then.Sessions, session(x.Token, x.Seq, reply)) || slices.Contains(k.Sessions, session(x.Token, x.Seq, reply)) {
		return
	}
	wantItem(t, then, x.Key, item(x.Key, x.Val, index))
	got := "is " + told + " " + x.Val
	if _, said, ok := impl.Perform(then, index+1, askGet(x.Token, x.Seq+1, x.Key)); !ok || said != got {
		t.Fatalf("what was put is %q; want %q", said, got)
	}
}

func TestDrawnCommands(t *testing.T) {
	heard := map[string]int{}
	for seed := range 150 {
		draw, k := drawsFrom(uint32(seed)), impl.KeepNew()
		for index := 1; index <= 120; index++ {
			x := drawnCommand(draw, k)
			then, reply := wantPerformAsPlain(t, k, index, x)
			wantKeepOk(t, then, true)
			wantSameAgain(t, then, index, x, reply)
			wantPutIsGot(t, k, then, index, x, reply)
			heard[strings.Fields(reply)[0]]++
			k = then
		}
	}
	for _, word := range []string{"open", "none", "gap", "old", "put", "full", "is", "no", "drop", "not"} {
		if heard[word] < 100 {
			t.Errorf("%q was told %d times alone", word, heard[word])
		}
	}
}

// What others ask between the two says nothing of what is replied, as long as
// the session is there.
func TestAskedAgainMuchLater(t *testing.T) {
	for seed := range 100 {
		draw := drawsFrom(uint32(seed + 1000))
		k := keepOf(sessions(session(1, 0, ""), session(2, 0, "")), manyItems(seed%9))
		first := drawnCommand(draw, keepOf(k.Sessions[:1], k.Items))
		if first.Op == impl.OpOpen {
			first = askGet(1, 1, "a")
		}
		first.Token, first.Seq = 1, 1
		k, reply, _ := impl.Perform(k, 10, first)
		for index := 11; index < 60; index++ {
			x := drawnCommand(draw, keepOf(k.Sessions[1:], k.Items))
			if x.Op != impl.OpOpen && x.Token != 1 {
				k, _ = wantPerformAsPlain(t, k, index, x)
			}
			wantSameAgain(t, k, index, first, reply)
		}
	}
}

// No call panics, whatever it is given.
func TestKeepsOfWhateverIsGiven(t *testing.T) {
	draw, odd := drawsFrom(15), keepNumbers()
	number := func() int { return odd[draw(len(odd))] }
	text := func() string { return mixedBytes([]int{0, 1, 8, 9, 20, 21, 40, 41, 300}[draw(9)]) }
	for range 20000 {
		k := impl.Keep{}
		for range draw(5) {
			k.Sessions = append(k.Sessions, session(number(), number(), text()))
		}
		for range draw(10) {
			k.Items = append(k.Items, item(text(), text(), number()))
		}
		x := impl.Command{Op: draw(8) - 1, Token: number(), Seq: number(), Key: text(), Val: text(), Ver: number()}
		wantKeepOk(t, k, plainKeepOk(k))
		wantCommandOk(t, x, plainCommandOk(x))
		wantPerformAsPlain(t, k, number(), x)
		wantFold(t, k, []impl.Entry{entry(number(), draw(5), text()), command(number(), text()), entry(number(), number(), text())}, number())
		impl.ItemOf(k, text())
	}
}

func wantFold(t *testing.T, k impl.Keep, list []impl.Entry, index int) (impl.Keep, []string) {
	t.Helper()
	want, replies := plainFold(k, list, index)
	got, said := impl.Fold(k, list, index)
	if !sameKeep(got, want) || !slices.Equal(said, replies) || len(said) != len(list) {
		t.Fatalf("Fold(%.300v, %.300v, %d) = %.300v, %q; want %.300v, %q", k, list, index, got, said, want, replies)
	}
	return got, said
}

// wantUnfolded: the keep is as it was, and each entry has an empty reply.
func wantUnfolded(t *testing.T, k impl.Keep, list []impl.Entry, index int) {
	t.Helper()
	got, said := wantFold(t, k, list, index)
	if !sameKeep(got, k) || !slices.Equal(said, make([]string, len(list))) {
		t.Errorf("Fold(%.300v, %.300v, %d) = %.300v, %q", k, list, index, got, said)
	}
}

func TestFoldOfNoCommands(t *testing.T) {
	put := plainCommandText(askPut(10, 6, "a", "new"))
	open := plainCommandText(askOpen())
	lists := [][]impl.Entry{
		nil, {}, {none(1)}, {none(1), none(2), none(2)}, {conf(1, "\x01"), conf(1, "\x01\x02"), none(3)},
		{command(1, ""), command(1, "\x00"), command(1, "no command"), command(1, mixedBytes(120)), command(1, mixedBytes(121))},
		{command(1, open+"x"), command(1, put[:len(put)-1]), command(1, put+"\x00"), command(1, "\x06"+put[1:])},
		{entry(1, impl.EntryNone, open), entry(1, impl.EntryConf, open), entry(1, 0, open), entry(1, 4, open), entry(1, -1, put), entry(1, math.MaxInt, put), {}},
	}
	for _, k := range append(wrongKeeps(), impl.Keep{}, impl.KeepNew(), threeKeep()) {
		for _, list := range lists {
			for _, index := range []int{math.MinInt, -1, 0, 1, 50, 400000, 400001, math.MaxInt - 1, math.MaxInt} {
				wantUnfolded(t, k, list, index)
			}
		}
	}
	for _, k := range wrongKeeps() {
		wantUnfolded(t, k, []impl.Entry{command(1, open), none(1), command(1, put)}, 50)
	}
	for _, index := range []int{math.MinInt, -5, 400001, math.MaxInt - 1, math.MaxInt} {
		wantUnfolded(t, threeKeep(), []impl.Entry{command(1, open), none(1), command(1, put)}, index)
	}
}

func commandEntries(list ...impl.Command) []impl.Entry {
	entries := []impl.Entry{}
	for at, x := range list {
		entries = append(entries, command(at, plainCommandText(x)))
	}
	return entries
}

// Each index goes on by one, also behind an entry that is no command, and at
// one where nothing is performed.
func TestFoldOfCommands(t *testing.T) {
	list := commandEntries(askOpen(), askPut(50, 1, "k", "v"), askPut(50, 1, "k", "w"), askGet(50, 2, "k"), askDrop(50, 3, "k"), askGet(50, 9, "k"))
	list = slices.Insert(list, 2, none(1), entry(1, impl.EntryConf, plainCommandText(askOpen())), command(1, "no command"))
	list = append(list, commandEntries(askSwap(50, 4, "root", "new", 9), askGet(30, 8, "root"))...)
	list = append(list, entry(-1, impl.EntryCommand, plainCommandText(askOpen())), entry(impl.MaxTerm+1, impl.EntryCommand, plainCommandText(askOpen())))
	for _, index := range []int{math.MinInt, -7, -1, 0, 1, 49, 50, 51, 399990, 399995, 399999, 400000, 400001, math.MaxInt - 3, math.MaxInt} {
		for _, k := range append(wrongKeeps(), impl.Keep{}, impl.KeepNew(), threeKeep(), keepOf(sessions(session(50, 0, "")), manyItems(8))) {
			wantFold(t, k, list, index)
		}
	}
}

func TestFoldOfDrawnCommands(t *testing.T) {
	for seed := range 100 {
		draw := drawsFrom(uint32(seed + 2000))
		k, list := impl.KeepNew(), []impl.Entry{}
		for index := 1; index <= 60; index++ {
			if draw(8) == 0 {
				list = append(list, none(index))
				continue
			}
			x := drawnCommand(draw, k)
			list = append(list, command(index, plainCommandText(x)))
			k, _, _ = plainPerform(k, index, x)
		}
		whole, replies := wantFold(t, impl.KeepNew(), list, 1)
		for _, at := range []int{0, 1, 17, 59, 60} {
			half, first := wantFold(t, impl.KeepNew(), list[:at], 1)
			rest, second := wantFold(t, half, list[at:], at+1)
			if !sameKeep(rest, whole) || !slices.Equal(append(first, second...), replies) {
				t.Fatalf("two folds at %d make %v; one makes %v", at, rest, whole)
			}
		}
	}
}

// roomyKeep has spare room behind its lists, which are all in the second.
func roomyKeep(k impl.Keep) (impl.Keep, impl.Keep) {
	whole := copyOfKeep(k)
	whole.Sessions = append(whole.Sessions, session(-8, -8, "spare"), session(-9, -9, "room"))
	whole.Items = append(whole.Items, item("spare", "spare", -8), item("room", "room", -9))
	return keepOf(whole.Sessions[:len(k.Sessions)], whole.Items[:len(k.Items)]), whole
}

func spoilKeep(k impl.Keep) {
	ofSessions, ofItems := k.Sessions[:cap(k.Sessions)], k.Items[:cap(k.Items)]
	for at := range ofSessions {
		ofSessions[at] = session(-7, -7, "spoilt")
	}
	for at := range ofItems {
		ofItems[at] = item("spoilt", "spoilt", -7)
	}
}

func textsOfKeep(k impl.Keep) []string {
	list := []string{}
	for _, s := range k.Sessions {
		list = append(list, s.Reply)
	}
	for _, i := range k.Items {
		list = append(list, i.Key, i.Val)
	}
	return list
}

func wantNewTexts(t *testing.T, answer []string, from ...string) {
	t.Helper()
	for _, text := range answer {
		if slices.ContainsFunc(from, func(other string) bool { return lieTogether(text, other) }) {
			t.Fatalf("the text %.40q of an answer lies in an argument", text)
		}
	}
}

func memoryKeeps() []impl.Keep {
	return append(wrongKeeps(), impl.Keep{}, impl.KeepNew(), threeKeep(), keepOf(manySessions(3), manyItems(8)), keepOf(manySessions(2), nil), keepOf(nil, manyItems(3)))
}

func memoryCommands() []impl.Command {
	list := slices.Concat(threeAsks(10, 0), threeAsks(10, 1), threeAsks(10, 5), threeAsks(10, 6), threeAsks(20, 1), threeAsks(30, 7), threeAsks(1, 1), []impl.Command{askOpen(), {}, askPut(10, 6, "", "v")})
	for at := range list {
		list[at].Key, list[at].Val = strings.Clone(list[at].Key), strings.Clone(list[at].Val)
	}
	return list
}

func TestPerformIsNewAndWritesIntoNothing(t *testing.T) {
	for _, one := range memoryKeeps() {
		for _, x := range memoryCommands() {
			k, whole := roomyKeep(one)
			was := copyOfKeep(whole)
			impl.KeepOk(k)
			then, reply, _ := impl.Perform(k, 15, x)
			wantNewTexts(t, append(textsOfKeep(then), reply), append(textsOfKeep(whole), x.Key, x.Val)...)
			spoilKeep(then)
			if !sameKeep(whole, was) {
				t.Fatalf("a keep was written into, or is shared: %.300v; it was %.300v", whole, was)
			}
		}
	}
}

func TestItemOfIsNewAndWritesIntoNothing(t *testing.T) {
	for _, one := range memoryKeeps() {
		k, whole := roomyKeep(one)
		was := copyOfKeep(whole)
		for _, i := range k.Items {
			key := strings.Clone(i.Key)
			got, _ := impl.ItemOf(k, key)
			wantNewTexts(t, []string{got.Key, got.Val}, append(textsOfKeep(whole), key)...)
		}
		impl.ItemOf(k, "not there")
		if !sameKeep(whole, was) {
			t.Fatalf("a keep was written into: %.300v; it was %.300v", whole, was)
		}
	}
}

func TestFoldIsNewAndWritesIntoNothing(t *testing.T) {
	longReply := keepOf(sessions(session(10, 5, mixedBytes(40))), manyItems(3))
	lists := [][]impl.Entry{nil, {none(1)}, commandEntries(askGet(10, 5, "a")), commandEntries(memoryCommands()...), {none(1), conf(1, "\x01"), command(1, mixedBytes(100))}}
	for _, one := range append(memoryKeeps(), longReply) {
		for _, list := range lists {
			k, whole := roomyKeep(one)
			was := copyOfKeep(whole)
			roomyList := append(slices.Clone(list), entry(-1, -1, "spare"), entry(-2, -2, "room"))
			wasList := slices.Clone(roomyList)
			then, replies := impl.Fold(k, roomyList[:len(list)], 15)
			texts := textsOfKeep(whole)
			for _, e := range roomyList {
				texts = append(texts, e.Data)
			}
			wantNewTexts(t, append(textsOfKeep(then), replies...), texts...)
			spoilKeep(then)
			for at := range cap(replies) {
				replies[:cap(replies)][at] = "spoilt"
			}
			if !sameKeep(whole, was) || !slices.Equal(roomyList, wasList) {
				t.Fatalf("an argument was written into, or is shared: %.300v, %.300v", whole, roomyList)
			}
		}
	}
}

// What was answered ahead says nothing of what is answered.
func TestKeepsKeepNothing(t *testing.T) {
	put := withItem(withSession(threeKeep(), 0, session(10, 6, "put 50")), 0, item("a", "new", 50))
	for range 3 {
		wantPerform(t, threeKeep(), 50, askPut(10, 6, "a", "new"), "put 50", put)
		wantSaid(t, threeKeep(), 50, askPut(10, 7, "a", "new"), "gap")
		wantSaid(t, put, 51, askPut(10, 6, "a", "new"), "put 50")
		wantNoPerform(t, threeKeep(), 0, askOpen())
		wantItem(t, threeKeep(), "a", item("a", "x", 40))
		wantNoItem(t, threeKeep(), "c")
		wantUnfolded(t, put, []impl.Entry{none(1)}, 1)
		wantKeepOk(t, put, true)
		wantCommandOk(t, askOpen(), true)
		wantCommandOk(t, impl.Command{}, false)
	}
}
